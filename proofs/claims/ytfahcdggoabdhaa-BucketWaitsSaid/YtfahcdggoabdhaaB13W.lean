/- Layer 13: awake: what every right program does with a bucket. -/
import Derived.Test.YtfahcdggoabdhaaB13S
import Derived.Test.YtfahcdggoabdhaaSame13
import Derived.Test.YtfahcdggoabdhaaKitE
import Derived.Deep.RegionHeld3
import Derived.Deep.DeepCutAuto
namespace Go.Proofs.Ytfahcdggoabdhaa
open Go.RowKit
set_option linter.unusedVariables false
set_option linter.unusedSimpArgs false

theorem kb_f0 (w : World) : Calls Try.prog 17 #[.agg #[.int .i64 2, .int .i64 1], .int .i64 0] w fun e w' => e = .returned (.agg #[.int .i64 2, .int .i64 0]) ∧ Below w.heap.size w w' := by
  have h := bfull_any 2 1 0 w
  unfold twV at h
  rw [show hldN 0 0 1099511627776 = 0 from by decide +kernel] at h
  exact h
theorem kb_f5 (w : World) : Calls Try.prog 17 #[.agg #[.int .i64 2, .int .i64 1], .int .i64 5] w fun e w' => e = .returned (.agg #[.int .i64 2, .int .i64 5]) ∧ Below w.heap.size w w' := by
  have h := bfull_any 2 1 5 w
  unfold twV at h
  rw [show hldN 5 0 1099511627776 = 5 from by decide +kernel] at h
  exact h
theorem kb_tk (w : World) : Calls Try.prog 7 #[.agg #[.int .i64 2, .int .i64 1], .agg #[.int .i64 2, .int .i64 5], .int .i64 3, .int .i64 2] w fun e w' => e = .returned (.tuple #[.agg #[.int .i64 0, .int .i64 5], .bool true]) ∧ Below w.heap.size w w' := by
  have h := btake_any 2 1 2 5 3 2 w
  unfold twV at h
  rw [show tkT 2 1 2 5 3 2 = 0 from by decide +kernel] at h
  rw [show tkA 2 1 2 5 3 2 = 5 from by decide +kernel] at h
  rw [show tkB 2 1 2 5 3 2 = true from by decide +kernel] at h
  exact h
theorem kb_lv (w : World) : Calls Try.prog 9 #[.agg #[.int .i64 2, .int .i64 1], .agg #[.int .i64 0, .int .i64 1], .int .i64 9] w fun e w' => e = .returned (.int .i64 2) ∧ Below w.heap.size w w' := by
  have h := blevel_any 2 1 0 1 9 w
  unfold twV at h
  rw [show lvlN 2 1 0 1 9 = 2 from by decide +kernel] at h
  exact h
theorem kb_w2 (w : World) : Calls Try.prog 11 #[.agg #[.int .i64 2, .int .i64 1], .agg #[.int .i64 0, .int .i64 1], .int .i64 1, .int .i64 2] w fun e w' => e = .returned (.int .i64 2) ∧ Below w.heap.size w w' := by
  have h := bwait_any 2 1 0 1 1 2 (by decide) w
  unfold twV at h
  rw [show waitN 2 1 0 1 1 2 = 2 from by decide +kernel] at h
  exact h
theorem kb_w3 (w : World) : Calls Try.prog 11 #[.agg #[.int .i64 2, .int .i64 1], .agg #[.int .i64 0, .int .i64 1], .int .i64 1, .int .i64 3] w fun e w' => e = .returned (.int .i64 (-1)) ∧ Below w.heap.size w w' := by
  have h := bwait_any 2 1 0 1 1 3 (by decide) w
  unfold twV at h
  rw [show waitN 2 1 0 1 1 3 = -1 from by decide +kernel] at h
  exact h
theorem kb_c1 (w : World) : Calls Try.prog 15 #[.agg #[.int .i64 2, .int .i64 1]] w fun e w' => e = .returned (.int .i64 0) ∧ Below w.heap.size w w' := by
  have h := bcheck_any 2 1 w
  unfold twV at h
  rw [show cnfE 2 1 = 0 from by decide +kernel] at h
  exact h
theorem kb_c0 (w : World) : Calls Try.prog 15 #[.agg #[.int .i64 0, .int .i64 0]] w fun e w' => e = .returned (.int .i64 8) ∧ Below w.heap.size w w' := by
  have h := bcheck_any 0 0 w
  unfold twV at h
  rw [show cnfE 0 0 = 8 from by decide +kernel] at h
  exact h
theorem kb_n1 (w : World) : Calls Try.prog 13 #[.agg #[.int .i64 2, .int .i64 1], .agg #[.int .i64 0, .int .i64 1]] w fun e w' => e = .returned (.bool true) ∧ Below w.heap.size w w' := by
  have h := bfine_any 2 1 0 1 w
  unfold twV at h
  rw [show finB 2 1 0 1 = true from by decide +kernel] at h
  exact h
theorem kb_n0 (w : World) : Calls Try.prog 13 #[.agg #[.int .i64 2, .int .i64 1], .agg #[.int .i64 3, .int .i64 0]] w fun e w' => e = .returned (.bool false) ∧ Below w.heap.size w w' := by
  have h := bfine_any 2 1 3 0 w
  unfold twV at h
  rw [show finB 2 1 3 0 = false from by decide +kernel] at h
  exact h
theorem kb_mo (w : World) : Calls Try.prog 23 #[.agg #[.int .i64 2, .int .i64 1], .int .i64 10] w fun e w' => e = .returned (.int .i64 12) ∧ Below w.heap.size w w' := by
  have h := bmost_any 2 1 10 w
  unfold twV at h
  rw [show mostN 2 1 10 = 12 from by decide +kernel] at h
  exact h
theorem kb_s1 (w : World) : Calls Try.prog 25 #[.agg #[.int .i64 2, .int .i64 1], .agg #[.int .i64 0, .int .i64 1], .agg #[.int .i64 1, .int .i64 2], .int .i64 2] w fun e w' => e = .returned (.bool true) ∧ Below w.heap.size w w' := by
  have h := bsame_any 2 1 0 1 1 2 2 w
  unfold twV at h
  rw [show sameB13 2 1 0 1 1 2 2 = true from by decide +kernel] at h
  exact h
theorem kb_s0 (w : World) : Calls Try.prog 25 #[.agg #[.int .i64 2, .int .i64 1], .agg #[.int .i64 0, .int .i64 1], .agg #[.int .i64 0, .int .i64 5], .int .i64 5] w fun e w' => e = .returned (.bool false) ∧ Below w.heap.size w w' := by
  have h := bsame_any 2 1 0 1 0 5 5 w
  unfold twV at h
  rw [show sameB13 2 1 0 1 0 5 5 = false from by decide +kernel] at h
  exact h
theorem kb_rn (v : Value) (w : World) (h : IsI w v [0, 0, 0, 1]) : Calls Try.prog 20 #[.agg #[.int .i64 2, .int .i64 1], .agg #[.int .i64 2, .int .i64 0], v] w fun e w' => ∃ o, e = .returned (.tuple #[.agg #[.int .i64 0, .int .i64 1], o]) ∧ OwnBo w' w.heap.size o [true, true, false, true] ∧ Below w.heap.size w w' := by
  have h := brun_any 2 1 2 0 v [0, 0, 0, 1] w h (by decide)
  unfold twV at h
  rw [show (runB 2 1 [0, 0, 0, 1] (2, 0)).1.1 = 0 from by decide +kernel, show (runB 2 1 [0, 0, 0, 1] (2, 0)).1.2 = 1 from by decide +kernel, show (runB 2 1 [0, 0, 0, 1] (2, 0)).2 = [true, true, false, true] from by decide +kernel] at h
  exact h
theorem isI_four {w : World} {b : Nat} {x y z t : Int} (h : w.cell? ⟨b, 0, none⟩ = some (.int .i64 x) ∧ w.cell? ⟨b, 1, none⟩ = some (.int .i64 y) ∧ w.cell? ⟨b, 2, none⟩ = some (.int .i64 z) ∧ w.cell? ⟨b, 3, none⟩ = some (.int .i64 t)) : IsI w (.slice (some ⟨b, 0, none⟩) 4 4) [x, y, z, t] :=
  ⟨_, 4, rfl, fun j hj => ⟨b, 0, rfl, by
    match j, hj with
    | 0, _ => exact h.1
    | 1, _ => exact h.2.1
    | 2, _ => exact h.2.2.1
    | 3, _ => exact h.2.2.2⟩⟩
theorem isBo_four {w : World} {b : Nat} {x y z t : Bool} (h : w.cell? ⟨b, 0, none⟩ = some (.bool x) ∧ w.cell? ⟨b, 1, none⟩ = some (.bool y) ∧ w.cell? ⟨b, 2, none⟩ = some (.bool z) ∧ w.cell? ⟨b, 3, none⟩ = some (.bool t)) : IsBo w (.slice (some ⟨b, 0, none⟩) 4 4) [x, y, z, t] :=
  ⟨_, 4, rfl, fun j hj => ⟨b, 0, rfl, by
    match j, hj with
    | 0, _ => exact h.1
    | 1, _ => exact h.2.1
    | 2, _ => exact h.2.2.1
    | 3, _ => exact h.2.2.2⟩⟩
set_option maxRecDepth 100000 in
set_option maxHeartbeats 8000000 in
theorem awake_any (w : World) : Calls Try.prog 19 #[] w fun e w' => e = .returned (.bool true) ∧ Below w.heap.size w w' := by
  go_enter Try.func19, Try.ntmps19
  go_upto_region 2 with fail
  refine gen_world (F := fun W => Bx2 W w.heap.size 2 1 ∧ Below w.heap.size w W ∧ w.heap.size + 1 ≤ W.heap.size) ⟨by simp [Bx2, go_sem], by (repeat (first | (with_reducible exact Below.refl _ _) | ((with_reducible refine below_alloc ?_ ?_ _); · (first | omega | (simp; done) | (simp; omega))) | ((with_reducible refine below_setCell ?_ ?_ _); · (first | omega | (simp; done) | (simp; omega))) | (with_reducible refine Below.drew ?_) | (with_reducible refine below_drewN ?_ _) | ((with_reducible refine below_call (by assumption) ?_ ?_); · (first | omega | (simp; done) | (simp; omega))))), by simp⟩ (fun wt hF => ?_)
  obtain ⟨X, hB, hz⟩ := hF
  have hk : ∀ w', Below wt.heap.size wt w' → (w'.cell? ⟨w.heap.size, 0, none⟩ = some (.int .i64 2) ∧ w'.cell? ⟨w.heap.size, 1, none⟩ = some (.int .i64 1)) := fun w' hb => X.call hb
  clear X
  go_cut [2, 3] (fun px v' wx => ∃ (q : Nat) (v : Value), px = .pointer (some ⟨q, 0, none⟩) ∧ v = v' ∧ Bx2 wx q 0 1 ∧ IsBo wx v [true, true, false, true] ∧ Below wt.heap.size wt wx ∧ wt.heap.size ≤ q)
  case first =>
    go_region_held3 (fun w' => w'.cell? ⟨w.heap.size, 0, none⟩ = some (.int .i64 2) ∧ w'.cell? ⟨w.heap.size, 1, none⟩ = some (.int .i64 1)) (exact hk _ (by (repeat (first | (with_reducible exact Below.refl _ _) | ((with_reducible refine below_alloc ?_ ?_ _); · (first | omega | (simp; done) | (simp; omega))) | ((with_reducible refine below_setCell ?_ ?_ _); · (first | omega | (simp; done) | (simp; omega))) | (with_reducible refine Below.drew ?_) | (with_reducible refine below_drewN ?_ _) | ((with_reducible refine below_call (by assumption) ?_ ?_); · (first | omega | (simp; done) | (simp; omega))))))) (first | ((with_reducible refine (kb_f0 _).mono ?_); rintro e w1 ⟨rfl, hb1⟩; have hT1 : Below wt.heap.size wt w1 := (by (repeat (first | (with_reducible exact Below.refl _ _) | ((with_reducible refine below_alloc ?_ ?_ _); · (first | omega | (simp; done) | (simp; omega))) | ((with_reducible refine below_setCell ?_ ?_ _); · (first | omega | (simp; done) | (simp; omega))) | (with_reducible refine Below.drew ?_) | (with_reducible refine below_drewN ?_ _) | ((with_reducible refine below_call (by assumption) ?_ ?_); · (first | omega | (simp; done) | (simp; omega)))))); have hs1 := hT1.size; (first | (refine told_cells (n := wt.heap.size + 2) hb1 ?_ ?_; (· (first | omega | (simp; done) | (simp; omega))); intro hk1 hf1 hy1) | (refine told_cells (n := wt.heap.size + 1) hb1 ?_ ?_; (· (first | omega | (simp; done) | (simp; omega))); intro hk1 hf1 hy1) | skip); (try (refine told_lt (a := wt.heap.size) (b := w1.heap.size) ?_ ?_; (· omega); intro hz1a hn1a hg1a)); (try (refine told_lt (a := wt.heap.size + 1) (b := w1.heap.size) ?_ ?_; (· omega); intro hz1b hn1b hg1b))) | ((with_reducible refine (kb_rn _ _ (isI_four (by simp [go_sem, *]))).mono ?_); rintro e w2 ⟨v2, rfl, ho2, hb2⟩; have hT2 : Below wt.heap.size wt w2 := (by (repeat (first | (with_reducible exact Below.refl _ _) | ((with_reducible refine below_alloc ?_ ?_ _); · (first | omega | (simp; done) | (simp; omega))) | ((with_reducible refine below_setCell ?_ ?_ _); · (first | omega | (simp; done) | (simp; omega))) | (with_reducible refine Below.drew ?_) | (with_reducible refine below_drewN ?_ _) | ((with_reducible refine below_call (by assumption) ?_ ?_); · (first | omega | (simp; done) | (simp; omega)))))); have hs2 := hT2.size; (first | (refine told_cells (n := w1.heap.size + 2) hb2 ?_ ?_; (· (first | omega | (simp; done) | (simp; omega))); intro hk2 hf2 hy2) | (refine told_cells (n := w1.heap.size + 1) hb2 ?_ ?_; (· (first | omega | (simp; done) | (simp; omega))); intro hk2 hf2 hy2) | (refine told_cells (n := w1.heap.size + 0) hb2 ?_ ?_; (· (first | omega | (simp; done) | (simp; omega))); intro hk2 hf2 hy2) | skip); (try (refine told_lt (a := wt.heap.size) (b := w2.heap.size) ?_ ?_; (· omega); intro hz2a hn2a hg2a)); (try (refine told_lt (a := wt.heap.size + 1) (b := w2.heap.size) ?_ ?_; (· omega); intro hz2b hn2b hg2b)); (try (refine told_lt (a := w1.heap.size) (b := w2.heap.size) ?_ ?_; (· omega); intro hz2c hn2c hg2c)); (try (refine told_lt (a := w1.heap.size + 1) (b := w2.heap.size) ?_ ?_; (· omega); intro hz2d hn2d hg2d))))
    all_goals (go_wp2_with fail; go_meet; refine ⟨_, _, rfl, rfl, ?_, ?_, show Below wt.heap.size wt _ by (repeat (first | (with_reducible exact Below.refl _ _) | ((with_reducible refine below_alloc ?_ ?_ _); · (first | omega | (simp; done) | (simp; omega))) | ((with_reducible refine below_setCell ?_ ?_ _); · (first | omega | (simp; done) | (simp; omega))) | (with_reducible refine Below.drew ?_) | (with_reducible refine below_drewN ?_ _) | ((with_reducible refine below_call (by assumption) ?_ ?_); · (first | omega | (simp; done) | (simp; omega))))), ?_⟩)
    all_goals (first | omega | exact ((ho2.below _ _ (by show _ < _; first | omega | (simp; done) | (simp; omega))).below _ _ (by show _ < _; first | omega | (simp; done) | (simp; omega))).reads | exact (ho2.reads.call (show Below w2.heap.size w2 _ by (repeat (first | (with_reducible exact Below.refl _ _) | ((with_reducible refine below_alloc ?_ ?_ _); · (first | omega | (simp; done) | (simp; omega))) | ((with_reducible refine below_setCell ?_ ?_ _); · (first | omega | (simp; done) | (simp; omega))) | (with_reducible refine Below.drew ?_) | (with_reducible refine below_drewN ?_ _) | ((with_reducible refine below_call (by assumption) ?_ ?_); · (first | omega | (simp; done) | (simp; omega))))))) | skip)
    all_goals (first | (simp [Bx2, go_sem]; done) | (simp [Bx2, go_sem, *]; done) | skip)
  case rest =>
    obtain ⟨q, v, rfl, rfl, Q, L, hBx, hq⟩ := hcut
    go_upto_region 3 with fail
    refine gen_world (F := fun W => Bx2 W w.heap.size 2 1 ∧ Bx2 W q 0 1 ∧ IsBo W v [true, true, false, true] ∧ Below w.heap.size w W ∧ w.heap.size + 1 ≤ W.heap.size) ⟨hk _ hBx, Q, L, hB.trans (hBx.mono hB.size), Nat.le_trans hz hBx.size⟩ (fun wt hF => ?_)
    clear hk hB hz hBx hq Q L
    obtain ⟨X, Q, L, hB, hz⟩ := hF
    have hk : ∀ w', Below wt.heap.size wt w' → (w'.cell? ⟨w.heap.size, 0, none⟩ = some (.int .i64 2) ∧ w'.cell? ⟨w.heap.size, 1, none⟩ = some (.int .i64 1)) := fun w' hb => X.call hb
    go_cut [4, 5] (fun py is wx => ∃ r : Nat, py = .pointer (some ⟨r, 0, none⟩) ∧ is = .bool true ∧ Bx2 wx r 0 5 ∧ Below wt.heap.size wt wx)
    case first =>
      clear X Q L
      go_region_held3 (fun w' => w'.cell? ⟨w.heap.size, 0, none⟩ = some (.int .i64 2) ∧ w'.cell? ⟨w.heap.size, 1, none⟩ = some (.int .i64 1)) (exact hk _ (by (repeat (first | (with_reducible exact Below.refl _ _) | ((with_reducible refine below_alloc ?_ ?_ _); · (first | omega | (simp; done) | (simp; omega))) | ((with_reducible refine below_setCell ?_ ?_ _); · (first | omega | (simp; done) | (simp; omega))) | (with_reducible refine Below.drew ?_) | (with_reducible refine below_drewN ?_ _) | ((with_reducible refine below_call (by assumption) ?_ ?_); · (first | omega | (simp; done) | (simp; omega))))))) (first | ((with_reducible refine (kb_f5 _).mono ?_); rintro e w1 ⟨rfl, hb1⟩; have hT1 : Below wt.heap.size wt w1 := (by (repeat (first | (with_reducible exact Below.refl _ _) | ((with_reducible refine below_alloc ?_ ?_ _); · (first | omega | (simp; done) | (simp; omega))) | ((with_reducible refine below_setCell ?_ ?_ _); · (first | omega | (simp; done) | (simp; omega))) | (with_reducible refine Below.drew ?_) | (with_reducible refine below_drewN ?_ _) | ((with_reducible refine below_call (by assumption) ?_ ?_); · (first | omega | (simp; done) | (simp; omega)))))); have hs1 := hT1.size; (first | (refine told_cells (n := wt.heap.size + 2) hb1 ?_ ?_; (· (first | omega | (simp; done) | (simp; omega))); intro hk1 hf1 hy1) | (refine told_cells (n := wt.heap.size + 1) hb1 ?_ ?_; (· (first | omega | (simp; done) | (simp; omega))); intro hk1 hf1 hy1) | skip); (try (refine told_lt (a := wt.heap.size) (b := w1.heap.size) ?_ ?_; (· omega); intro hz1a hn1a hg1a)); (try (refine told_lt (a := wt.heap.size + 1) (b := w1.heap.size) ?_ ?_; (· omega); intro hz1b hn1b hg1b))) | ((with_reducible refine (kb_tk _).mono ?_); rintro e w2 ⟨rfl, hb2⟩; have hT2 : Below wt.heap.size wt w2 := (by (repeat (first | (with_reducible exact Below.refl _ _) | ((with_reducible refine below_alloc ?_ ?_ _); · (first | omega | (simp; done) | (simp; omega))) | ((with_reducible refine below_setCell ?_ ?_ _); · (first | omega | (simp; done) | (simp; omega))) | (with_reducible refine Below.drew ?_) | (with_reducible refine below_drewN ?_ _) | ((with_reducible refine below_call (by assumption) ?_ ?_); · (first | omega | (simp; done) | (simp; omega)))))); have hs2 := hT2.size; (first | (refine told_cells (n := w1.heap.size + 1) hb2 ?_ ?_; (· (first | omega | (simp; done) | (simp; omega))); intro hk2 hf2 hy2) | (refine told_cells (n := w1.heap.size + 0) hb2 ?_ ?_; (· (first | omega | (simp; done) | (simp; omega))); intro hk2 hf2 hy2) | skip); (try (refine told_lt (a := wt.heap.size) (b := w2.heap.size) ?_ ?_; (· omega); intro hz2a hn2a hg2a)); (try (refine told_lt (a := w1.heap.size) (b := w2.heap.size) ?_ ?_; (· omega); intro hz2b hn2b hg2b))))
      all_goals (go_wp2_with fail; go_meet; refine ⟨_, rfl, rfl, ?_, show Below wt.heap.size wt _ by (repeat (first | (with_reducible exact Below.refl _ _) | ((with_reducible refine below_alloc ?_ ?_ _); · (first | omega | (simp; done) | (simp; omega))) | ((with_reducible refine below_setCell ?_ ?_ _); · (first | omega | (simp; done) | (simp; omega))) | (with_reducible refine Below.drew ?_) | (with_reducible refine below_drewN ?_ _) | ((with_reducible refine below_call (by assumption) ?_ ?_); · (first | omega | (simp; done) | (simp; omega)))))⟩)
      all_goals (first | (simp [Bx2, go_sem]; done) | (simp [Bx2, go_sem, *]; done) | skip)
    case rest =>
      obtain ⟨r, rfl, rfl, R, hBx⟩ := hcut
      go_upto_region 4 with fail
      refine gen_world (F := fun W => (Bx2 W w.heap.size 2 1 ∧ Bx2 W q 0 1 ∧ Bx2 W r 0 5) ∧ IsBo W v [true, true, false, true] ∧ Below w.heap.size w W) ⟨⟨hk _ hBx, Q.call hBx, R⟩, L.call hBx, hB.trans (hBx.mono hB.size)⟩ (fun wz hF => ?_)
      clear hk hB hz hBx R Q L X
      obtain ⟨XX, L, hB⟩ := hF
      have hk : Hid (∀ w', Below wz.heap.size wz w' → Bx2 w' w.heap.size 2 1 ∧ Bx2 w' q 0 1 ∧ Bx2 w' r 0 5) := Lib.hid (fun w' hb => ⟨XX.1.call hb, XX.2.1.call hb, XX.2.2.call hb⟩)
      clear XX
      go_wp2_with fail
      refine (sameBools_any _ _ _ _ _ (L.call (show Below wz.heap.size wz _ by (repeat (first | (with_reducible exact Below.refl _ _) | ((with_reducible refine below_alloc ?_ ?_ _); · (first | omega | (simp; done) | (simp; omega))) | ((with_reducible refine below_setCell ?_ ?_ _); · (first | omega | (simp; done) | (simp; omega))) | (with_reducible refine Below.drew ?_) | (with_reducible refine below_drewN ?_ _) | ((with_reducible refine below_call (by assumption) ?_ ?_); · (first | omega | (simp; done) | (simp; omega))))))) (isBo_four (x := true) (y := true) (z := false) (t := true) (by simp [go_sem])) (by decide)).mono ?_; rintro e w0 ⟨rfl, hb0⟩
      rw [show sameO [true, true, false, true] [true, true, false, true] = true from by decide]
      have B0 : Below wz.heap.size wz w0 := below_call hb0 (by simp) (by (repeat (first | (with_reducible exact Below.refl _ _) | ((with_reducible refine below_alloc ?_ ?_ _); · (first | omega | (simp; done) | (simp; omega))) | ((with_reducible refine below_setCell ?_ ?_ _); · (first | omega | (simp; done) | (simp; omega))) | (with_reducible refine Below.drew ?_) | (with_reducible refine below_drewN ?_ _) | ((with_reducible refine below_call (by assumption) ?_ ?_); · (first | omega | (simp; done) | (simp; omega))))))
      have z0 := B0.size
      obtain ⟨⟨x0, x1⟩, ⟨y0, y1⟩, ⟨r0, r1⟩⟩ := hk.out _ B0
      go_wp2_with fail
      refine (kb_lv _).mono ?_; rintro e w1 ⟨rfl, hb1⟩
      have B1 : Below wz.heap.size wz w1 := below_call hb1 (by first | exact B0.size | (simp; exact B0.size)) (by (repeat (first | (with_reducible exact Below.refl _ _) | ((with_reducible refine below_alloc ?_ ?_ _); · (first | omega | (simp; done) | (simp; omega))) | ((with_reducible refine below_setCell ?_ ?_ _); · (first | omega | (simp; done) | (simp; omega))) | (with_reducible refine Below.drew ?_) | (with_reducible refine below_drewN ?_ _) | ((with_reducible refine below_call (by assumption) ?_ ?_); · (first | omega | (simp; done) | (simp; omega))))))
      clear x0 x1 y0 y1 r0 r1
      obtain ⟨⟨x0, x1⟩, ⟨y0, y1⟩, ⟨r0, r1⟩⟩ := hk.out _ B1
      have z1 := B1.size
      go_wp2_with fail
      refine (kb_w2 _).mono ?_; rintro e w2 ⟨rfl, hb2⟩
      have B2 : Below wz.heap.size wz w2 := below_call hb2 (by first | exact B1.size | (simp; exact B1.size)) (by (repeat (first | (with_reducible exact Below.refl _ _) | ((with_reducible refine below_alloc ?_ ?_ _); · (first | omega | (simp; done) | (simp; omega))) | ((with_reducible refine below_setCell ?_ ?_ _); · (first | omega | (simp; done) | (simp; omega))) | (with_reducible refine Below.drew ?_) | (with_reducible refine below_drewN ?_ _) | ((with_reducible refine below_call (by assumption) ?_ ?_); · (first | omega | (simp; done) | (simp; omega))))))
      clear x0 x1 y0 y1 r0 r1
      obtain ⟨⟨x0, x1⟩, ⟨y0, y1⟩, ⟨r0, r1⟩⟩ := hk.out _ B2
      have z2 := B2.size
      go_wp2_with fail
      refine (kb_w3 _).mono ?_; rintro e w3 ⟨rfl, hb3⟩
      have B3 : Below wz.heap.size wz w3 := below_call hb3 (by first | exact B2.size | (simp; exact B2.size)) (by (repeat (first | (with_reducible exact Below.refl _ _) | ((with_reducible refine below_alloc ?_ ?_ _); · (first | omega | (simp; done) | (simp; omega))) | ((with_reducible refine below_setCell ?_ ?_ _); · (first | omega | (simp; done) | (simp; omega))) | (with_reducible refine Below.drew ?_) | (with_reducible refine below_drewN ?_ _) | ((with_reducible refine below_call (by assumption) ?_ ?_); · (first | omega | (simp; done) | (simp; omega))))))
      clear x0 x1 y0 y1 r0 r1
      obtain ⟨⟨x0, x1⟩, ⟨y0, y1⟩, ⟨r0, r1⟩⟩ := hk.out _ B3
      have z3 := B3.size
      go_wp2_with fail
      refine (kb_c1 _).mono ?_; rintro e w4 ⟨rfl, hb4⟩
      have B4 : Below wz.heap.size wz w4 := below_call hb4 (by first | exact B3.size | (simp; exact B3.size)) (by (repeat (first | (with_reducible exact Below.refl _ _) | ((with_reducible refine below_alloc ?_ ?_ _); · (first | omega | (simp; done) | (simp; omega))) | ((with_reducible refine below_setCell ?_ ?_ _); · (first | omega | (simp; done) | (simp; omega))) | (with_reducible refine Below.drew ?_) | (with_reducible refine below_drewN ?_ _) | ((with_reducible refine below_call (by assumption) ?_ ?_); · (first | omega | (simp; done) | (simp; omega))))))
      clear x0 x1 y0 y1 r0 r1
      obtain ⟨⟨x0, x1⟩, ⟨y0, y1⟩, ⟨r0, r1⟩⟩ := hk.out _ B4
      have z4 := B4.size
      go_wp2_with fail
      refine (kb_c0 _).mono ?_; rintro e w5 ⟨rfl, hb5⟩
      have B5 : Below wz.heap.size wz w5 := below_call hb5 (by first | exact B4.size | (simp; exact B4.size)) (by (repeat (first | (with_reducible exact Below.refl _ _) | ((with_reducible refine below_alloc ?_ ?_ _); · (first | omega | (simp; done) | (simp; omega))) | ((with_reducible refine below_setCell ?_ ?_ _); · (first | omega | (simp; done) | (simp; omega))) | (with_reducible refine Below.drew ?_) | (with_reducible refine below_drewN ?_ _) | ((with_reducible refine below_call (by assumption) ?_ ?_); · (first | omega | (simp; done) | (simp; omega))))))
      clear x0 x1 y0 y1 r0 r1
      obtain ⟨⟨x0, x1⟩, ⟨y0, y1⟩, ⟨r0, r1⟩⟩ := hk.out _ B5
      have z5 := B5.size
      go_wp2_with fail
      refine (kb_n1 _).mono ?_; rintro e w6 ⟨rfl, hb6⟩
      have B6 : Below wz.heap.size wz w6 := below_call hb6 (by first | exact B5.size | (simp; exact B5.size)) (by (repeat (first | (with_reducible exact Below.refl _ _) | ((with_reducible refine below_alloc ?_ ?_ _); · (first | omega | (simp; done) | (simp; omega))) | ((with_reducible refine below_setCell ?_ ?_ _); · (first | omega | (simp; done) | (simp; omega))) | (with_reducible refine Below.drew ?_) | (with_reducible refine below_drewN ?_ _) | ((with_reducible refine below_call (by assumption) ?_ ?_); · (first | omega | (simp; done) | (simp; omega))))))
      clear x0 x1 y0 y1 r0 r1
      obtain ⟨⟨x0, x1⟩, ⟨y0, y1⟩, ⟨r0, r1⟩⟩ := hk.out _ B6
      have z6 := B6.size
      go_wp2_with fail
      refine (kb_n0 _).mono ?_; rintro e w7 ⟨rfl, hb7⟩
      have B7 : Below wz.heap.size wz w7 := below_call hb7 (by first | exact B6.size | (simp; exact B6.size)) (by (repeat (first | (with_reducible exact Below.refl _ _) | ((with_reducible refine below_alloc ?_ ?_ _); · (first | omega | (simp; done) | (simp; omega))) | ((with_reducible refine below_setCell ?_ ?_ _); · (first | omega | (simp; done) | (simp; omega))) | (with_reducible refine Below.drew ?_) | (with_reducible refine below_drewN ?_ _) | ((with_reducible refine below_call (by assumption) ?_ ?_); · (first | omega | (simp; done) | (simp; omega))))))
      clear x0 x1 y0 y1 r0 r1
      obtain ⟨⟨x0, x1⟩, ⟨y0, y1⟩, ⟨r0, r1⟩⟩ := hk.out _ B7
      have z7 := B7.size
      go_wp2_with fail
      refine (kb_mo _).mono ?_; rintro e w8 ⟨rfl, hb8⟩
      have B8 : Below wz.heap.size wz w8 := below_call hb8 (by first | exact B7.size | (simp; exact B7.size)) (by (repeat (first | (with_reducible exact Below.refl _ _) | ((with_reducible refine below_alloc ?_ ?_ _); · (first | omega | (simp; done) | (simp; omega))) | ((with_reducible refine below_setCell ?_ ?_ _); · (first | omega | (simp; done) | (simp; omega))) | (with_reducible refine Below.drew ?_) | (with_reducible refine below_drewN ?_ _) | ((with_reducible refine below_call (by assumption) ?_ ?_); · (first | omega | (simp; done) | (simp; omega))))))
      clear x0 x1 y0 y1 r0 r1
      obtain ⟨⟨x0, x1⟩, ⟨y0, y1⟩, ⟨r0, r1⟩⟩ := hk.out _ B8
      have z8 := B8.size
      go_wp2_with fail
      refine (kb_s1 _).mono ?_; rintro e w9 ⟨rfl, hb9⟩
      have B9 : Below wz.heap.size wz w9 := below_call hb9 (by first | exact B8.size | (simp; exact B8.size)) (by (repeat (first | (with_reducible exact Below.refl _ _) | ((with_reducible refine below_alloc ?_ ?_ _); · (first | omega | (simp; done) | (simp; omega))) | ((with_reducible refine below_setCell ?_ ?_ _); · (first | omega | (simp; done) | (simp; omega))) | (with_reducible refine Below.drew ?_) | (with_reducible refine below_drewN ?_ _) | ((with_reducible refine below_call (by assumption) ?_ ?_); · (first | omega | (simp; done) | (simp; omega))))))
      clear x0 x1 y0 y1 r0 r1
      obtain ⟨⟨x0, x1⟩, ⟨y0, y1⟩, ⟨r0, r1⟩⟩ := hk.out _ B9
      have z9 := B9.size
      go_wp2_with fail
      refine (kb_s0 _).mono ?_; rintro e w10 ⟨rfl, hb10⟩
      have B10 : Below wz.heap.size wz w10 := below_call hb10 (by first | exact B9.size | (simp; exact B9.size)) (by (repeat (first | (with_reducible exact Below.refl _ _) | ((with_reducible refine below_alloc ?_ ?_ _); · (first | omega | (simp; done) | (simp; omega))) | ((with_reducible refine below_setCell ?_ ?_ _); · (first | omega | (simp; done) | (simp; omega))) | (with_reducible refine Below.drew ?_) | (with_reducible refine below_drewN ?_ _) | ((with_reducible refine below_call (by assumption) ?_ ?_); · (first | omega | (simp; done) | (simp; omega))))))
      clear x0 x1 y0 y1 r0 r1
      obtain ⟨⟨x0, x1⟩, ⟨y0, y1⟩, ⟨r0, r1⟩⟩ := hk.out _ B10
      have z10 := B10.size
      go_wp2
      go_ret
      exact ⟨rfl, hB.trans (B10.mono hB.size)⟩
end Go.Proofs.Ytfahcdggoabdhaa
