/- Layer 16: awake: what every right program cuts down. -/
import Derived.Test.YtjnonngnkkdmdaaL16S
import Derived.Test.YtjnonngnkkdmdaaSameI
import Derived.Test.YtjnonngnkkdmdaaKitE
import Derived.Deep.RegionHeld3
import Derived.Deep.DeepCutAuto
namespace Go.Proofs.Ytjnonngnkkdmdaa
open Go.RowKit
set_option linter.unusedVariables false
set_option linter.unusedSimpArgs false

theorem ka_s1 (w : World) : Calls Try.prog 7 #[.agg #[.int .i64 usuLv.u0, .int .i64 usuLv.u1, .int .i64 usuLv.u2, .int .i64 usuLv.d0, .int .i64 usuLv.d1, .int .i64 usuLv.d2, .int .i64 usuLv.h], .agg #[.int .i64 newLv.l, .int .i64 newLv.s, .int .i64 newLv.w], .int .i64 95, .int .i64 7] w fun e w' => e = .returned (.agg #[.int .i64 3, .int .i64 7, .int .i64 (-1)]) ∧ Below w.heap.size w w' := by
  have h := lpstep_any usuLv newLv 95 7 w
  rw [show stpL usuLv newLv 95 7 = ⟨3, 7, -1⟩ from by kernel_rfl] at h
  exact h
theorem ka_s2 (w : World) : Calls Try.prog 7 #[.agg #[.int .i64 usuLv.u0, .int .i64 usuLv.u1, .int .i64 usuLv.u2, .int .i64 usuLv.d0, .int .i64 usuLv.d1, .int .i64 usuLv.d2, .int .i64 usuLv.h], .agg #[.int .i64 3, .int .i64 7, .int .i64 (-1)], .int .i64 10, .int .i64 8] w fun e w' => e = .returned (.agg #[.int .i64 3, .int .i64 7, .int .i64 8]) ∧ Below w.heap.size w w' := by
  have h := lpstep_any usuLv ⟨3, 7, -1⟩ 10 8 w
  rw [show stpL usuLv ⟨3, 7, -1⟩ 10 8 = ⟨3, 7, 8⟩ from by kernel_rfl] at h
  exact h
theorem ka_c0 (w : World) : Calls Try.prog 9 #[.agg #[.int .i64 usuLv.u0, .int .i64 usuLv.u1, .int .i64 usuLv.u2, .int .i64 usuLv.d0, .int .i64 usuLv.d1, .int .i64 usuLv.d2, .int .i64 usuLv.h]] w fun e w' => e = .returned (.int .i64 0) ∧ Below w.heap.size w w' := by
  have h := lpcheck_any usuLv w
  rw [show chkLv usuLv = 0 from by kernel_rfl] at h
  exact h
theorem ka_c1 (w : World) : Calls Try.prog 9 #[.agg #[.int .i64 1, .int .i64 0, .int .i64 0, .int .i64 0, .int .i64 0, .int .i64 0, .int .i64 0]] w fun e w' => e = .returned (.int .i64 10) ∧ Below w.heap.size w w' := by
  have h := lpcheck_any ⟨1, 0, 0, 0, 0, 0, 0⟩ w
  rw [show chkLv ⟨1, 0, 0, 0, 0, 0, 0⟩ = 10 from by kernel_rfl] at h
  exact h
theorem ka_c2 (w : World) : Calls Try.prog 9 #[.agg #[.int .i64 0, .int .i64 0, .int .i64 0, .int .i64 0, .int .i64 0, .int .i64 0, .int .i64 (-1)]] w fun e w' => e = .returned (.int .i64 8) ∧ Below w.heap.size w w' := by
  have h := lpcheck_any ⟨0, 0, 0, 0, 0, 0, -1⟩ w
  rw [show chkLv ⟨0, 0, 0, 0, 0, 0, -1⟩ = 8 from by kernel_rfl] at h
  exact h
theorem ka_f1 (w : World) : Calls Try.prog 11 #[.agg #[.int .i64 3, .int .i64 7, .int .i64 (-1)]] w fun e w' => e = .returned (.bool true) ∧ Below w.heap.size w w' := by
  have h := lpfine_any ⟨3, 7, -1⟩ w
  rw [show finLv ⟨3, 7, -1⟩ = true from by kernel_rfl] at h
  exact h
theorem ka_f0 (w : World) : Calls Try.prog 11 #[.agg #[.int .i64 4, .int .i64 0, .int .i64 0]] w fun e w' => e = .returned (.bool false) ∧ Below w.heap.size w w' := by
  have h := lpfine_any ⟨4, 0, 0⟩ w
  rw [show finLv ⟨4, 0, 0⟩ = false from by kernel_rfl] at h
  exact h
theorem ka_a20 (w : World) : Calls Try.prog 21 #[.int .i64 2, .int .i64 0] w fun e w' => e = .returned (.bool true) ∧ Below w.heap.size w w' := by
  have h := lpallows_any 2 0 w
  rw [show allL 2 0 = true from by kernel_rfl] at h
  exact h
theorem ka_a30 (w : World) : Calls Try.prog 21 #[.int .i64 3, .int .i64 0] w fun e w' => e = .returned (.bool false) ∧ Below w.heap.size w w' := by
  have h := lpallows_any 3 0 w
  rw [show allL 3 0 = false from by kernel_rfl] at h
  exact h
theorem ka_a21 (w : World) : Calls Try.prog 21 #[.int .i64 2, .int .i64 1] w fun e w' => e = .returned (.bool false) ∧ Below w.heap.size w w' := by
  have h := lpallows_any 2 1 w
  rw [show allL 2 1 = false from by kernel_rfl] at h
  exact h
theorem ka_a33 (w : World) : Calls Try.prog 21 #[.int .i64 3, .int .i64 3] w fun e w' => e = .returned (.bool true) ∧ Below w.heap.size w w' := by
  have h := lpallows_any 3 3 w
  rw [show allL 3 3 = true from by kernel_rfl] at h
  exact h
theorem ka_a04 (w : World) : Calls Try.prog 21 #[.int .i64 0, .int .i64 4] w fun e w' => e = .returned (.bool false) ∧ Below w.heap.size w w' := by
  have h := lpallows_any 0 4 w
  rw [show allL 0 4 = false from by kernel_rfl] at h
  exact h
theorem ka_n2 (w : World) : Calls Try.prog 23 #[.int .i64 2] w fun e w' => e = .returned (.string ⟨#[116, 105, 103, 104, 116]⟩) ∧ Below w.heap.size w w' := by
  have h := lpname_any 2 w
  rw [show namL 2 = ⟨#[116, 105, 103, 104, 116]⟩ from by kernel_rfl] at h
  exact h
theorem ka_n9 (w : World) : Calls Try.prog 23 #[.int .i64 9] w fun e w' => e = .returned (.string ⟨#[]⟩) ∧ Below w.heap.size w w' := by
  have h := lpname_any 9 w
  rw [show namL 9 = ⟨#[]⟩ from by kernel_rfl] at h
  exact h
theorem ka_rn (v : Value) (w : World) (h : IsI w v [80, 0, 0, 0, 0, 0, 0]) : Calls Try.prog 19 #[.agg #[.int .i64 usuLv.u0, .int .i64 usuLv.u1, .int .i64 usuLv.u2, .int .i64 usuLv.d0, .int .i64 usuLv.d1, .int .i64 usuLv.d2, .int .i64 usuLv.h], v] w fun e w' => ∃ o, e = .returned o ∧ OwnI w' w.heap.size o [2, 2, 2, 2, 2, 2, 1] ∧ Below w.heap.size w w' := by
  have h := lprun_any usuLv v _ w h (by decide)
  rw [show toldL usuLv [80, 0, 0, 0, 0, 0, 0] = [2, 2, 2, 2, 2, 2, 1] from by decide +kernel] at h
  exact h
theorem isI_seven {w : World} {b : Nat} {x0 x1 x2 x3 x4 x5 x6 : Int} (h : w.cell? ⟨b, 0, none⟩ = some (.int .i64 x0) ∧ w.cell? ⟨b, 1, none⟩ = some (.int .i64 x1) ∧ w.cell? ⟨b, 2, none⟩ = some (.int .i64 x2) ∧ w.cell? ⟨b, 3, none⟩ = some (.int .i64 x3) ∧ w.cell? ⟨b, 4, none⟩ = some (.int .i64 x4) ∧ w.cell? ⟨b, 5, none⟩ = some (.int .i64 x5) ∧ w.cell? ⟨b, 6, none⟩ = some (.int .i64 x6)) : IsI w (.slice (some ⟨b, 0, none⟩) 7 7) [x0, x1, x2, x3, x4, x5, x6] :=
  ⟨_, 7, rfl, fun j hj => ⟨b, 0, rfl, by
    match j, hj with
    | 0, _ => exact h.1
    | 1, _ => exact h.2.1
    | 2, _ => exact h.2.2.1
    | 3, _ => exact h.2.2.2.1
    | 4, _ => exact h.2.2.2.2.1
    | 5, _ => exact h.2.2.2.2.2.1
    | 6, _ => exact h.2.2.2.2.2.2⟩⟩
theorem rs3_new {W W' : World} {t : TypeId} (h : Below (W.alloc (.cells #[.int .i64 0, .int .i64 0, .int .i64 0] t)).heap.size (W.alloc (.cells #[.int .i64 0, .int .i64 0, .int .i64 0] t)) W') : Rs3 W' W.heap.size ⟨0, 0, 0⟩ :=
  (show Rs3 (W.alloc (.cells #[.int .i64 0, .int .i64 0, .int .i64 0] t)) W.heap.size ⟨0, 0, 0⟩ by simp [Rs3, St3, go_sem]).call h
theorem rs3_newd {W W' : World} {t : TypeId} (h : Below (W.alloc (.cells #[.int .i64 0, .int .i64 0, .int .i64 0] t)).drew.heap.size (W.alloc (.cells #[.int .i64 0, .int .i64 0, .int .i64 0] t)).drew W') : Rs3 W' W.heap.size ⟨0, 0, 0⟩ :=
  (show Rs3 (W.alloc (.cells #[.int .i64 0, .int .i64 0, .int .i64 0] t)).drew W.heap.size ⟨0, 0, 0⟩ by simp [Rs3, St3, go_sem]).call h
set_option maxRecDepth 100000 in
set_option maxHeartbeats 8000000 in
theorem awake_any (w : World) : Calls Try.prog 17 #[] w fun e w' => e = .returned (.bool true) ∧ Below w.heap.size w w' := by
  go_enter Try.func17, Try.ntmps17
  go_wp2_with fail
  refine (lpusual_any _).mono ?_; rintro e w1 ⟨rfl, hb1⟩
  go_upto_region 2 with fail
  refine gen_world (F := fun W => ∃ q, q = w1.heap.size ∧ Cf7 W q usuLv ∧ Below w.heap.size w W) ⟨_, rfl, by simp [Cf7, go_sem], below_alloc hb1.size hb1 _⟩ (fun wt hF => ?_)
  obtain ⟨q, hq, X, hB⟩ := hF
  rw [← hq]
  clear hq hb1
  have HX := Lib.hid X
  obtain ⟨x0, x1, x2, x3, x4, x5, x6⟩ := X
  go_wp2_with fail
  refine (ka_rn _ _ (isI_seven (by simp [go_sem]))).mono ?_; rintro e w2 ⟨v, rfl, HO, hb2⟩
  have B2 : Below wt.heap.size wt w2 := below_call hb2 (by simp) (by (repeat (first | (with_reducible exact Below.refl _ _) | ((with_reducible refine below_alloc ?_ ?_ _); · (first | omega | (simp; done) | (simp; omega))) | ((with_reducible refine below_setCell ?_ ?_ _); · (first | omega | (simp; done) | (simp; omega))) | (with_reducible refine Below.drew ?_) | (with_reducible refine below_drewN ?_ _) | ((with_reducible refine below_call (by assumption) ?_ ?_); · (first | omega | (simp; done) | (simp; omega))))))
  have HX2 := Lib.hid (HX.out.call B2)
  have HI2 := Lib.hid HO.reads
  have hB2 := hB.trans (B2.mono hB.size)
  clear HO HX x0 x1 x2 x3 x4 x5 x6 hB B2 hb2
  go_upto_region 3 with fail
  go_cut [3] (fun py wx => ∃ r : Nat, py = .pointer (some ⟨r, 0, none⟩) ∧ St3 wx r ⟨3, 7, -1⟩ ∧ Below w2.heap.size w2 wx)
  case first =>
    have hS := Lib.hid (fun W' (hb : Below w2.heap.size w2 W') => HX2.out.call hb)
    have hT0 : Below w2.heap.size w2 w2.drew := Below.drew (Below.refl _ _)
    simp only [Cf7] at hS
    refine wp_region_held_drew (S := fun W' => W'.cell? ⟨q, 0, none⟩ = some (.int .i64 usuLv.u0) ∧ W'.cell? ⟨q, 1, none⟩ = some (.int .i64 usuLv.u1) ∧ W'.cell? ⟨q, 2, none⟩ = some (.int .i64 usuLv.u2) ∧ W'.cell? ⟨q, 3, none⟩ = some (.int .i64 usuLv.d0) ∧ W'.cell? ⟨q, 4, none⟩ = some (.int .i64 usuLv.d1) ∧ W'.cell? ⟨q, 5, none⟩ = some (.int .i64 usuLv.d2) ∧ W'.cell? ⟨q, 6, none⟩ = some (.int .i64 usuLv.h)) (by kernel_rfl) (hS.out _ (by assumption)) (fun hHeld => ?_)
    (refine wpAnyH_take (i := 0) (v := ?_) rfl (by kernel_rfl) (by kernel_rfl) (by kernel_rfl) (fun _ _ _ h => h) (Or.inl ⟨by rfl, ?_⟩) (by assumption) ?_; rotate_left 1; (focus (intro wz hz; (try dsimp only at hz); (try simp only [List.getElem_toArray, List.getElem_cons_succ, List.getElem_cons_zero]); go_simp; (try (rw [if_neg (by (try simp only [ByteArray.size_append]); omega)])); try (with_reducible rfl); done)))
    try simp only [Act.put, List.getElem_toArray, List.getElem_cons_succ, List.getElem_cons_zero, List.setIfInBounds_toArray, List.set_cons_zero, List.set_cons_succ]
    refine wpAnyH_ready (rs := [1, 3]) (by kernel_rfl) (by simp) ?_
    refine AllReadyH.cons rfl (fun K hK => ?_) (AllReadyH.cons rfl (fun K hK => ?_) AllReadyH.nil)
    · ((try simp only [List.getElem_toArray, List.getElem_cons_succ, List.getElem_cons_zero]); go_simp; go_at_call 13; refine (lpnew_any _).mono ?_; rintro e wn1 ⟨rfl, hbn1⟩; have hT1 : Below w2.heap.size w2 wn1 := (by (repeat (first | (with_reducible exact Below.refl _ _) | ((with_reducible refine below_alloc ?_ ?_ _); · (first | omega | (simp; done) | (simp; omega))) | ((with_reducible refine below_setCell ?_ ?_ _); · (first | omega | (simp; done) | (simp; omega))) | (with_reducible refine Below.drew ?_) | (with_reducible refine below_drewN ?_ _) | ((with_reducible refine below_call (by assumption) ?_ ?_); · (first | omega | (simp; done) | (simp; omega)))))); have z1 := hT1.size; (try (have RN := rs3_new hbn1)); (try (have RN := rs3_newd hbn1)); (try (go_wp2_with fail)); refine hK.out _ _ (hS.out _ (by assumption)) (fun hHeld => ?_); clear hK K)
      try simp only [Act.put, List.getElem_toArray, List.getElem_cons_succ, List.getElem_cons_zero, List.setIfInBounds_toArray, List.set_cons_zero, List.set_cons_succ]
      refine wpAnyH_ready (rs := [2, 3]) (by kernel_rfl) (by simp) ?_
      refine AllReadyH.cons rfl (fun K hK => ?_) (AllReadyH.cons rfl (fun K hK => ?_) AllReadyH.nil)
      · ((try simp only [List.getElem_toArray, List.getElem_cons_succ, List.getElem_cons_zero]); go_simp; go_at_call 7; refine (ka_s1 _).mono ?_; rintro e wn2 ⟨rfl, hbn2⟩; have hT2 : Below w2.heap.size w2 wn2 := (by (repeat (first | (with_reducible exact Below.refl _ _) | ((with_reducible refine below_alloc ?_ ?_ _); · (first | omega | (simp; done) | (simp; omega))) | ((with_reducible refine below_setCell ?_ ?_ _); · (first | omega | (simp; done) | (simp; omega))) | (with_reducible refine Below.drew ?_) | (with_reducible refine below_drewN ?_ _) | ((with_reducible refine below_call (by assumption) ?_ ?_); · (first | omega | (simp; done) | (simp; omega)))))); have z2 := hT2.size; (first | (have RS := rs3_new hbn2; obtain ⟨⟨r0, r1, r2⟩, f0, f1, f2⟩ := And.intro RS.1 RS.2) | (have RS := rs3_newd hbn2; obtain ⟨⟨r0, r1, r2⟩, f0, f1, f2⟩ := And.intro RS.1 RS.2) | (have RS := RN.call hbn2; obtain ⟨⟨r0, r1, r2⟩, f0, f1, f2⟩ := And.intro RS.1 RS.2) | skip); (try (go_wp2_with fail)); refine hK.out _ _ (hS.out _ (by assumption)) (fun hHeld => ?_); clear hK K)
        try simp only [Act.put, List.getElem_toArray, List.getElem_cons_succ, List.getElem_cons_zero, List.setIfInBounds_toArray, List.set_cons_zero, List.set_cons_succ]
        (refine wpAnyH_ready (rs := [3]) (by kernel_rfl) (by simp) ?_; refine AllReadyH.cons rfl (fun K hK => ?_) AllReadyH.nil; (try simp only [List.getElem_toArray, List.getElem_cons_succ, List.getElem_cons_zero]); skip; go_simp; refine hK.out _ _ (hS.out _ (by (repeat (first | (with_reducible exact Below.refl _ _) | ((with_reducible refine below_alloc ?_ ?_ _); · (first | omega | (simp; done) | (simp; omega))) | ((with_reducible refine below_setCell ?_ ?_ _); · (first | omega | (simp; done) | (simp; omega))) | (with_reducible refine Below.drew ?_) | (with_reducible refine below_drewN ?_ _) | ((with_reducible refine below_call (by assumption) ?_ ?_); · (first | omega | (simp; done) | (simp; omega))))))) (fun hHeld => ?_); clear hK K)
        try simp only [Act.put, List.getElem_toArray, List.getElem_cons_succ, List.getElem_cons_zero, List.setIfInBounds_toArray, List.set_cons_zero, List.set_cons_succ]
        (refine wpAnyH_ready (rs := [4]) (by kernel_rfl) (by simp) ?_; refine AllReadyH.cons rfl (fun K hK => ?_) AllReadyH.nil; (try simp only [List.getElem_toArray, List.getElem_cons_succ, List.getElem_cons_zero]); skip; go_simp; refine hK.out _ _ (hS.out _ (by (repeat (first | (with_reducible exact Below.refl _ _) | ((with_reducible refine below_alloc ?_ ?_ _); · (first | omega | (simp; done) | (simp; omega))) | ((with_reducible refine below_setCell ?_ ?_ _); · (first | omega | (simp; done) | (simp; omega))) | (with_reducible refine Below.drew ?_) | (with_reducible refine below_drewN ?_ _) | ((with_reducible refine below_call (by assumption) ?_ ?_); · (first | omega | (simp; done) | (simp; omega))))))) (fun hHeld => ?_); clear hK K)
        try simp only [Act.put, List.getElem_toArray, List.getElem_cons_succ, List.getElem_cons_zero, List.setIfInBounds_toArray, List.set_cons_zero, List.set_cons_succ]
        refine wpAnyH_done (by kernel_rfl) ?_ _
        go_wp2_with fail; go_meet; refine ⟨_, rfl, by first | (simp [St3, go_sem]; done) | (simp [St3, go_sem, *]; done), show Below w2.heap.size w2 _ by (repeat (first | (with_reducible exact Below.refl _ _) | ((with_reducible refine below_alloc ?_ ?_ _); · (first | omega | (simp; done) | (simp; omega))) | ((with_reducible refine below_setCell ?_ ?_ _); · (first | omega | (simp; done) | (simp; omega))) | (with_reducible refine Below.drew ?_) | (with_reducible refine below_drewN ?_ _) | ((with_reducible refine below_call (by assumption) ?_ ?_); · (first | omega | (simp; done) | (simp; omega)))))⟩
      · ((try simp only [List.getElem_toArray, List.getElem_cons_succ, List.getElem_cons_zero]); skip; go_simp; refine hK.out _ _ (hS.out _ (by (repeat (first | (with_reducible exact Below.refl _ _) | ((with_reducible refine below_alloc ?_ ?_ _); · (first | omega | (simp; done) | (simp; omega))) | ((with_reducible refine below_setCell ?_ ?_ _); · (first | omega | (simp; done) | (simp; omega))) | (with_reducible refine Below.drew ?_) | (with_reducible refine below_drewN ?_ _) | ((with_reducible refine below_call (by assumption) ?_ ?_); · (first | omega | (simp; done) | (simp; omega))))))) (fun hHeld => ?_); clear hK K)
        try simp only [Act.put, List.getElem_toArray, List.getElem_cons_succ, List.getElem_cons_zero, List.setIfInBounds_toArray, List.set_cons_zero, List.set_cons_succ]
        (refine wpAnyH_ready (rs := [2]) (by kernel_rfl) (by simp) ?_; refine AllReadyH.cons rfl (fun K hK => ?_) AllReadyH.nil; (try simp only [List.getElem_toArray, List.getElem_cons_succ, List.getElem_cons_zero]); go_simp; go_at_call 7; refine (ka_s1 _).mono ?_; rintro e wn2 ⟨rfl, hbn2⟩; have hT2 : Below w2.heap.size w2 wn2 := (by (repeat (first | (with_reducible exact Below.refl _ _) | ((with_reducible refine below_alloc ?_ ?_ _); · (first | omega | (simp; done) | (simp; omega))) | ((with_reducible refine below_setCell ?_ ?_ _); · (first | omega | (simp; done) | (simp; omega))) | (with_reducible refine Below.drew ?_) | (with_reducible refine below_drewN ?_ _) | ((with_reducible refine below_call (by assumption) ?_ ?_); · (first | omega | (simp; done) | (simp; omega)))))); have z2 := hT2.size; (first | (have RS := rs3_new hbn2; obtain ⟨⟨r0, r1, r2⟩, f0, f1, f2⟩ := And.intro RS.1 RS.2) | (have RS := rs3_newd hbn2; obtain ⟨⟨r0, r1, r2⟩, f0, f1, f2⟩ := And.intro RS.1 RS.2) | (have RS := RN.call hbn2; obtain ⟨⟨r0, r1, r2⟩, f0, f1, f2⟩ := And.intro RS.1 RS.2) | skip); (try (go_wp2_with fail)); refine hK.out _ _ (hS.out _ (by assumption)) (fun hHeld => ?_); clear hK K)
        try simp only [Act.put, List.getElem_toArray, List.getElem_cons_succ, List.getElem_cons_zero, List.setIfInBounds_toArray, List.set_cons_zero, List.set_cons_succ]
        (refine wpAnyH_ready (rs := [4]) (by kernel_rfl) (by simp) ?_; refine AllReadyH.cons rfl (fun K hK => ?_) AllReadyH.nil; (try simp only [List.getElem_toArray, List.getElem_cons_succ, List.getElem_cons_zero]); skip; go_simp; refine hK.out _ _ (hS.out _ (by (repeat (first | (with_reducible exact Below.refl _ _) | ((with_reducible refine below_alloc ?_ ?_ _); · (first | omega | (simp; done) | (simp; omega))) | ((with_reducible refine below_setCell ?_ ?_ _); · (first | omega | (simp; done) | (simp; omega))) | (with_reducible refine Below.drew ?_) | (with_reducible refine below_drewN ?_ _) | ((with_reducible refine below_call (by assumption) ?_ ?_); · (first | omega | (simp; done) | (simp; omega))))))) (fun hHeld => ?_); clear hK K)
        try simp only [Act.put, List.getElem_toArray, List.getElem_cons_succ, List.getElem_cons_zero, List.setIfInBounds_toArray, List.set_cons_zero, List.set_cons_succ]
        refine wpAnyH_done (by kernel_rfl) ?_ _
        go_wp2_with fail; go_meet; refine ⟨_, rfl, by first | (simp [St3, go_sem]; done) | (simp [St3, go_sem, *]; done), show Below w2.heap.size w2 _ by (repeat (first | (with_reducible exact Below.refl _ _) | ((with_reducible refine below_alloc ?_ ?_ _); · (first | omega | (simp; done) | (simp; omega))) | ((with_reducible refine below_setCell ?_ ?_ _); · (first | omega | (simp; done) | (simp; omega))) | (with_reducible refine Below.drew ?_) | (with_reducible refine below_drewN ?_ _) | ((with_reducible refine below_call (by assumption) ?_ ?_); · (first | omega | (simp; done) | (simp; omega)))))⟩
    · ((try simp only [List.getElem_toArray, List.getElem_cons_succ, List.getElem_cons_zero]); skip; go_simp; refine hK.out _ _ (hS.out _ (by (repeat (first | (with_reducible exact Below.refl _ _) | ((with_reducible refine below_alloc ?_ ?_ _); · (first | omega | (simp; done) | (simp; omega))) | ((with_reducible refine below_setCell ?_ ?_ _); · (first | omega | (simp; done) | (simp; omega))) | (with_reducible refine Below.drew ?_) | (with_reducible refine below_drewN ?_ _) | ((with_reducible refine below_call (by assumption) ?_ ?_); · (first | omega | (simp; done) | (simp; omega))))))) (fun hHeld => ?_); clear hK K)
      try simp only [Act.put, List.getElem_toArray, List.getElem_cons_succ, List.getElem_cons_zero, List.setIfInBounds_toArray, List.set_cons_zero, List.set_cons_succ]
      (refine wpAnyH_ready (rs := [1]) (by kernel_rfl) (by simp) ?_; refine AllReadyH.cons rfl (fun K hK => ?_) AllReadyH.nil; (try simp only [List.getElem_toArray, List.getElem_cons_succ, List.getElem_cons_zero]); go_simp; go_at_call 13; refine (lpnew_any _).mono ?_; rintro e wn1 ⟨rfl, hbn1⟩; have hT1 : Below w2.heap.size w2 wn1 := (by (repeat (first | (with_reducible exact Below.refl _ _) | ((with_reducible refine below_alloc ?_ ?_ _); · (first | omega | (simp; done) | (simp; omega))) | ((with_reducible refine below_setCell ?_ ?_ _); · (first | omega | (simp; done) | (simp; omega))) | (with_reducible refine Below.drew ?_) | (with_reducible refine below_drewN ?_ _) | ((with_reducible refine below_call (by assumption) ?_ ?_); · (first | omega | (simp; done) | (simp; omega)))))); have z1 := hT1.size; (try (have RN := rs3_new hbn1)); (try (have RN := rs3_newd hbn1)); (try (go_wp2_with fail)); refine hK.out _ _ (hS.out _ (by assumption)) (fun hHeld => ?_); clear hK K)
      try simp only [Act.put, List.getElem_toArray, List.getElem_cons_succ, List.getElem_cons_zero, List.setIfInBounds_toArray, List.set_cons_zero, List.set_cons_succ]
      (refine wpAnyH_ready (rs := [2]) (by kernel_rfl) (by simp) ?_; refine AllReadyH.cons rfl (fun K hK => ?_) AllReadyH.nil; (try simp only [List.getElem_toArray, List.getElem_cons_succ, List.getElem_cons_zero]); go_simp; go_at_call 7; refine (ka_s1 _).mono ?_; rintro e wn2 ⟨rfl, hbn2⟩; have hT2 : Below w2.heap.size w2 wn2 := (by (repeat (first | (with_reducible exact Below.refl _ _) | ((with_reducible refine below_alloc ?_ ?_ _); · (first | omega | (simp; done) | (simp; omega))) | ((with_reducible refine below_setCell ?_ ?_ _); · (first | omega | (simp; done) | (simp; omega))) | (with_reducible refine Below.drew ?_) | (with_reducible refine below_drewN ?_ _) | ((with_reducible refine below_call (by assumption) ?_ ?_); · (first | omega | (simp; done) | (simp; omega)))))); have z2 := hT2.size; (first | (have RS := rs3_new hbn2; obtain ⟨⟨r0, r1, r2⟩, f0, f1, f2⟩ := And.intro RS.1 RS.2) | (have RS := rs3_newd hbn2; obtain ⟨⟨r0, r1, r2⟩, f0, f1, f2⟩ := And.intro RS.1 RS.2) | (have RS := RN.call hbn2; obtain ⟨⟨r0, r1, r2⟩, f0, f1, f2⟩ := And.intro RS.1 RS.2) | skip); (try (go_wp2_with fail)); refine hK.out _ _ (hS.out _ (by assumption)) (fun hHeld => ?_); clear hK K)
      try simp only [Act.put, List.getElem_toArray, List.getElem_cons_succ, List.getElem_cons_zero, List.setIfInBounds_toArray, List.set_cons_zero, List.set_cons_succ]
      (refine wpAnyH_ready (rs := [4]) (by kernel_rfl) (by simp) ?_; refine AllReadyH.cons rfl (fun K hK => ?_) AllReadyH.nil; (try simp only [List.getElem_toArray, List.getElem_cons_succ, List.getElem_cons_zero]); skip; go_simp; refine hK.out _ _ (hS.out _ (by (repeat (first | (with_reducible exact Below.refl _ _) | ((with_reducible refine below_alloc ?_ ?_ _); · (first | omega | (simp; done) | (simp; omega))) | ((with_reducible refine below_setCell ?_ ?_ _); · (first | omega | (simp; done) | (simp; omega))) | (with_reducible refine Below.drew ?_) | (with_reducible refine below_drewN ?_ _) | ((with_reducible refine below_call (by assumption) ?_ ?_); · (first | omega | (simp; done) | (simp; omega))))))) (fun hHeld => ?_); clear hK K)
      try simp only [Act.put, List.getElem_toArray, List.getElem_cons_succ, List.getElem_cons_zero, List.setIfInBounds_toArray, List.set_cons_zero, List.set_cons_succ]
      refine wpAnyH_done (by kernel_rfl) ?_ _
      go_wp2_with fail; go_meet; refine ⟨_, rfl, by first | (simp [St3, go_sem]; done) | (simp [St3, go_sem, *]; done), show Below w2.heap.size w2 _ by (repeat (first | (with_reducible exact Below.refl _ _) | ((with_reducible refine below_alloc ?_ ?_ _); · (first | omega | (simp; done) | (simp; omega))) | ((with_reducible refine below_setCell ?_ ?_ _); · (first | omega | (simp; done) | (simp; omega))) | (with_reducible refine Below.drew ?_) | (with_reducible refine below_drewN ?_ _) | ((with_reducible refine below_call (by assumption) ?_ ?_); · (first | omega | (simp; done) | (simp; omega)))))⟩
  case rest =>
    obtain ⟨r, rfl, R, hb3⟩ := hcut
    have HX3 := Lib.hid (HX2.out.call hb3)
    have HI3 := Lib.hid (HI2.out.call hb3)
    have hB3 := hB2.trans (hb3.mono hB2.size)
    have HR3 := Lib.hid R
    clear HX2 HI2 hB2 hb3
    go_upto_region 4 with fail
    obtain ⟨x0, x1, x2, x3, x4, x5, x6⟩ := HX3.out
    obtain ⟨r0, r1, r2⟩ := R
    go_wp2_with fail
    refine (ka_s2 _).mono ?_; rintro e w4 ⟨rfl, hb4⟩
    clear x0 x1 x2 x3 x4 x5 x6 r0 r1 r2
    go_upto_region 5 with fail
    refine gen_world (F := fun W => ∃ p, p = w4.heap.size ∧ (Cf7 W q usuLv ∧ St3 W r ⟨3, 7, -1⟩ ∧ St3 W p ⟨3, 7, 8⟩) ∧ IsI W v [2, 2, 2, 2, 2, 2, 1] ∧ Below w.heap.size w W) ⟨_, rfl, ?_⟩ (fun wz hF => ?_)
    · have hb : ∀ o : Obj, Below wc.heap.size wc (w4.alloc o) := fun o => below_alloc hb4.size hb4 o
      exact ⟨⟨HX3.out.call (hb _), HR3.out.call (hb _), by simp [St3, go_sem]⟩, HI3.out.call (hb _), hB3.trans ((hb _).mono hB3.size)⟩
    obtain ⟨p, hp, XX, L, hB⟩ := hF
    rw [← hp]
    clear hp hb4 HX3 HI3 hB3 HR3
    have hk : Hid (∀ w', Below wz.heap.size wz w' → Cf7 w' q usuLv ∧ St3 w' r ⟨3, 7, -1⟩ ∧ St3 w' p ⟨3, 7, 8⟩) := Lib.hid (fun w' hb => ⟨XX.1.call hb, XX.2.1.call hb, XX.2.2.call hb⟩)
    have HL := Lib.hid L
    clear XX L
    go_wp2_with fail
    refine (sameInts_any _ _ _ _ _ (HL.out.call (show Below wz.heap.size wz _ by (repeat (first | (with_reducible exact Below.refl _ _) | ((with_reducible refine below_alloc ?_ ?_ _); · (first | omega | (simp; done) | (simp; omega))) | ((with_reducible refine below_setCell ?_ ?_ _); · (first | omega | (simp; done) | (simp; omega))) | (with_reducible refine Below.drew ?_) | (with_reducible refine below_drewN ?_ _) | ((with_reducible refine below_call (by assumption) ?_ ?_); · (first | omega | (simp; done) | (simp; omega))))))) (isI_seven (x0 := 2) (x1 := 2) (x2 := 2) (x3 := 2) (x4 := 2) (x5 := 2) (x6 := 1) (by simp [go_sem])) (by decide)).mono ?_; rintro e w5 ⟨rfl, hb5⟩
    rw [show sameIB [2, 2, 2, 2, 2, 2, 1] [2, 2, 2, 2, 2, 2, 1] = true from sameIB_self _]
    have B5 : Below wz.heap.size wz w5 := below_call hb5 (by simp) (by (repeat (first | (with_reducible exact Below.refl _ _) | ((with_reducible refine below_alloc ?_ ?_ _); · (first | omega | (simp; done) | (simp; omega))) | ((with_reducible refine below_setCell ?_ ?_ _); · (first | omega | (simp; done) | (simp; omega))) | (with_reducible refine Below.drew ?_) | (with_reducible refine below_drewN ?_ _) | ((with_reducible refine below_call (by assumption) ?_ ?_); · (first | omega | (simp; done) | (simp; omega))))))
    have z5 := B5.size
    obtain ⟨⟨x0, x1, x2, x3, x4, x5, x6⟩, ⟨r0, r1, r2⟩, ⟨p0, p1, p2⟩⟩ := hk.out _ B5
    go_wp2_with fail
    refine (ka_c0 _).mono ?_; rintro e w6 ⟨rfl, hb6⟩
    have B6 : Below wz.heap.size wz w6 := below_call hb6 (by first | exact B5.size | (simp; exact B5.size)) (by (repeat (first | (with_reducible exact Below.refl _ _) | ((with_reducible refine below_alloc ?_ ?_ _); · (first | omega | (simp; done) | (simp; omega))) | ((with_reducible refine below_setCell ?_ ?_ _); · (first | omega | (simp; done) | (simp; omega))) | (with_reducible refine Below.drew ?_) | (with_reducible refine below_drewN ?_ _) | ((with_reducible refine below_call (by assumption) ?_ ?_); · (first | omega | (simp; done) | (simp; omega))))))
    clear x0 x1 x2 x3 x4 x5 x6 r0 r1 r2 p0 p1 p2
    obtain ⟨⟨x0, x1, x2, x3, x4, x5, x6⟩, ⟨r0, r1, r2⟩, ⟨p0, p1, p2⟩⟩ := hk.out _ B6
    have z6 := B6.size
    go_wp2_with fail
    refine (ka_c1 _).mono ?_; rintro e w7 ⟨rfl, hb7⟩
    have B7 : Below wz.heap.size wz w7 := below_call hb7 (by first | exact B6.size | (simp; exact B6.size)) (by (repeat (first | (with_reducible exact Below.refl _ _) | ((with_reducible refine below_alloc ?_ ?_ _); · (first | omega | (simp; done) | (simp; omega))) | ((with_reducible refine below_setCell ?_ ?_ _); · (first | omega | (simp; done) | (simp; omega))) | (with_reducible refine Below.drew ?_) | (with_reducible refine below_drewN ?_ _) | ((with_reducible refine below_call (by assumption) ?_ ?_); · (first | omega | (simp; done) | (simp; omega))))))
    clear x0 x1 x2 x3 x4 x5 x6 r0 r1 r2 p0 p1 p2
    obtain ⟨⟨x0, x1, x2, x3, x4, x5, x6⟩, ⟨r0, r1, r2⟩, ⟨p0, p1, p2⟩⟩ := hk.out _ B7
    have z7 := B7.size
    go_wp2_with fail
    refine (ka_c2 _).mono ?_; rintro e w8 ⟨rfl, hb8⟩
    have B8 : Below wz.heap.size wz w8 := below_call hb8 (by first | exact B7.size | (simp; exact B7.size)) (by (repeat (first | (with_reducible exact Below.refl _ _) | ((with_reducible refine below_alloc ?_ ?_ _); · (first | omega | (simp; done) | (simp; omega))) | ((with_reducible refine below_setCell ?_ ?_ _); · (first | omega | (simp; done) | (simp; omega))) | (with_reducible refine Below.drew ?_) | (with_reducible refine below_drewN ?_ _) | ((with_reducible refine below_call (by assumption) ?_ ?_); · (first | omega | (simp; done) | (simp; omega))))))
    clear x0 x1 x2 x3 x4 x5 x6 r0 r1 r2 p0 p1 p2
    obtain ⟨⟨x0, x1, x2, x3, x4, x5, x6⟩, ⟨r0, r1, r2⟩, ⟨p0, p1, p2⟩⟩ := hk.out _ B8
    have z8 := B8.size
    go_wp2_with fail
    refine (ka_f1 _).mono ?_; rintro e w9 ⟨rfl, hb9⟩
    have B9 : Below wz.heap.size wz w9 := below_call hb9 (by first | exact B8.size | (simp; exact B8.size)) (by (repeat (first | (with_reducible exact Below.refl _ _) | ((with_reducible refine below_alloc ?_ ?_ _); · (first | omega | (simp; done) | (simp; omega))) | ((with_reducible refine below_setCell ?_ ?_ _); · (first | omega | (simp; done) | (simp; omega))) | (with_reducible refine Below.drew ?_) | (with_reducible refine below_drewN ?_ _) | ((with_reducible refine below_call (by assumption) ?_ ?_); · (first | omega | (simp; done) | (simp; omega))))))
    clear x0 x1 x2 x3 x4 x5 x6 r0 r1 r2 p0 p1 p2
    obtain ⟨⟨x0, x1, x2, x3, x4, x5, x6⟩, ⟨r0, r1, r2⟩, ⟨p0, p1, p2⟩⟩ := hk.out _ B9
    have z9 := B9.size
    go_wp2_with fail
    refine (ka_f0 _).mono ?_; rintro e w10 ⟨rfl, hb10⟩
    have B10 : Below wz.heap.size wz w10 := below_call hb10 (by first | exact B9.size | (simp; exact B9.size)) (by (repeat (first | (with_reducible exact Below.refl _ _) | ((with_reducible refine below_alloc ?_ ?_ _); · (first | omega | (simp; done) | (simp; omega))) | ((with_reducible refine below_setCell ?_ ?_ _); · (first | omega | (simp; done) | (simp; omega))) | (with_reducible refine Below.drew ?_) | (with_reducible refine below_drewN ?_ _) | ((with_reducible refine below_call (by assumption) ?_ ?_); · (first | omega | (simp; done) | (simp; omega))))))
    clear x0 x1 x2 x3 x4 x5 x6 r0 r1 r2 p0 p1 p2
    obtain ⟨⟨x0, x1, x2, x3, x4, x5, x6⟩, ⟨r0, r1, r2⟩, ⟨p0, p1, p2⟩⟩ := hk.out _ B10
    have z10 := B10.size
    go_wp2_with fail
    refine (ka_a20 _).mono ?_; rintro e w11 ⟨rfl, hb11⟩
    have B11 : Below wz.heap.size wz w11 := below_call hb11 (by first | exact B10.size | (simp; exact B10.size)) (by (repeat (first | (with_reducible exact Below.refl _ _) | ((with_reducible refine below_alloc ?_ ?_ _); · (first | omega | (simp; done) | (simp; omega))) | ((with_reducible refine below_setCell ?_ ?_ _); · (first | omega | (simp; done) | (simp; omega))) | (with_reducible refine Below.drew ?_) | (with_reducible refine below_drewN ?_ _) | ((with_reducible refine below_call (by assumption) ?_ ?_); · (first | omega | (simp; done) | (simp; omega))))))
    clear x0 x1 x2 x3 x4 x5 x6 r0 r1 r2 p0 p1 p2
    obtain ⟨⟨x0, x1, x2, x3, x4, x5, x6⟩, ⟨r0, r1, r2⟩, ⟨p0, p1, p2⟩⟩ := hk.out _ B11
    have z11 := B11.size
    go_wp2_with fail
    refine (ka_a30 _).mono ?_; rintro e w12 ⟨rfl, hb12⟩
    have B12 : Below wz.heap.size wz w12 := below_call hb12 (by first | exact B11.size | (simp; exact B11.size)) (by (repeat (first | (with_reducible exact Below.refl _ _) | ((with_reducible refine below_alloc ?_ ?_ _); · (first | omega | (simp; done) | (simp; omega))) | ((with_reducible refine below_setCell ?_ ?_ _); · (first | omega | (simp; done) | (simp; omega))) | (with_reducible refine Below.drew ?_) | (with_reducible refine below_drewN ?_ _) | ((with_reducible refine below_call (by assumption) ?_ ?_); · (first | omega | (simp; done) | (simp; omega))))))
    clear x0 x1 x2 x3 x4 x5 x6 r0 r1 r2 p0 p1 p2
    obtain ⟨⟨x0, x1, x2, x3, x4, x5, x6⟩, ⟨r0, r1, r2⟩, ⟨p0, p1, p2⟩⟩ := hk.out _ B12
    have z12 := B12.size
    go_wp2_with fail
    refine (ka_a21 _).mono ?_; rintro e w13 ⟨rfl, hb13⟩
    have B13 : Below wz.heap.size wz w13 := below_call hb13 (by first | exact B12.size | (simp; exact B12.size)) (by (repeat (first | (with_reducible exact Below.refl _ _) | ((with_reducible refine below_alloc ?_ ?_ _); · (first | omega | (simp; done) | (simp; omega))) | ((with_reducible refine below_setCell ?_ ?_ _); · (first | omega | (simp; done) | (simp; omega))) | (with_reducible refine Below.drew ?_) | (with_reducible refine below_drewN ?_ _) | ((with_reducible refine below_call (by assumption) ?_ ?_); · (first | omega | (simp; done) | (simp; omega))))))
    clear x0 x1 x2 x3 x4 x5 x6 r0 r1 r2 p0 p1 p2
    obtain ⟨⟨x0, x1, x2, x3, x4, x5, x6⟩, ⟨r0, r1, r2⟩, ⟨p0, p1, p2⟩⟩ := hk.out _ B13
    have z13 := B13.size
    go_wp2_with fail
    refine (ka_a33 _).mono ?_; rintro e w14 ⟨rfl, hb14⟩
    have B14 : Below wz.heap.size wz w14 := below_call hb14 (by first | exact B13.size | (simp; exact B13.size)) (by (repeat (first | (with_reducible exact Below.refl _ _) | ((with_reducible refine below_alloc ?_ ?_ _); · (first | omega | (simp; done) | (simp; omega))) | ((with_reducible refine below_setCell ?_ ?_ _); · (first | omega | (simp; done) | (simp; omega))) | (with_reducible refine Below.drew ?_) | (with_reducible refine below_drewN ?_ _) | ((with_reducible refine below_call (by assumption) ?_ ?_); · (first | omega | (simp; done) | (simp; omega))))))
    clear x0 x1 x2 x3 x4 x5 x6 r0 r1 r2 p0 p1 p2
    obtain ⟨⟨x0, x1, x2, x3, x4, x5, x6⟩, ⟨r0, r1, r2⟩, ⟨p0, p1, p2⟩⟩ := hk.out _ B14
    have z14 := B14.size
    go_wp2_with fail
    refine (ka_a04 _).mono ?_; rintro e w15 ⟨rfl, hb15⟩
    have B15 : Below wz.heap.size wz w15 := below_call hb15 (by first | exact B14.size | (simp; exact B14.size)) (by (repeat (first | (with_reducible exact Below.refl _ _) | ((with_reducible refine below_alloc ?_ ?_ _); · (first | omega | (simp; done) | (simp; omega))) | ((with_reducible refine below_setCell ?_ ?_ _); · (first | omega | (simp; done) | (simp; omega))) | (with_reducible refine Below.drew ?_) | (with_reducible refine below_drewN ?_ _) | ((with_reducible refine below_call (by assumption) ?_ ?_); · (first | omega | (simp; done) | (simp; omega))))))
    clear x0 x1 x2 x3 x4 x5 x6 r0 r1 r2 p0 p1 p2
    obtain ⟨⟨x0, x1, x2, x3, x4, x5, x6⟩, ⟨r0, r1, r2⟩, ⟨p0, p1, p2⟩⟩ := hk.out _ B15
    have z15 := B15.size
    go_wp2_with fail
    refine (ka_n2 _).mono ?_; rintro e w16 ⟨rfl, hb16⟩
    have B16 : Below wz.heap.size wz w16 := below_call hb16 (by first | exact B15.size | (simp; exact B15.size)) (by (repeat (first | (with_reducible exact Below.refl _ _) | ((with_reducible refine below_alloc ?_ ?_ _); · (first | omega | (simp; done) | (simp; omega))) | ((with_reducible refine below_setCell ?_ ?_ _); · (first | omega | (simp; done) | (simp; omega))) | (with_reducible refine Below.drew ?_) | (with_reducible refine below_drewN ?_ _) | ((with_reducible refine below_call (by assumption) ?_ ?_); · (first | omega | (simp; done) | (simp; omega))))))
    clear x0 x1 x2 x3 x4 x5 x6 r0 r1 r2 p0 p1 p2
    obtain ⟨⟨x0, x1, x2, x3, x4, x5, x6⟩, ⟨r0, r1, r2⟩, ⟨p0, p1, p2⟩⟩ := hk.out _ B16
    have z16 := B16.size
    go_wp2_with fail
    refine (ka_n9 _).mono ?_; rintro e w17 ⟨rfl, hb17⟩
    have B17 : Below wz.heap.size wz w17 := below_call hb17 (by first | exact B16.size | (simp; exact B16.size)) (by (repeat (first | (with_reducible exact Below.refl _ _) | ((with_reducible refine below_alloc ?_ ?_ _); · (first | omega | (simp; done) | (simp; omega))) | ((with_reducible refine below_setCell ?_ ?_ _); · (first | omega | (simp; done) | (simp; omega))) | (with_reducible refine Below.drew ?_) | (with_reducible refine below_drewN ?_ _) | ((with_reducible refine below_call (by assumption) ?_ ?_); · (first | omega | (simp; done) | (simp; omega))))))
    clear x0 x1 x2 x3 x4 x5 x6 r0 r1 r2 p0 p1 p2
    obtain ⟨⟨x0, x1, x2, x3, x4, x5, x6⟩, ⟨r0, r1, r2⟩, ⟨p0, p1, p2⟩⟩ := hk.out _ B17
    have z17 := B17.size
    go_wp2
    go_ret
    exact ⟨rfl, hB.trans (B17.mono hB.size)⟩
end Go.Proofs.Ytjnonngnkkdmdaa
