/- Layer 13, the document's Run: a token at each of some ticks. -/
import Derived.Test.YtfahcdggoabdhaaB13B
import Derived.Test.YtfahcdggoabdhaaKitBo
import Derived.Deep.DeepCutAuto
namespace Go.Proofs.Ytfahcdggoabdhaa
open Go.RowKit
set_option linter.unusedVariables false
set_option linter.unusedSimpArgs false

theorem Bx2.far {W w1 : World} {n b : Nat} {x y : Int} (h : Bx2 W b x y) (hb : Below n W w1) (hn : b < n) : Bx2 w1 b x y :=
  ⟨(hb.cell (p := ⟨b, 0, none⟩) hn).trans h.1, (hb.cell (p := ⟨b, 1, none⟩) hn).trans h.2⟩
theorem Rw2.far {W w1 : World} {n b : Nat} {x y : Int} (h : Rw2 W b x y) (hb : Below n W w1) (hn : b < n) : Rw2 w1 b x y :=
  ⟨h.1.far hb hn, (hb.frozen (p := ⟨b, 0, none⟩) hn).trans h.2.1, (hb.frozen (p := ⟨b, 1, none⟩) hn).trans h.2.2⟩
theorem run_len (B R : Int) : ∀ (l : List Int) (st : Int × Int), (runB B R l st).2.length = l.length
  | [], _ => rfl
  | t :: l, st => by
    show (_ :: _).length = _
    rw [List.length_cons, List.length_cons, run_len B R l]
set_option maxRecDepth 100000 in
set_option maxHeartbeats 4000000 in
theorem bdrun_any (B R T A : Int) (v : Value) (l : List Int) (w : World) (hv : IsI w v l) (hl : l.length ≤ 1000000) :
    Calls Try.prog 21 #[twV B R, twV T A, v] w fun e w' => ∃ o, e = .returned (.tuple #[twV (runB B R l (T, A)).1.1 (runB B R l (T, A)).1.2, o]) ∧ OwnBo w' w.heap.size o (runB B R l (T, A)).2 ∧ Below w.heap.size w w' := by
  obtain ⟨p, cap, rfl, hp⟩ := hv
  have HP := Lib.hid hp
  have X0 : Hid (∀ t t' t'', Bx2 (((w.alloc (.cells #[.int .i64 B, .int .i64 R] t)).alloc (.cells #[.int .i64 T, .int .i64 A] t')).alloc (.cells #[.int .i64 0, .int .i64 0] t'')) w.heap.size B R ∧ Rw2 (((w.alloc (.cells #[.int .i64 B, .int .i64 R] t)).alloc (.cells #[.int .i64 T, .int .i64 A] t')).alloc (.cells #[.int .i64 0, .int .i64 0] t'')) (w.heap.size + 1) T A ∧ Rw2 (((w.alloc (.cells #[.int .i64 B, .int .i64 R] t)).alloc (.cells #[.int .i64 T, .int .i64 A] t')).alloc (.cells #[.int .i64 0, .int .i64 0] t'')) (w.heap.size + 2) 0 0) := Lib.hid (fun t t' t'' => by simp [Rw2, Bx2, go_sem])
  clear hp
  simp only [twV] at *
  go_enter Try.func21, Try.ntmps21
  go_upto_region 1 with fail
  refine gen_world (F := fun W => (Bx2 W w.heap.size B R ∧ Rw2 W (w.heap.size + 1) T A ∧ Rw2 W (w.heap.size + 2) 0 0) ∧ Below w.heap.size w W ∧ w.heap.size + 3 ≤ W.heap.size) ⟨X0.out _ _ _, by (repeat (first | (with_reducible exact Below.refl _ _) | ((with_reducible refine below_alloc ?_ ?_ _); · (first | omega | (simp; done) | (simp; omega))) | ((with_reducible refine below_setCell ?_ ?_ _); · (first | omega | (simp; done) | (simp; omega))) | (with_reducible refine Below.drew ?_) | (with_reducible refine below_drewN ?_ _) | ((with_reducible refine below_call (by assumption) ?_ ?_); · (first | omega | (simp; done) | (simp; omega))))), by simp⟩ (fun wt hF => ?_)
  obtain ⟨⟨X, Y, Z⟩, hB, hz⟩ := hF
  go_wp2
  go_loopw [8, 9] (fun o i wr => ∃ k : Nat, i = .int .i64 k ∧ k ≤ l.length ∧ OwnBo wr (w.heap.size + 3) o (runB B R (l.take k) (T, A)).2 ∧ Bx2 wr w.heap.size B R ∧ Rw2 wr (w.heap.size + 1) (runB B R (l.take k) (T, A)).1.1 (runB B R (l.take k) (T, A)).1.2 ∧ Rw2 wr (w.heap.size + 2) 0 0 ∧ Below w.heap.size w wr ∧ w.heap.size + 3 ≤ wr.heap.size) (fun o i _ => l.length - (intOf i).toNat)
  case atStart => exact ⟨0, rfl, by omega, OwnBo.nil _ _, X, Y, Z, hB, hz⟩
  case round =>
    obtain ⟨k, rfl, hk, HO, X1, Y1, Z1, hB1, hz1⟩ := hrel
    by_cases hlt : k < l.length
    · have hsn := Lib.hid (run_snoc B R (l.take k) l[k] (T, A))
      have hln := Lib.hid (run_len B R (l.take k) (T, A))
      have htk := Lib.hid (List.take_succ_eq_append_getElem hlt)
      obtain ⟨b1, o1, rfl, d1⟩ := HP.out k hlt
      have hb1 : b1 < w.heap.size := World.block_lt_of_cell? _ _ d1
      have d2 : wr.cell? ⟨b1, o1 + k, none⟩ = some (.int .i64 l[k]) := (hB1.cell (p := ⟨b1, o1 + k, none⟩) hb1).trans d1
      have hlt' : (k : Int) < l.length := by omega
      have hw : IntKind.i64.wrap ((k : Int) + 1) = ((k + 1 : Nat) : Int) := by rw [IntWalk.i64_in _ (by omega)]; omega
      generalize hT : (runB B R (l.take k) (T, A)).1.1 = T1 at Y1 hsn
      generalize hA : (runB B R (l.take k) (T, A)).1.2 = A1 at Y1 hsn
      generalize ht : l[k] = t at d2 hsn htk
      have c0 : Hid (∀ W, Calls Try.prog 8 #[.agg #[.int .i64 B, .int .i64 R], .agg #[.int .i64 T1, .int .i64 A1], .int .i64 t, .int .i64 1] W fun e w' => e = .returned (.tuple #[twV (tkT B R T1 A1 t 1) (tkA B R T1 A1 t 1), .bool (tkB B R T1 A1 t 1)]) ∧ Below W.heap.size W w') := Lib.hid (fun W => bdtake_any B R T1 A1 t 1 W)
      simp only [twV] at c0
      generalize tkT B R T1 A1 t 1 = T2 at c0 hsn
      generalize tkA B R T1 A1 t 1 = A2 at c0 hsn
      generalize tkB B R T1 A1 t 1 = is at c0 hsn
      clear d1 hT hA ht X Y Z
      go_upto_region 5 with fail
      have hk' : ∀ w', Below wr.heap.size wr w' → (w'.cell? ⟨w.heap.size, 0, none⟩ = some (.int .i64 B) ∧ w'.cell? ⟨w.heap.size, 1, none⟩ = some (.int .i64 R)) ∧ (w'.cell? ⟨w.heap.size + 1, 0, none⟩ = some (.int .i64 T1) ∧ w'.cell? ⟨w.heap.size + 1, 1, none⟩ = some (.int .i64 A1)) ∧ w'.cell? ⟨b1, o1 + k, none⟩ = some (.int .i64 t) := fun w' hb => ⟨X1.call hb, Y1.1.call hb, (hb.cell (p := ⟨b1, o1 + k, none⟩) (World.block_lt_of_cell? _ _ d2)).trans d2⟩
      have d3 := hk' wr (Below.refl _ _)
      go_cut [10, 11] (fun px is' wx => ∃ q : Nat, px = .pointer (some ⟨q, 0, none⟩) ∧ is' = .bool is ∧ Bx2 wx q T2 A2 ∧ Below wr.heap.size wr wx)
      case first =>
        clear X1 Y1 d2 HO Z1
        go_region_held3 (fun w' => (w'.cell? ⟨w.heap.size, 0, none⟩ = some (.int .i64 B) ∧ w'.cell? ⟨w.heap.size, 1, none⟩ = some (.int .i64 R)) ∧ (w'.cell? ⟨w.heap.size + 1, 0, none⟩ = some (.int .i64 T1) ∧ w'.cell? ⟨w.heap.size + 1, 1, none⟩ = some (.int .i64 A1)) ∧ w'.cell? ⟨b1, o1 + k, none⟩ = some (.int .i64 t)) (exact hk' _ (by (repeat (first | (with_reducible exact Below.refl _ _) | ((with_reducible refine below_alloc ?_ ?_ _); · (first | omega | (simp; done) | (simp; omega))) | ((with_reducible refine below_setCell ?_ ?_ _); · (first | omega | (simp; done) | (simp; omega))) | (with_reducible refine Below.drew ?_) | (with_reducible refine below_drewN ?_ _) | ((with_reducible refine below_call (by assumption) ?_ ?_); · (first | omega | (simp; done) | (simp; omega))))))) (((with_reducible refine (c0.out _).mono ?_); rintro e w1 ⟨rfl, hb1'⟩; have hT1 : Below wr.heap.size wr w1 := (by (repeat (first | (with_reducible exact Below.refl _ _) | ((with_reducible refine below_alloc ?_ ?_ _); · (first | omega | (simp; done) | (simp; omega))) | ((with_reducible refine below_setCell ?_ ?_ _); · (first | omega | (simp; done) | (simp; omega))) | (with_reducible refine Below.drew ?_) | (with_reducible refine below_drewN ?_ _) | ((with_reducible refine below_call (by assumption) ?_ ?_); · (first | omega | (simp; done) | (simp; omega)))))); have hs1 := hT1.size; (first | (refine told_cells (n := wr.heap.size + 1) hb1' ?_ ?_; (· (first | omega | (simp; done) | (simp; omega))); intro hk1 hf1 hy1; refine told_lt (a := wr.heap.size) (b := w1.heap.size) ?_ ?_; (· omega); intro hza0 hna0 hga0) | skip)))
        all_goals (go_wp2_with fail; go_meet; refine ⟨_, rfl, rfl, ?_, show Below wr.heap.size wr _ by (repeat (first | (with_reducible exact Below.refl _ _) | ((with_reducible refine below_alloc ?_ ?_ _); · (first | omega | (simp; done) | (simp; omega))) | ((with_reducible refine below_setCell ?_ ?_ _); · (first | omega | (simp; done) | (simp; omega))) | (with_reducible refine Below.drew ?_) | (with_reducible refine below_drewN ?_ _) | ((with_reducible refine below_call (by assumption) ?_ ?_); · (first | omega | (simp; done) | (simp; omega)))))⟩)
        all_goals (first | (simp [Bx2, go_sem]; done) | (simp [Bx2, go_sem, *]; done) | skip)
      case rest =>
        obtain ⟨q, rfl, rfl, Q, hBx⟩ := hcut
        have HO2 := HO.call hBx
        have X2 := X1.call hBx
        have Y2 := Y1.call hBx
        have Z2 := Z1.call hBx
        have hB2 := hB1.trans (hBx.mono hB1.size)
        have hz2 := Nat.le_trans hz1 hBx.size
        clear HO X1 Y1 Z1 hB1 hz1 hBx hk' d2 d3
        obtain ⟨q0, q1⟩ := Q
        obtain ⟨⟨y0, y1⟩, f0, f1⟩ := Y2
        go_upto_region 7 with fail
        refine gen_world (F := fun W => OwnBo W (w.heap.size + 3) u8 (runB B R (l.take k) (T, A)).2 ∧ Bx2 W w.heap.size B R ∧ Rw2 W (w.heap.size + 1) T2 A2 ∧ Rw2 W (w.heap.size + 2) 0 0 ∧ Below w.heap.size w W ∧ w.heap.size + 3 ≤ W.heap.size) ⟨(HO2.below _ _ (by show w.heap.size + 1 < _; omega)).below _ _ (by show w.heap.size + 1 < _; omega), ?_, ?_, ?_, by (repeat (first | (with_reducible exact Below.refl _ _) | ((with_reducible refine below_alloc ?_ ?_ _); · (first | omega | (simp; done) | (simp; omega))) | ((with_reducible refine below_setCell ?_ ?_ _); · (first | omega | (simp; done) | (simp; omega))) | (with_reducible refine Below.drew ?_) | (with_reducible refine below_drewN ?_ _) | ((with_reducible refine below_call (by assumption) ?_ ?_); · (first | omega | (simp; done) | (simp; omega))))), by simpa using hz2⟩ (fun wy hF => ?_)
        · obtain ⟨x0, x1⟩ := X2
          simp [Bx2, go_sem, x0, x1]
        · simp [Rw2, Bx2, go_sem, y0, y1, f0, f1]
        · obtain ⟨⟨z0, z1⟩, g0, g1⟩ := Z2
          simp [Rw2, Bx2, go_sem, z0, z1, g0, g1]
        clear HO2 X2 q0 q1 y0 y1 f0 f1 Z2 hB2 hz2
        obtain ⟨HO, X, Y, Z, hB2, hz2⟩ := hF
        have hln2 : (runB B R (l.take k) (T, A)).2.length ≤ 1000000 := by rw [hln.out, List.length_take]; omega
        go_wp2_with (at_builtin; (refine app_bool rfl _ _ rfl (w.heap.size + 3) (runB B R (l.take k) (T, A)).2 _ is ⟨wy.heap.size, 0, none⟩ rfl (HO.alloc _) rfl (by simp [go_sem]) (by omega) (by simp; omega) ?_; intro v5 w5 hown hbel))
        have hb5 : Below (w.heap.size + 3) wy w5 := (below_alloc hz2 (Below.refl _ _) _).trans hbel
        go_roundw
        case rel =>
          refine ⟨k + 1, by go_num, by omega, ?_, X.far hb5 (by omega), ?_, Z.far hb5 (by omega), hB2.trans (hb5.mono (by omega)), Nat.le_trans hz2 hb5.size⟩
          · rw [htk.out, hsn.out]; exact hown
          · rw [htk.out, hsn.out]; exact Y.far hb5 (by omega)
        case measure => simp [intOf]; omega
    · obtain rfl : k = l.length := by omega
      rw [List.take_length] at HO Y1
      generalize hr : runB B R l (T, A) = r at HO Y1
      obtain ⟨⟨T1, A1⟩, os⟩ := r
      obtain ⟨⟨y0, y1⟩, yf⟩ := Y1
      obtain ⟨⟨z0, z1⟩, zf0, zf1⟩ := Z1
      go_wp2
      refine bodyPost_ret (v := .tuple #[.agg #[.int .i64 T1, .int .i64 A1], u8]) (by simp [results, Try.results21, go_sem, z0, z1]) rfl ⟨_, by first | rfl | rw [hr], ?_, ?_⟩
      · (try rw [hr]); exact ((HO.below _ _ (by show w.heap.size + 2 < _; omega)).below _ _ (by show w.heap.size + 2 < _; omega)).mono (by omega)
      · (repeat (first | (with_reducible exact Below.refl _ _) | ((with_reducible refine below_alloc ?_ ?_ _); · (first | omega | (simp; done) | (simp; omega))) | ((with_reducible refine below_setCell ?_ ?_ _); · (first | omega | (simp; done) | (simp; omega))) | (with_reducible refine Below.drew ?_) | (with_reducible refine below_drewN ?_ _) | ((with_reducible refine below_call (by assumption) ?_ ?_); · (first | omega | (simp; done) | (simp; omega)))))
end Go.Proofs.Ytfahcdggoabdhaa
