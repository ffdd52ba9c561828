/- Layer 13, the program's Run: a token at each of some ticks, by a function value that keeps the bucket. -/
import Derived.Test.YtfahcdggoabdhaaB13S1
import Derived.Test.YtfahcdggoabdhaaB13E
import Derived.LoopN
import Derived.Deep.DeepCutAuto
namespace Go.Proofs.Ytfahcdggoabdhaa
open Go.RowKit
set_option linter.unusedVariables false
set_option linter.unusedSimpArgs false

/-- the function value takes one token at a tick, and lays the bucket where it is kept -/
theorem brun1_any (B R T A t : Int) (b0 b1 : Nat) (w : World) (h0 : Bx2 w b0 B R) (h1 : Rw2 w b1 T A) (hne : b0 ≠ b1) :
    Calls Try.prog 31 #[.int .i64 t, .pointer (some ⟨b0, 0, none⟩), .pointer (some ⟨b1, 0, none⟩)] w fun e w' => e = .returned (.bool (tkB B R T A t 1)) ∧
      ∃ w1 o, Below w.heap.size w w1 ∧ w' = ((w1.setCell ⟨b1, 0, none⟩ (.int .i64 (tkT B R T A t 1))).setCell ⟨b1, 1, none⟩ (.int .i64 (tkA B R T A t 1))).alloc o := by
  have c0 := Lib.hid (fun W => btake_any B R T A t 1 W)
  simp only [twV] at c0
  generalize tkT B R T A t 1 = T2 at c0 ⊢
  generalize tkA B R T A t 1 = A2 at c0 ⊢
  generalize tkB B R T A t 1 = is at c0 ⊢
  obtain ⟨x0, x1⟩ := id h0
  obtain ⟨⟨y0, y1⟩, f0, f1⟩ := id h1
  have X := Lib.hid h1
  clear h0 h1
  go_enter Try.func31, Try.ntmps31
  go_wp2_with fail
  refine (c0.out _).mono ?_; rintro e w1 ⟨rfl, hb1⟩
  obtain ⟨⟨z0, z1⟩, g0, g1⟩ := X.out.call hb1
  have hz := z0
  have hlt : b1 < w1.heap.size := World.block_lt_of_cell? _ _ z0
  have hne2 : b1 ≠ w1.heap.size := by omega
  have hne3 : w1.heap.size ≠ b1 := by omega
  clear x0 x1 y0 y1 f0 f1 hz
  go_wp2
  go_ret
  exact ⟨rfl, w1, _, hb1, rfl⟩
theorem rw2_two {w : World} {b : Nat} {x y : Int} (h : Rw2 w b x y) (x' y' : Int) : Rw2 ((w.setCell ⟨b, 0, none⟩ (.int .i64 x')).setCell ⟨b, 1, none⟩ (.int .i64 y')) b x' y' := by
  obtain ⟨⟨h0, h1⟩, f0, f1⟩ := h
  simp [Rw2, Bx2, go_sem, h0, h1, f0, f1]
theorem rw2_other {w : World} {b d : Nat} {x y : Int} (h : Rw2 w b x y) (u v : Value) (hd : b ≠ d) : Rw2 ((w.setCell ⟨d, 0, none⟩ u).setCell ⟨d, 1, none⟩ v) b x y := by
  obtain ⟨⟨h0, h1⟩, f0, f1⟩ := h
  have hd2 : d ≠ b := fun e => hd e.symm
  simp [Rw2, Bx2, go_sem, h0, h1, f0, f1, hd, hd2]
/-- the answers of the first k ticks, and none yet of those behind -/
def halfBo (B R : Int) (l : List Int) (st : Int × Int) (k : Nat) : List Value := (runB B R (l.take k) st).2.map Value.bool ++ List.replicate (l.length - k) (Value.bool false)
theorem halfBo_len {B R : Int} {l : List Int} {st : Int × Int} {k : Nat} (h : k ≤ l.length) : (halfBo B R l st k).length = l.length := by
  unfold halfBo
  rw [List.length_append, List.length_map, run_len, List.length_take, List.length_replicate]
  omega
theorem halfBo_next {B R : Int} {l : List Int} {st : Int × Int} {k : Nat} (h : k < l.length) :
    (halfBo B R l st k).set k (.bool (tkB B R (runB B R (l.take k) st).1.1 (runB B R (l.take k) st).1.2 l[k] 1)) = halfBo B R l st (k + 1) := by
  unfold halfBo
  have e : ((runB B R (l.take k) st).2.map Value.bool).length = k := by rw [List.length_map, run_len, List.length_take]; omega
  rw [List.set_append_right _ _ (by omega), e, Nat.sub_self, show l.length - k = (l.length - (k + 1)) + 1 by omega, List.replicate_succ, List.set_cons_zero, List.take_succ_eq_append_getElem h, run_snoc, List.map_append]
  simp
theorem halfBo_all (B R : Int) (l : List Int) (st : Int × Int) : halfBo B R l st l.length = (runB B R l st).2.map Value.bool := by
  unfold halfBo
  rw [List.take_length, Nat.sub_self, List.replicate_zero, List.append_nil]
theorem halfBo_none (B R : Int) (l : List Int) (st : Int × Int) : halfBo B R l st 0 = List.replicate l.length (Value.bool false) := by
  unfold halfBo
  rw [List.take_zero, Nat.sub_zero]
  rfl
theorem made_bools (n : Nat) : (madeCells #[Value.bool false] n).toList = List.replicate n (Value.bool false) := by
  apply List.ext_getElem?
  intro j
  by_cases hj : j < n
  · rw [List.getElem?_eq_getElem (by rw [Array.length_toList, size_madeCells]; exact hj), List.getElem?_eq_getElem (by rw [List.length_replicate]; exact hj)]
    simp [madeCells, Nat.mod_one]
  · rw [List.getElem?_eq_none (by rw [Array.length_toList, size_madeCells]; omega), List.getElem?_eq_none (by rw [List.length_replicate]; omega)]
set_option maxRecDepth 100000 in
set_option maxHeartbeats 4000000 in
theorem brun_any (B R T A : Int) (v : Value) (l : List Int) (w : World) (hv : IsI w v l) (hl : l.length ≤ 1000000) :
    Calls Try.prog 20 #[twV B R, twV T A, v] w fun e w' => ∃ o, e = .returned (.tuple #[twV (runB B R l (T, A)).1.1 (runB B R l (T, A)).1.2, o]) ∧ OwnBo w' w.heap.size o (runB B R l (T, A)).2 ∧ Below w.heap.size w w' := by
  obtain ⟨i1, hi1, hk0, hk1, hk2⟩ := info_parts info_bool
  obtain ⟨N, hN⟩ : ∃ N, N = l.length := ⟨_, rfl⟩
  obtain ⟨M, hM⟩ : ∃ M, M = madeCells (Value.bool false).cells (N * i1.size) := ⟨_, rfl⟩
  have hM2 : M.toList = halfBo B R l (T, A) 0 := by rw [hM, hk1, halfBo_none, ← hN, Nat.mul_one]; exact made_bools N
  have hM3 : M.size = N * 1 := by rw [hM, hk1, size_madeCells]
  have hmk : ∀ W : World, (Instr.makeSlice 48 (.int .i64 (N : Int)) (.int .i64 (N : Int))).run Try.prog W = .ok (.slice (some ⟨W.heap.size, 0, none⟩) N N) (W.alloc (.cells M 4)) := fun W => by
    have h := run_make (P := Try.prog) W 48 4 i1 (.bool false) Try.underlying48 hi1 hk0 .i64 .i64 (N : Int) (N : Int) (by omega) (by omega) (by rw [hk2]; omega) (by omega)
    simp only [Int.toNat_natCast] at h
    rw [← hM] at h
    exact h
  obtain ⟨p, cap, rfl, hp⟩ := hv
  have hst : ∀ W : World, (W.alloc (.cells M 4)).ownsRow W.heap.size 4 1 (.slice (some ⟨W.heap.size, 0, none⟩) N N) N (halfBo B R l (T, A) 0) := fun W => by
    rw [← hM2]
    exact World.ownsRow_lit W M N (Nat.le_refl _) (by unfold maxLen; omega) hM3
  have Hst := Lib.hid hst
  have HP := Lib.hid hp
  have HN := Lib.hid hN
  rw [← hN]
  clear hM hM2 hM3 hp hst
  have hNl : N ≤ 1000000 := by omega
  clear hN hl
  have X0 : Hid (∀ t t' t'', Bx2 (((w.alloc (.cells #[.int .i64 B, .int .i64 R] t)).alloc (.cells #[.int .i64 T, .int .i64 A] t')).alloc (.cells #[.int .i64 0, .int .i64 0] t'')) w.heap.size B R ∧ Rw2 (((w.alloc (.cells #[.int .i64 B, .int .i64 R] t)).alloc (.cells #[.int .i64 T, .int .i64 A] t')).alloc (.cells #[.int .i64 0, .int .i64 0] t'')) (w.heap.size + 1) T A ∧ Rw2 (((w.alloc (.cells #[.int .i64 B, .int .i64 R] t)).alloc (.cells #[.int .i64 T, .int .i64 A] t')).alloc (.cells #[.int .i64 0, .int .i64 0] t'')) (w.heap.size + 2) 0 0) := Lib.hid (fun t t' t'' => by simp [Rw2, Bx2, go_sem])
  simp only [twV] at *
  go_enter Try.func20, Try.ntmps20
  go_upto_region 3 with fail
  refine gen_world (F := fun W => (Bx2 W w.heap.size B R ∧ Rw2 W (w.heap.size + 1) T A ∧ Rw2 W (w.heap.size + 1 + 1) 0 0) ∧ W.ownsRow (w.heap.size + 1 + 1 + 1) 4 1 (.slice (some ⟨w.heap.size + 1 + 1 + 1, 0, none⟩) N N) N (halfBo B R l (T, A) 0) ∧ Below w.heap.size w W ∧ w.heap.size + 1 + 1 + 1 + 1 ≤ W.heap.size) ⟨?_, ?_, by (repeat (first | (with_reducible exact Below.refl _ _) | ((with_reducible refine below_alloc ?_ ?_ _); · (first | omega | (simp; done) | (simp; omega))) | ((with_reducible refine below_setCell ?_ ?_ _); · (first | omega | (simp; done) | (simp; omega))) | (with_reducible refine Below.drew ?_) | (with_reducible refine below_drewN ?_ _) | ((with_reducible refine below_call (by assumption) ?_ ?_); · (first | omega | (simp; done) | (simp; omega))))), by simp⟩ (fun wt hF => ?_)
  · have hb := fun (W : World) (o : Obj) => below_alloc (Nat.le_refl W.heap.size) (Below.refl W.heap.size W) o
    exact ⟨(X0.out _ _ _).1.call (hb _ _), (X0.out _ _ _).2.1.call (hb _ _), (X0.out _ _ _).2.2.call (hb _ _)⟩
  · have h := Hst.out (((w.alloc (.cells #[.int .i64 B, .int .i64 R] 27)).alloc (.cells #[.int .i64 T, .int .i64 A] 28)).alloc (.cells #[.int .i64 0, .int .i64 0] 28))
    simp only [World.size_alloc] at h
    exact h
  obtain ⟨⟨X, Y, Z⟩, HO, hB, hz⟩ := hF
  clear X0 Hst
  go_wp2
  go_loopw [18] (fun i wr => ∃ k : Nat, i = .int .i64 k ∧ k ≤ N ∧ wr.ownsRow (w.heap.size + 1 + 1 + 1) 4 1 (.slice (some ⟨w.heap.size + 1 + 1 + 1, 0, none⟩) N N) N (halfBo B R l (T, A) k) ∧ Bx2 wr w.heap.size B R ∧ Rw2 wr (w.heap.size + 1) (runB B R (l.take k) (T, A)).1.1 (runB B R (l.take k) (T, A)).1.2 ∧ Rw2 wr (w.heap.size + 1 + 1) 0 0 ∧ Below w.heap.size w wr ∧ w.heap.size + 1 + 1 + 1 + 1 ≤ wr.heap.size) (fun i _ => N - (intOf i).toNat)
  case atStart => exact ⟨0, rfl, by omega, HO, X, Y, Z, hB, hz⟩
  case round =>
    obtain ⟨k, rfl, hk, HO, X1, Y1, Z1, hB1, hz1⟩ := hrel
    by_cases hlt : k < N
    · have hlt' : (k : Int) < N := by omega
      have hlt2 : k < l.length := by rw [← HN.out]; exact hlt
      have HX := Lib.hid (halfBo_next (B := B) (R := R) (st := (T, A)) hlt2)
      have hkl := halfBo_len (B := B) (R := R) (st := (T, A)) (l := l) (k := k) (by omega)
      have hsn := Lib.hid (run_snoc B R (l.take k) l[k] (T, A))
      have htk := Lib.hid (List.take_succ_eq_append_getElem hlt2)
      obtain ⟨b, off, rfl, d⟩ := HP.out k hlt2
      have c1 : wr.cell? ⟨b, off + k, none⟩ = some (.int .i64 l[k]) := (hB1.cell (p := ⟨b, off + k, none⟩) (World.block_lt_of_cell? _ _ d)).trans d
      generalize hT : (runB B R (l.take k) (T, A)).1.1 = T1 at Y1 hsn HX
      generalize hA : (runB B R (l.take k) (T, A)).1.2 = A1 at Y1 hsn HX
      generalize ht : l[k] = t at c1 hsn htk HX
      have c0 := Lib.hid (brun1_any B R T1 A1 t w.heap.size (w.heap.size + 1) wr X1 Y1 (by omega))
      generalize tkT B R T1 A1 t 1 = T2 at c0 hsn
      generalize tkA B R T1 A1 t 1 = A2 at c0 hsn
      generalize tkB B R T1 A1 t 1 = is at c0 hsn HX
      have HO1 := Lib.hid HO
      have F1 := Lib.hid (And.intro X1 (And.intro Y1 (And.intro Z1 hB1)))
      clear d hT hA ht X Y Z HO X1 Y1 Z1 hB1
      go_wp2_with fail
      refine c0.out.mono ?_; rintro e W2 ⟨rfl, w1, o, hb1, hW2⟩
      obtain ⟨X1, Y1, Z1, hB1⟩ := F1.out
      have hzz := hb1.size
      have HO2 : W2.ownsRow (w.heap.size + 1 + 1 + 1) 4 1 (.slice (some ⟨w.heap.size + 1 + 1 + 1, 0, none⟩) N N) N (halfBo B R l (T, A) k) := by
        rw [hW2]
        exact World.ownsRow.alloc (ownsRow_setCell_below (ownsRow_setCell_below (World.ownsRow.call' HO1.out hb1) (a := ⟨w.heap.size + 1, 0, none⟩) (by show w.heap.size + 1 < _; omega) _) (a := ⟨w.heap.size + 1, 1, none⟩) (by show w.heap.size + 1 < _; omega) _) o
      have hb2 : Below (w.heap.size + 1) wr W2 := by
        rw [hW2]
        have hbb := hb1.mono (show w.heap.size + 1 ≤ wr.heap.size by omega)
        (repeat (first | (with_reducible exact Below.refl _ _) | ((with_reducible refine below_alloc ?_ ?_ _); · (first | omega | (simp; done) | (simp; omega))) | ((with_reducible refine below_setCell ?_ ?_ _); · (first | omega | (simp; done) | (simp; omega))) | (with_reducible refine Below.drew ?_) | (with_reducible refine below_drewN ?_ _) | ((with_reducible refine below_call (by assumption) ?_ ?_); · (first | omega | (simp; done) | (simp; omega)))))
      have X2 : Bx2 W2 w.heap.size B R := X1.far hb2 (by omega)
      have Z2 : Rw2 W2 (w.heap.size + 1 + 1) 0 0 := by
        rw [hW2]
        exact Rw2.call (rw2_other (Z1.call hb1) _ _ (by omega)) (below_alloc (Nat.le_refl _) (Below.refl _ _) o)
      have Y2 : Rw2 W2 (w.heap.size + 1) T2 A2 := by
        rw [hW2]
        exact Rw2.call (rw2_two (Y1.call hb1) _ _) (below_alloc (Nat.le_refl _) (Below.refl _ _) o)
      have hB2 : Below w.heap.size w W2 := hB1.trans (hb2.mono (by omega))
      have hz2 : w.heap.size + 1 + 1 + 1 + 1 ≤ W2.heap.size := Nat.le_trans hz1 hb2.size
      clear X1 Y1 Z1 hB1 hW2 hb2 HO1 F1 c0
      have HW := Lib.hid HO2
      have hf : ∀ j, W2.frozen? ⟨w.heap.size + 1 + 1 + 1, j, none⟩ = false := fun j => HO2.frozenAt j
      have e0 : ∃ u, W2.cell? ⟨w.heap.size + 1 + 1 + 1, k, none⟩ = some u := ⟨_, (HO2.cellAt k (by omega)).trans (List.getElem?_eq_getElem (by omega))⟩
      obtain ⟨a0, e0⟩ := e0
      have G := Lib.hid (And.intro X2 (And.intro Y2 (And.intro Z2 (And.intro hB2 hz2))))
      clear HO2 X2 Y2 Z2 hB2 hz2
      go_wp2
      go_roundw
      case rel =>
        obtain ⟨X2, Y2, Z2, hB2, hz2⟩ := G.out
        have hbs : Below (w.heap.size + 1 + 1 + 1) W2 (W2.setCell ⟨w.heap.size + 1 + 1 + 1, k, none⟩ (.bool is)) := by (repeat (first | (with_reducible exact Below.refl _ _) | ((with_reducible refine below_alloc ?_ ?_ _); · (first | omega | (simp; done) | (simp; omega))) | ((with_reducible refine below_setCell ?_ ?_ _); · (first | omega | (simp; done) | (simp; omega))) | (with_reducible refine Below.drew ?_) | (with_reducible refine below_drewN ?_ _) | ((with_reducible refine below_call (by assumption) ?_ ?_); · (first | omega | (simp; done) | (simp; omega)))))
        refine ⟨k + 1, by go_num, by omega, ?_, X2.far hbs (by omega), ?_, Z2.far hbs (by omega), hB2.trans (hbs.mono (by omega)), Nat.le_trans hz2 hbs.size⟩
        · rw [← HX.out]
          exact (HW.out.stored _ _).1
        · rw [htk.out, hsn.out]; exact Y2.far hbs (by omega)
      case measure => simp [intOf]; omega
    · obtain rfl : k = N := by omega
      rw [HN.out, List.take_length] at Y1
      have hfb : halfBo B R l (T, A) k = (runB B R l (T, A)).2.map Value.bool := by rw [HN.out]; exact halfBo_all B R l (T, A)
      rw [hfb] at HO
      clear hfb
      have hln := (run_len B R l (T, A)).trans HN.out.symm
      generalize hr : runB B R l (T, A) = r at HO Y1 hln
      obtain ⟨⟨T1, A1⟩, os⟩ := r
      simp only at hln
      obtain ⟨⟨y0, y1⟩, yf⟩ := Y1
      obtain ⟨⟨z0, z1⟩, zf0, zf1⟩ := Z1
      go_wp2
      have hfin : OwnBo wr (w.heap.size + 1 + 1 + 1) (.slice (some ⟨w.heap.size + 1 + 1 + 1, 0, none⟩) k k) os := by
        unfold OwnBo
        rw [hln]
        exact HO
      refine bodyPost_ret (v := .tuple #[.agg #[.int .i64 T1, .int .i64 A1], .slice (some ⟨w.heap.size + 1 + 1 + 1, 0, none⟩) k k]) (by simp [results, Try.results20, go_sem, z0, z1]) rfl ⟨_, rfl, ?_, ?_⟩
      · exact ((hfin.below _ _ (by show w.heap.size + 1 + 1 < _; omega)).below _ _ (by show w.heap.size + 1 + 1 < _; omega)).mono (by omega)
      · (repeat (first | (with_reducible exact Below.refl _ _) | ((with_reducible refine below_alloc ?_ ?_ _); · (first | omega | (simp; done) | (simp; omega))) | ((with_reducible refine below_setCell ?_ ?_ _); · (first | omega | (simp; done) | (simp; omega))) | (with_reducible refine Below.drew ?_) | (with_reducible refine below_drewN ?_ _) | ((with_reducible refine below_call (by assumption) ?_ ?_); · (first | omega | (simp; done) | (simp; omega)))))
end Go.Proofs.Ytfahcdggoabdhaa
