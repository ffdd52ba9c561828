/- Contracts of layer 4, the program's: has, alone, hasStrayLink, isSized, and the look of a link. -/
import Derived.Test.YtkcenadenmkgnaaC4F
namespace Go.Proofs.Ytkcenadenmkgnaa
open Go.RowKit
set_option linter.unusedVariables false
set_option linter.unusedSimpArgs false

theorem inB_none {x n : Int} (h : x ≠ -1) : inB x (-1) n = inB x 0 n := by
  rw [Bool.eq_iff_iff, inB_iff, inB_iff]; omega
theorem inB_m1 (n : Nat) : inB (-1) (-1) ((n : Int) - 1) = true := by rw [inB_iff]; omega
theorem hasI_any (p : Option Addr) (n cap : Nat) (i : Int) (w : World) : Calls Try.prog 34 #[.slice p n cap, .int .i64 i] w fun e w' => e = .returned (.bool (inB i 0 ((n : Int) - 1))) ∧ Below w.heap.size w w' := by
  by_cases h1 : 0 ≤ i
  · have HN : Hid (inB i 0 ((n : Int) - 1) = decide (i < n)) := Lib.hid (by rw [Bool.eq_iff_iff, inB_iff, decide_eq_true_iff]; omega)
    go_enter Try.func34, Try.ntmps34
    go_wp2
    go_ret
    exact ⟨ret_bool HN.out.symm, by (repeat (first | (with_reducible exact Below.refl _ _) | ((with_reducible refine below_alloc ?_ ?_ _); · (first | omega | (simp; done) | (simp; omega))) | ((with_reducible refine below_setCell ?_ ?_ _); · (first | omega | (simp; done) | (simp; omega))) | (with_reducible refine Below.drew ?_) | (with_reducible refine below_drewN ?_ _) | ((with_reducible refine below_call (by assumption) ?_ ?_); · (first | omega | (simp; done) | (simp; omega)))))⟩
  · have h1' : i < 0 := by omega
    have HN : Hid (inB i 0 ((n : Int) - 1) = false) := Lib.hid (by rw [Bool.eq_false_iff, ne_eq, inB_iff]; omega)
    clear h1
    go_enter Try.func34, Try.ntmps34
    go_wp2
    go_ret
    exact ⟨ret_bool (by first | exact HN.out.symm | (rw [HN.out]; simp; omega)), by (repeat (first | (with_reducible exact Below.refl _ _) | ((with_reducible refine below_alloc ?_ ?_ _); · (first | omega | (simp; done) | (simp; omega))) | ((with_reducible refine below_setCell ?_ ?_ _); · (first | omega | (simp; done) | (simp; omega))) | (with_reducible refine Below.drew ?_) | (with_reducible refine below_drewN ?_ _) | ((with_reducible refine below_call (by assumption) ?_ ?_); · (first | omega | (simp; done) | (simp; omega)))))⟩
theorem hasN_any (p : Option Addr) (n cap : Nat) (i : Int) (w : World) : Calls Try.prog 35 #[.slice p n cap, .int .i64 i] w fun e w' => e = .returned (.bool (inB i 0 ((n : Int) - 1))) ∧ Below w.heap.size w w' := by
  by_cases h1 : 0 ≤ i
  · have HN : Hid (inB i 0 ((n : Int) - 1) = decide (i < n)) := Lib.hid (by rw [Bool.eq_iff_iff, inB_iff, decide_eq_true_iff]; omega)
    go_enter Try.func35, Try.ntmps35
    go_wp2
    go_ret
    exact ⟨ret_bool HN.out.symm, by (repeat (first | (with_reducible exact Below.refl _ _) | ((with_reducible refine below_alloc ?_ ?_ _); · (first | omega | (simp; done) | (simp; omega))) | ((with_reducible refine below_setCell ?_ ?_ _); · (first | omega | (simp; done) | (simp; omega))) | (with_reducible refine Below.drew ?_) | (with_reducible refine below_drewN ?_ _) | ((with_reducible refine below_call (by assumption) ?_ ?_); · (first | omega | (simp; done) | (simp; omega)))))⟩
  · have h1' : i < 0 := by omega
    have HN : Hid (inB i 0 ((n : Int) - 1) = false) := Lib.hid (by rw [Bool.eq_false_iff, ne_eq, inB_iff]; omega)
    clear h1
    go_enter Try.func35, Try.ntmps35
    go_wp2
    go_ret
    exact ⟨ret_bool (by first | exact HN.out.symm | (rw [HN.out]; simp; omega)), by (repeat (first | (with_reducible exact Below.refl _ _) | ((with_reducible refine below_alloc ?_ ?_ _); · (first | omega | (simp; done) | (simp; omega))) | ((with_reducible refine below_setCell ?_ ?_ _); · (first | omega | (simp; done) | (simp; omega))) | (with_reducible refine Below.drew ?_) | (with_reducible refine below_drewN ?_ _) | ((with_reducible refine below_call (by assumption) ?_ ?_); · (first | omega | (simp; done) | (simp; omega)))))⟩
theorem alone_any (w : World) : Calls Try.prog 45 #[] w fun e w' => e = .returned (nodV (-1, -1, -1)) ∧ Below w.heap.size w w' := by
  go_enter Try.func45, Try.ntmps45
  go_wp2
  refine bodyPost_ret (v := nodV (-1, -1, -1)) (by simp [results, Try.results45, go_sem]) rfl ⟨rfl, ?_⟩
  (repeat (first | (with_reducible exact Below.refl _ _) | ((with_reducible refine below_alloc ?_ ?_ _); · (first | omega | (simp; done) | (simp; omega))) | ((with_reducible refine below_setCell ?_ ?_ _); · (first | omega | (simp; done) | (simp; omega))) | (with_reducible refine Below.drew ?_) | (with_reducible refine below_drewN ?_ _) | ((with_reducible refine below_call (by assumption) ?_ ?_); · (first | omega | (simp; done) | (simp; omega)))))
/-- one in no list that is not alone -/
def strayB (x : Nod) : Bool := x.1 == -1 && !(x.2.1 == -1 && x.2.2 == -1)
set_option maxRecDepth 100000 in
set_option maxHeartbeats 1000000 in
theorem stray_any (x : Nod) (w : World) : Calls Try.prog 50 #[nodV x] w fun e w' => e = .returned (.bool (strayB x)) ∧ Below w.heap.size w w' := by
  obtain ⟨x0, x1, x2⟩ := x
  have c := fun W => alone_any W
  by_cases h0 : x0 = -1
  · subst h0
    by_cases h1 : x1 = -1
    · subst h1
      by_cases h2 : x2 = -1
      · subst h2
        have HN : Hid (strayB (-1, -1, -1) = false) := Lib.hid (by simp [strayB])
        go_enter Try.func50, Try.ntmps50
        go_wp2
        go_region_with (go_at_call 45; refine (c _).mono ?_; rintro e w1 ⟨rfl, hb1⟩; obtain ⟨hk1, hf1, hz1⟩ := bcellN (n := w.heap.size + 1) (by (try simp only [World.size_drew, World.size_alloc, World.size_setCell]); omega) hb1; have hz1_0 : w.heap.size < w1.heap.size := (by omega))
        all_goals go_wp2
        all_goals go_ret
        all_goals exact ⟨ret_bool HN.out.symm, by (repeat (first | (with_reducible exact Below.refl _ _) | ((with_reducible refine below_alloc ?_ ?_ _); · (first | omega | (simp; done) | (simp; omega))) | ((with_reducible refine below_setCell ?_ ?_ _); · (first | omega | (simp; done) | (simp; omega))) | (with_reducible refine Below.drew ?_) | (with_reducible refine below_drewN ?_ _) | ((with_reducible refine below_call (by assumption) ?_ ?_); · (first | omega | (simp; done) | (simp; omega)))))⟩
      · have e2 : (x2 == (-1 : Int)) = false := by simp [h2]
        have HN : Hid (strayB (-1, -1, x2) = true) := Lib.hid (by simp [strayB, h2])
        go_enter Try.func50, Try.ntmps50
        go_wp2
        go_region_with (go_at_call 45; refine (c _).mono ?_; rintro e w1 ⟨rfl, hb1⟩; obtain ⟨hk1, hf1, hz1⟩ := bcellN (n := w.heap.size + 1) (by (try simp only [World.size_drew, World.size_alloc, World.size_setCell]); omega) hb1; have hz1_0 : w.heap.size < w1.heap.size := (by omega))
        all_goals go_wp2
        all_goals go_ret
        all_goals exact ⟨ret_bool HN.out.symm, by (repeat (first | (with_reducible exact Below.refl _ _) | ((with_reducible refine below_alloc ?_ ?_ _); · (first | omega | (simp; done) | (simp; omega))) | ((with_reducible refine below_setCell ?_ ?_ _); · (first | omega | (simp; done) | (simp; omega))) | (with_reducible refine Below.drew ?_) | (with_reducible refine below_drewN ?_ _) | ((with_reducible refine below_call (by assumption) ?_ ?_); · (first | omega | (simp; done) | (simp; omega)))))⟩
    · have e1 : (x1 == (-1 : Int)) = false := by simp [h1]
      have HN : Hid (strayB (-1, x1, x2) = true) := Lib.hid (by simp [strayB, h1])
      go_enter Try.func50, Try.ntmps50
      go_wp2
      go_region_with (go_at_call 45; refine (c _).mono ?_; rintro e w1 ⟨rfl, hb1⟩; obtain ⟨hk1, hf1, hz1⟩ := bcellN (n := w.heap.size + 1) (by (try simp only [World.size_drew, World.size_alloc, World.size_setCell]); omega) hb1; have hz1_0 : w.heap.size < w1.heap.size := (by omega))
      all_goals go_wp2
      all_goals go_ret
      all_goals exact ⟨ret_bool HN.out.symm, by (repeat (first | (with_reducible exact Below.refl _ _) | ((with_reducible refine below_alloc ?_ ?_ _); · (first | omega | (simp; done) | (simp; omega))) | ((with_reducible refine below_setCell ?_ ?_ _); · (first | omega | (simp; done) | (simp; omega))) | (with_reducible refine Below.drew ?_) | (with_reducible refine below_drewN ?_ _) | ((with_reducible refine below_call (by assumption) ?_ ?_); · (first | omega | (simp; done) | (simp; omega)))))⟩
  · have HN : Hid (strayB (x0, x1, x2) = false) := Lib.hid (by simp [strayB, h0])
    have h0' : (x0 == (-1 : Int)) = false := by simp [h0]
    go_enter Try.func50, Try.ntmps50
    go_wp2
    go_quiet (fail)
    go_wp2
    go_ret
    exact ⟨ret_bool HN.out.symm, by (repeat (first | (with_reducible exact Below.refl _ _) | ((with_reducible refine below_alloc ?_ ?_ _); · (first | omega | (simp; done) | (simp; omega))) | ((with_reducible refine below_setCell ?_ ?_ _); · (first | omega | (simp; done) | (simp; omega))) | (with_reducible refine Below.drew ?_) | (with_reducible refine below_drewN ?_ _) | ((with_reducible refine below_call (by assumption) ?_ ?_); · (first | omega | (simp; done) | (simp; omega)))))⟩
set_option maxRecDepth 100000 in
set_option maxHeartbeats 1000000 in
theorem sized_any (vn vh vt : Value) (st : LSt) (w : World) (hv : IsLS w vn vh vt st) (h1 : st.1.length ≤ 1048576) (h2 : st.2.1.length ≤ 1048576) (h3 : st.2.2.length ≤ 1048576) :
    Calls Try.prog 47 #[.agg #[vn, vh, vt]] w fun e w' => e = .returned (.bool (lensB st)) ∧ Below w.heap.size w w' := by
  obtain ⟨l, hd, tl⟩ := st
  replace h1 : l.length ≤ 1048576 := h1
  replace h2 : hd.length ≤ 1048576 := h2
  replace h3 : tl.length ≤ 1048576 := h3
  obtain ⟨⟨pn, cn, rfl, -⟩, ⟨ph, ch, rfl, -⟩, ⟨pt, ct, rfl, -⟩⟩ := hv
  have hL : lensB (l, hd, tl) = (((decide ((1 : Int) ≤ l.length) && decide ((l.length : Int) ≤ 64)) && (decide ((1 : Int) ≤ hd.length) && decide ((hd.length : Int) ≤ 8))) && decide ((tl.length : Int) = hd.length)) := by
    have e : decide (tl.length = hd.length) = decide ((tl.length : Int) = hd.length) := by rw [decide_eq_decide]; omega
    unfold lensB inB; simp only [e]
  by_cases q1 : (1 : Int) ≤ l.length
  · by_cases q2 : (l.length : Int) ≤ 64
    · by_cases q3 : (1 : Int) ≤ hd.length
      · by_cases q4 : (hd.length : Int) ≤ 8
        · have HN : Hid (lensB (l, hd, tl) = ((tl.length : Int) == hd.length)) := Lib.hid (by rw [hL, decide_eq_true q1, decide_eq_true q2, decide_eq_true q3, decide_eq_true q4]; rfl)
          clear hL
          go_enter Try.func47, Try.ntmps47
          go_wp2
          go_quiet (fail)
          go_wp2
          go_ret
          exact ⟨ret_bool HN.out.symm, by (repeat (first | (with_reducible exact Below.refl _ _) | ((with_reducible refine below_alloc ?_ ?_ _); · (first | omega | (simp; done) | (simp; omega))) | ((with_reducible refine below_setCell ?_ ?_ _); · (first | omega | (simp; done) | (simp; omega))) | (with_reducible refine Below.drew ?_) | (with_reducible refine below_drewN ?_ _) | ((with_reducible refine below_call (by assumption) ?_ ?_); · (first | omega | (simp; done) | (simp; omega)))))⟩
        · have HN : Hid (lensB (l, hd, tl) = false) := Lib.hid (by rw [hL, decide_eq_false q4]; simp)
          have q4' : (8 : Int) < hd.length := by omega
          clear hL q4
          go_enter Try.func47, Try.ntmps47
          go_wp2
          go_quiet (fail)
          go_wp2
          go_ret
          exact ⟨ret_bool (by first | exact HN.out.symm | (rw [HN.out]; simp; omega)), by (repeat (first | (with_reducible exact Below.refl _ _) | ((with_reducible refine below_alloc ?_ ?_ _); · (first | omega | (simp; done) | (simp; omega))) | ((with_reducible refine below_setCell ?_ ?_ _); · (first | omega | (simp; done) | (simp; omega))) | (with_reducible refine Below.drew ?_) | (with_reducible refine below_drewN ?_ _) | ((with_reducible refine below_call (by assumption) ?_ ?_); · (first | omega | (simp; done) | (simp; omega)))))⟩
      · have HN : Hid (lensB (l, hd, tl) = false) := Lib.hid (by rw [hL, decide_eq_false q3]; simp)
        have q3' : (hd.length : Int) < 1 := by omega
        clear hL q3
        go_enter Try.func47, Try.ntmps47
        go_wp2
        go_quiet (fail)
        go_wp2
        go_ret
        exact ⟨ret_bool (by first | exact HN.out.symm | (rw [HN.out]; simp; omega)), by (repeat (first | (with_reducible exact Below.refl _ _) | ((with_reducible refine below_alloc ?_ ?_ _); · (first | omega | (simp; done) | (simp; omega))) | ((with_reducible refine below_setCell ?_ ?_ _); · (first | omega | (simp; done) | (simp; omega))) | (with_reducible refine Below.drew ?_) | (with_reducible refine below_drewN ?_ _) | ((with_reducible refine below_call (by assumption) ?_ ?_); · (first | omega | (simp; done) | (simp; omega)))))⟩
    · have HN : Hid (lensB (l, hd, tl) = false) := Lib.hid (by rw [hL, decide_eq_false q2]; simp)
      have q2' : (64 : Int) < l.length := by omega
      clear hL q2
      go_enter Try.func47, Try.ntmps47
      go_wp2
      go_quiet (fail)
      go_wp2
      go_ret
      exact ⟨ret_bool (by first | exact HN.out.symm | (rw [HN.out]; simp; omega)), by (repeat (first | (with_reducible exact Below.refl _ _) | ((with_reducible refine below_alloc ?_ ?_ _); · (first | omega | (simp; done) | (simp; omega))) | ((with_reducible refine below_setCell ?_ ?_ _); · (first | omega | (simp; done) | (simp; omega))) | (with_reducible refine Below.drew ?_) | (with_reducible refine below_drewN ?_ _) | ((with_reducible refine below_call (by assumption) ?_ ?_); · (first | omega | (simp; done) | (simp; omega)))))⟩
  · have HN : Hid (lensB (l, hd, tl) = false) := Lib.hid (by rw [hL, decide_eq_false q1]; simp)
    have q1' : (l.length : Int) < 1 := by omega
    clear hL q1
    go_enter Try.func47, Try.ntmps47
    go_wp2
    go_quiet (fail)
    go_wp2
    go_ret
    exact ⟨ret_bool (by first | exact HN.out.symm | (rw [HN.out]; simp; omega)), by (repeat (first | (with_reducible exact Below.refl _ _) | ((with_reducible refine below_alloc ?_ ?_ _); · (first | omega | (simp; done) | (simp; omega))) | ((with_reducible refine below_setCell ?_ ?_ _); · (first | omega | (simp; done) | (simp; omega))) | (with_reducible refine Below.drew ?_) | (with_reducible refine below_drewN ?_ _) | ((with_reducible refine below_call (by assumption) ?_ ?_); · (first | omega | (simp; done) | (simp; omega)))))⟩
set_option maxRecDepth 100000 in
set_option maxHeartbeats 1000000 in
/-- leads: no place, or one that is there -/
theorem leads_any (b : Nat) (p : Option Addr) (n cap : Nat) (a : Int) (w : World) (h0 : w.cell? ⟨b, 0, none⟩ = some (.slice p n cap)) :
    Calls Try.prog 63 #[.int .i64 a, .pointer (some ⟨b, 0, none⟩)] w fun e w' => e = .returned (.bool (inB a (-1) ((n : Int) - 1))) ∧ Below w.heap.size w w' := by
  have c := fun W => hasN_any p n cap a W
  by_cases h : a = -1
  · subst h
    have HN : Hid (inB (-1) (-1) ((n : Int) - 1) = true) := Lib.hid (inB_m1 n)
    go_enter Try.func63, Try.ntmps63
    go_wp2_with fail
    go_ret
    exact ⟨ret_bool HN.out.symm, by (repeat (first | (with_reducible exact Below.refl _ _) | ((with_reducible refine below_alloc ?_ ?_ _); · (first | omega | (simp; done) | (simp; omega))) | ((with_reducible refine below_setCell ?_ ?_ _); · (first | omega | (simp; done) | (simp; omega))) | (with_reducible refine Below.drew ?_) | (with_reducible refine below_drewN ?_ _) | ((with_reducible refine below_call (by assumption) ?_ ?_); · (first | omega | (simp; done) | (simp; omega)))))⟩
  · have HN : Hid (inB a (-1) ((n : Int) - 1) = inB a 0 ((n : Int) - 1)) := Lib.hid (inB_none h)
    go_enter Try.func63, Try.ntmps63
    go_wp2_with fail
    refine (c _).mono ?_; rintro e w1 ⟨rfl, hb1⟩
    go_wp2_with fail
    go_ret
    exact ⟨ret_bool (by rw [HN.out]; simp [h]), by (repeat (first | (with_reducible exact Below.refl _ _) | ((with_reducible refine below_alloc ?_ ?_ _); · (first | omega | (simp; done) | (simp; omega))) | ((with_reducible refine below_setCell ?_ ?_ _); · (first | omega | (simp; done) | (simp; omega))) | (with_reducible refine Below.drew ?_) | (with_reducible refine below_drewN ?_ _) | ((with_reducible refine below_call (by assumption) ?_ ?_); · (first | omega | (simp; done) | (simp; omega)))))⟩
end Go.Proofs.Ytkcenadenmkgnaa
