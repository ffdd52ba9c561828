/- Layer 9, the program's: a bare address; whether a text is one; an address with a resource. -/
import Derived.Test.YtngaklciclbofaaDoorA9Q
namespace Go.Proofs.YtngaklciclbofaaDoor
open Go.RowKit
set_option linter.unusedVariables false
set_option linter.unusedSimpArgs false

set_option maxRecDepth 100000 in
set_option maxHeartbeats 4000000 in
theorem abare_any (s : ByteArray) (w : World) (hT : Tabs9 w) (hs : s.size ≤ 1000000) :
    Calls Tryd.prog 10 #[.string s] w fun e w' => e = .returned (.tuple #[.string (barT s), .int .i64 (barE s)]) ∧ Below w.heap.size w w' := by
  have cp := Lib.hid (fun W (hb : Below w.heap.size w W) => aparse_any s W (hT.call hb) hs)
  by_cases h0 : parE s = 0
  · have H1 : Hid (barE s = chkA (nmP s) (hsP s) ⟨#[]⟩) := Lib.hid (if_pos h0)
    have H2 : Hid (barT s = priT (nmP s) (hsP s) ⟨#[]⟩) := Lib.hid (if_pos h0)
    have cr := Lib.hid (fun W (hb : Below w.heap.size w W) => aprint_any (nmP s) (hsP s) ⟨#[]⟩ W (hT.call hb) (by have := nmP_size s; omega) (by have := hsP_size s; omega) (by decide))
    unfold parV at cp
    rw [h0, me_yes, me_yes, me_yes] at cp
    generalize nmP s = pn at cp cr H1 H2
    generalize hsP s = ph at cp cr H1 H2
    generalize rsP s = pr at cp
    generalize chkA pn ph ⟨#[]⟩ = E at cr H1
    generalize priT pn ph ⟨#[]⟩ = T at cr H2
    clear h0
    simp only [adV] at *
    go_enter Tryd.func10, Tryd.ntmps10
    go_wp2_with fail
    refine (cp.out _ (by (repeat (first | (with_reducible exact Below.refl _ _) | ((with_reducible refine below_alloc ?_ ?_ _); · (first | omega | (simp; done) | (simp; omega))) | ((with_reducible refine below_setCell ?_ ?_ _); · (first | omega | (simp; done) | (simp; omega))) | (with_reducible refine Below.drew ?_) | (with_reducible refine below_drewN ?_ _) | ((with_reducible refine below_call (by assumption) ?_ ?_); · (first | omega | (simp; done) | (simp; omega))))))).mono ?_; rintro e w1 ⟨rfl, hb1⟩
    have B1 : Below w.heap.size w w1 := by (repeat (first | (with_reducible exact Below.refl _ _) | ((with_reducible refine below_alloc ?_ ?_ _); · (first | omega | (simp; done) | (simp; omega))) | ((with_reducible refine below_setCell ?_ ?_ _); · (first | omega | (simp; done) | (simp; omega))) | (with_reducible refine Below.drew ?_) | (with_reducible refine below_drewN ?_ _) | ((with_reducible refine below_call (by assumption) ?_ ?_); · (first | omega | (simp; done) | (simp; omega)))))
    have hz := B1.size
    go_wp2_with fail
    refine (cr.out _ (by (repeat (first | (with_reducible exact Below.refl _ _) | ((with_reducible refine below_alloc ?_ ?_ _); · (first | omega | (simp; done) | (simp; omega))) | ((with_reducible refine below_setCell ?_ ?_ _); · (first | omega | (simp; done) | (simp; omega))) | (with_reducible refine Below.drew ?_) | (with_reducible refine below_drewN ?_ _) | ((with_reducible refine below_call (by assumption) ?_ ?_); · (first | omega | (simp; done) | (simp; omega))))))).mono ?_; rintro e w2 ⟨rfl, hb2⟩
    go_wp2
    go_ret2
    exact ⟨by rw [H1.out, H2.out]; rfl, by (repeat (first | (with_reducible exact Below.refl _ _) | ((with_reducible refine below_alloc ?_ ?_ _); · (first | omega | (simp; done) | (simp; omega))) | ((with_reducible refine below_setCell ?_ ?_ _); · (first | omega | (simp; done) | (simp; omega))) | (with_reducible refine Below.drew ?_) | (with_reducible refine below_drewN ?_ _) | ((with_reducible refine below_call (by assumption) ?_ ?_); · (first | omega | (simp; done) | (simp; omega)))))⟩
  · have H1 : Hid (barE s = parE s) := Lib.hid (if_neg h0)
    have H2 : Hid (barT s = ⟨#[]⟩) := Lib.hid (if_neg h0)
    unfold parV at cp
    generalize parE s = E at cp h0 H1
    have e0 : (E != 0) = true := by simp [h0]
    simp only [adV] at *
    go_enter Tryd.func10, Tryd.ntmps10
    go_wp2_with fail
    refine (cp.out _ (by (repeat (first | (with_reducible exact Below.refl _ _) | ((with_reducible refine below_alloc ?_ ?_ _); · (first | omega | (simp; done) | (simp; omega))) | ((with_reducible refine below_setCell ?_ ?_ _); · (first | omega | (simp; done) | (simp; omega))) | (with_reducible refine Below.drew ?_) | (with_reducible refine below_drewN ?_ _) | ((with_reducible refine below_call (by assumption) ?_ ?_); · (first | omega | (simp; done) | (simp; omega))))))).mono ?_; rintro e w1 ⟨rfl, hb1⟩
    have B1 : Below w.heap.size w w1 := by (repeat (first | (with_reducible exact Below.refl _ _) | ((with_reducible refine below_alloc ?_ ?_ _); · (first | omega | (simp; done) | (simp; omega))) | ((with_reducible refine below_setCell ?_ ?_ _); · (first | omega | (simp; done) | (simp; omega))) | (with_reducible refine Below.drew ?_) | (with_reducible refine below_drewN ?_ _) | ((with_reducible refine below_call (by assumption) ?_ ?_); · (first | omega | (simp; done) | (simp; omega)))))
    have hz := B1.size
    go_wp2
    go_ret2
    exact ⟨by rw [H1.out, H2.out]; rfl, by (repeat (first | (with_reducible exact Below.refl _ _) | ((with_reducible refine below_alloc ?_ ?_ _); · (first | omega | (simp; done) | (simp; omega))) | ((with_reducible refine below_setCell ?_ ?_ _); · (first | omega | (simp; done) | (simp; omega))) | (with_reducible refine Below.drew ?_) | (with_reducible refine below_drewN ?_ _) | ((with_reducible refine below_call (by assumption) ?_ ?_); · (first | omega | (simp; done) | (simp; omega)))))⟩
set_option maxRecDepth 100000 in
set_option maxHeartbeats 4000000 in
theorem aisbare_any (s : ByteArray) (w : World) (hT : Tabs9 w) (hs : s.size ≤ 1000000) :
    Calls Tryd.prog 14 #[.string s] w fun e w' => e = .returned (.bool (isB s)) ∧ Below w.heap.size w w' := by
  have cb := Lib.hid (fun W (hb : Below w.heap.size w W) => abare_any s W (hT.call hb) hs)
  have HI : Hid (isB s = (decide (barE s = 0) && decide (barT s = s))) := Lib.hid rfl
  generalize isB s = b at HI ⊢
  generalize barE s = E at cb HI
  generalize barT s = T at cb HI
  have hst := str_beq T s
  by_cases h0 : E = 0
  · subst h0
    have HI2 := Lib.hid (show b = decide (T = s) from by rw [HI.out]; simp)
    clear HI
    go_enter Tryd.func14, Tryd.ntmps14
    go_wp2_with fail
    refine (cb.out _ (by (repeat (first | (with_reducible exact Below.refl _ _) | ((with_reducible refine below_alloc ?_ ?_ _); · (first | omega | (simp; done) | (simp; omega))) | ((with_reducible refine below_setCell ?_ ?_ _); · (first | omega | (simp; done) | (simp; omega))) | (with_reducible refine Below.drew ?_) | (with_reducible refine below_drewN ?_ _) | ((with_reducible refine below_call (by assumption) ?_ ?_); · (first | omega | (simp; done) | (simp; omega))))))).mono ?_; rintro e w1 ⟨rfl, hb1⟩
    go_wp2
    go_ret
    exact ⟨ret_bool (by rw [HI2.out]), hb1⟩
  · have HI2 := Lib.hid (show b = false from by rw [HI.out]; simp [h0])
    have e0 : (E == 0) = false := by simp [h0]
    clear HI h0
    go_enter Tryd.func14, Tryd.ntmps14
    go_wp2_with fail
    refine (cb.out _ (by (repeat (first | (with_reducible exact Below.refl _ _) | ((with_reducible refine below_alloc ?_ ?_ _); · (first | omega | (simp; done) | (simp; omega))) | ((with_reducible refine below_setCell ?_ ?_ _); · (first | omega | (simp; done) | (simp; omega))) | (with_reducible refine Below.drew ?_) | (with_reducible refine below_drewN ?_ _) | ((with_reducible refine below_call (by assumption) ?_ ?_); · (first | omega | (simp; done) | (simp; omega))))))).mono ?_; rintro e w1 ⟨rfl, hb1⟩
    go_wp2
    go_ret
    exact ⟨ret_bool HI2.out.symm, hb1⟩
set_option maxRecDepth 100000 in
set_option maxHeartbeats 8000000 in
theorem afull_any (s r : ByteArray) (w : World) (hT : Tabs9 w) (hs : s.size ≤ 1000000) (hr : r.size ≤ 1000000) :
    Calls Tryd.prog 12 #[.string s, .string r] w fun e w' => e = .returned (.tuple #[.string (fulT s r), .int .i64 (fulE s r)]) ∧ Below w.heap.size w w' := by
  have cp := Lib.hid (fun W (hb : Below w.heap.size w W) => aparse_any s W (hT.call hb) hs)
  have cq := Lib.hid (fun W (hb : Below w.heap.size w W) => ares_any r W (hT.call hb))
  by_cases h0 : parE s = 0
  · have er := emp_iff (rsP s)
    unfold parV at cp
    rw [h0, me_yes, me_yes, me_yes] at cp
    by_cases hz0 : (rsP s).size = 0
    · rw [decide_eq_true hz0] at er
      by_cases hq : resE r = 0
      · have H1 : Hid (fulE s r = chkA (nmP s) (hsP s) r) := Lib.hid (by unfold fulE; rw [if_pos h0, if_pos hz0, if_pos hq])
        have H2 : Hid (fulT s r = priT (nmP s) (hsP s) r) := Lib.hid (by unfold fulT; rw [if_pos h0, if_pos hz0, if_pos hq])
        have cr := Lib.hid (fun W (hb : Below w.heap.size w W) => aprint_any (nmP s) (hsP s) r W (hT.call hb) (by have := nmP_size s; omega) (by have := hsP_size s; omega) hr)
        rw [hq] at cq
        generalize nmP s = pn at cp cr H1 H2
        generalize hsP s = ph at cp cr H1 H2
        generalize rsP s = pr at cp er
        generalize chkA pn ph r = E at cr H1
        generalize priT pn ph r = T at cr H2
        clear h0 hz0 hq
        simp only [adV] at *
        go_enter Tryd.func12, Tryd.ntmps12
        go_wp2_with fail
        refine (cp.out _ (by (repeat (first | (with_reducible exact Below.refl _ _) | ((with_reducible refine below_alloc ?_ ?_ _); · (first | omega | (simp; done) | (simp; omega))) | ((with_reducible refine below_setCell ?_ ?_ _); · (first | omega | (simp; done) | (simp; omega))) | (with_reducible refine Below.drew ?_) | (with_reducible refine below_drewN ?_ _) | ((with_reducible refine below_call (by assumption) ?_ ?_); · (first | omega | (simp; done) | (simp; omega))))))).mono ?_; rintro e w1 ⟨rfl, hb1⟩
        have B1 : Below w.heap.size w w1 := by (repeat (first | (with_reducible exact Below.refl _ _) | ((with_reducible refine below_alloc ?_ ?_ _); · (first | omega | (simp; done) | (simp; omega))) | ((with_reducible refine below_setCell ?_ ?_ _); · (first | omega | (simp; done) | (simp; omega))) | (with_reducible refine Below.drew ?_) | (with_reducible refine below_drewN ?_ _) | ((with_reducible refine below_call (by assumption) ?_ ?_); · (first | omega | (simp; done) | (simp; omega)))))
        have hz := B1.size
        go_wp2_with fail
        refine (cq.out _ (by (repeat (first | (with_reducible exact Below.refl _ _) | ((with_reducible refine below_alloc ?_ ?_ _); · (first | omega | (simp; done) | (simp; omega))) | ((with_reducible refine below_setCell ?_ ?_ _); · (first | omega | (simp; done) | (simp; omega))) | (with_reducible refine Below.drew ?_) | (with_reducible refine below_drewN ?_ _) | ((with_reducible refine below_call (by assumption) ?_ ?_); · (first | omega | (simp; done) | (simp; omega))))))).mono ?_; rintro e w2 ⟨rfl, hb2⟩
        have B2 : Below w.heap.size w w2 := by (repeat (first | (with_reducible exact Below.refl _ _) | ((with_reducible refine below_alloc ?_ ?_ _); · (first | omega | (simp; done) | (simp; omega))) | ((with_reducible refine below_setCell ?_ ?_ _); · (first | omega | (simp; done) | (simp; omega))) | (with_reducible refine Below.drew ?_) | (with_reducible refine below_drewN ?_ _) | ((with_reducible refine below_call (by assumption) ?_ ?_); · (first | omega | (simp; done) | (simp; omega)))))
        have hz2 := B2.size
        obtain ⟨hk2, hf2, hz2⟩ := bcellN (n := w.heap.size + 0) (by (try simp only [World.size_drew, World.size_alloc, World.size_setCell]); omega) hb2; obtain ⟨hk2w1, hf2w1, hz2w1⟩ := bcellAt (b := w1.heap.size) (by (try simp only [World.size_drew, World.size_alloc, World.size_setCell]); omega) hb2
        go_wp2_with fail
        refine (cr.out _ (by (repeat (first | (with_reducible exact Below.refl _ _) | ((with_reducible refine below_alloc ?_ ?_ _); · (first | omega | (simp; done) | (simp; omega))) | ((with_reducible refine below_setCell ?_ ?_ _); · (first | omega | (simp; done) | (simp; omega))) | (with_reducible refine Below.drew ?_) | (with_reducible refine below_drewN ?_ _) | ((with_reducible refine below_call (by assumption) ?_ ?_); · (first | omega | (simp; done) | (simp; omega))))))).mono ?_; rintro e w3 ⟨rfl, hb3⟩
        go_wp2
        go_ret2
        exact ⟨by rw [H1.out, H2.out]; rfl, by (repeat (first | (with_reducible exact Below.refl _ _) | ((with_reducible refine below_alloc ?_ ?_ _); · (first | omega | (simp; done) | (simp; omega))) | ((with_reducible refine below_setCell ?_ ?_ _); · (first | omega | (simp; done) | (simp; omega))) | (with_reducible refine Below.drew ?_) | (with_reducible refine below_drewN ?_ _) | ((with_reducible refine below_call (by assumption) ?_ ?_); · (first | omega | (simp; done) | (simp; omega)))))⟩
      · have H1 : Hid (fulE s r = resE r) := Lib.hid (by unfold fulE; rw [if_pos h0, if_pos hz0, if_neg hq])
        have H2 : Hid (fulT s r = ⟨#[]⟩) := Lib.hid (by unfold fulT; rw [if_pos h0, if_pos hz0, if_neg hq])
        generalize resE r = E at cq hq H1
        have e0 : (E != 0) = true := by simp [hq]
        generalize nmP s = pn at cp
        generalize hsP s = ph at cp
        generalize rsP s = pr at cp er
        clear h0 hz0 hq
        simp only [adV] at *
        go_enter Tryd.func12, Tryd.ntmps12
        go_wp2_with fail
        refine (cp.out _ (by (repeat (first | (with_reducible exact Below.refl _ _) | ((with_reducible refine below_alloc ?_ ?_ _); · (first | omega | (simp; done) | (simp; omega))) | ((with_reducible refine below_setCell ?_ ?_ _); · (first | omega | (simp; done) | (simp; omega))) | (with_reducible refine Below.drew ?_) | (with_reducible refine below_drewN ?_ _) | ((with_reducible refine below_call (by assumption) ?_ ?_); · (first | omega | (simp; done) | (simp; omega))))))).mono ?_; rintro e w1 ⟨rfl, hb1⟩
        have B1 : Below w.heap.size w w1 := by (repeat (first | (with_reducible exact Below.refl _ _) | ((with_reducible refine below_alloc ?_ ?_ _); · (first | omega | (simp; done) | (simp; omega))) | ((with_reducible refine below_setCell ?_ ?_ _); · (first | omega | (simp; done) | (simp; omega))) | (with_reducible refine Below.drew ?_) | (with_reducible refine below_drewN ?_ _) | ((with_reducible refine below_call (by assumption) ?_ ?_); · (first | omega | (simp; done) | (simp; omega)))))
        have hz := B1.size
        go_wp2_with fail
        refine (cq.out _ (by (repeat (first | (with_reducible exact Below.refl _ _) | ((with_reducible refine below_alloc ?_ ?_ _); · (first | omega | (simp; done) | (simp; omega))) | ((with_reducible refine below_setCell ?_ ?_ _); · (first | omega | (simp; done) | (simp; omega))) | (with_reducible refine Below.drew ?_) | (with_reducible refine below_drewN ?_ _) | ((with_reducible refine below_call (by assumption) ?_ ?_); · (first | omega | (simp; done) | (simp; omega))))))).mono ?_; rintro e w2 ⟨rfl, hb2⟩
        have B2 : Below w.heap.size w w2 := by (repeat (first | (with_reducible exact Below.refl _ _) | ((with_reducible refine below_alloc ?_ ?_ _); · (first | omega | (simp; done) | (simp; omega))) | ((with_reducible refine below_setCell ?_ ?_ _); · (first | omega | (simp; done) | (simp; omega))) | (with_reducible refine Below.drew ?_) | (with_reducible refine below_drewN ?_ _) | ((with_reducible refine below_call (by assumption) ?_ ?_); · (first | omega | (simp; done) | (simp; omega)))))
        have hz2 := B2.size
        go_wp2
        go_ret2
        exact ⟨by rw [H1.out, H2.out]; rfl, by (repeat (first | (with_reducible exact Below.refl _ _) | ((with_reducible refine below_alloc ?_ ?_ _); · (first | omega | (simp; done) | (simp; omega))) | ((with_reducible refine below_setCell ?_ ?_ _); · (first | omega | (simp; done) | (simp; omega))) | (with_reducible refine Below.drew ?_) | (with_reducible refine below_drewN ?_ _) | ((with_reducible refine below_call (by assumption) ?_ ?_); · (first | omega | (simp; done) | (simp; omega)))))⟩
    · rw [decide_eq_false hz0] at er
      have H1 : Hid (fulE s r = 4) := Lib.hid (by unfold fulE; rw [if_pos h0, if_neg hz0])
      have H2 : Hid (fulT s r = ⟨#[]⟩) := Lib.hid (by unfold fulT; rw [if_pos h0, if_neg hz0])
      generalize nmP s = pn at cp
      generalize hsP s = ph at cp
      generalize rsP s = pr at cp er
      clear h0 hz0
      simp only [adV] at *
      go_enter Tryd.func12, Tryd.ntmps12
      go_wp2_with fail
      refine (cp.out _ (by (repeat (first | (with_reducible exact Below.refl _ _) | ((with_reducible refine below_alloc ?_ ?_ _); · (first | omega | (simp; done) | (simp; omega))) | ((with_reducible refine below_setCell ?_ ?_ _); · (first | omega | (simp; done) | (simp; omega))) | (with_reducible refine Below.drew ?_) | (with_reducible refine below_drewN ?_ _) | ((with_reducible refine below_call (by assumption) ?_ ?_); · (first | omega | (simp; done) | (simp; omega))))))).mono ?_; rintro e w1 ⟨rfl, hb1⟩
      have B1 : Below w.heap.size w w1 := by (repeat (first | (with_reducible exact Below.refl _ _) | ((with_reducible refine below_alloc ?_ ?_ _); · (first | omega | (simp; done) | (simp; omega))) | ((with_reducible refine below_setCell ?_ ?_ _); · (first | omega | (simp; done) | (simp; omega))) | (with_reducible refine Below.drew ?_) | (with_reducible refine below_drewN ?_ _) | ((with_reducible refine below_call (by assumption) ?_ ?_); · (first | omega | (simp; done) | (simp; omega)))))
      have hz := B1.size
      go_wp2
      go_ret2
      exact ⟨by rw [H1.out, H2.out]; rfl, by (repeat (first | (with_reducible exact Below.refl _ _) | ((with_reducible refine below_alloc ?_ ?_ _); · (first | omega | (simp; done) | (simp; omega))) | ((with_reducible refine below_setCell ?_ ?_ _); · (first | omega | (simp; done) | (simp; omega))) | (with_reducible refine Below.drew ?_) | (with_reducible refine below_drewN ?_ _) | ((with_reducible refine below_call (by assumption) ?_ ?_); · (first | omega | (simp; done) | (simp; omega)))))⟩
  · have H1 : Hid (fulE s r = parE s) := Lib.hid (if_neg h0)
    have H2 : Hid (fulT s r = ⟨#[]⟩) := Lib.hid (if_neg h0)
    unfold parV at cp
    generalize parE s = E at cp h0 H1
    have e0 : (E != 0) = true := by simp [h0]
    simp only [adV] at *
    go_enter Tryd.func12, Tryd.ntmps12
    go_wp2_with fail
    refine (cp.out _ (by (repeat (first | (with_reducible exact Below.refl _ _) | ((with_reducible refine below_alloc ?_ ?_ _); · (first | omega | (simp; done) | (simp; omega))) | ((with_reducible refine below_setCell ?_ ?_ _); · (first | omega | (simp; done) | (simp; omega))) | (with_reducible refine Below.drew ?_) | (with_reducible refine below_drewN ?_ _) | ((with_reducible refine below_call (by assumption) ?_ ?_); · (first | omega | (simp; done) | (simp; omega))))))).mono ?_; rintro e w1 ⟨rfl, hb1⟩
    have B1 : Below w.heap.size w w1 := by (repeat (first | (with_reducible exact Below.refl _ _) | ((with_reducible refine below_alloc ?_ ?_ _); · (first | omega | (simp; done) | (simp; omega))) | ((with_reducible refine below_setCell ?_ ?_ _); · (first | omega | (simp; done) | (simp; omega))) | (with_reducible refine Below.drew ?_) | (with_reducible refine below_drewN ?_ _) | ((with_reducible refine below_call (by assumption) ?_ ?_); · (first | omega | (simp; done) | (simp; omega)))))
    have hz := B1.size
    go_wp2
    go_ret2
    exact ⟨by rw [H1.out, H2.out]; rfl, by (repeat (first | (with_reducible exact Below.refl _ _) | ((with_reducible refine below_alloc ?_ ?_ _); · (first | omega | (simp; done) | (simp; omega))) | ((with_reducible refine below_setCell ?_ ?_ _); · (first | omega | (simp; done) | (simp; omega))) | (with_reducible refine Below.drew ?_) | (with_reducible refine below_drewN ?_ _) | ((with_reducible refine below_call (by assumption) ?_ ?_); · (first | omega | (simp; done) | (simp; omega)))))⟩
end Go.Proofs.YtngaklciclbofaaDoor
