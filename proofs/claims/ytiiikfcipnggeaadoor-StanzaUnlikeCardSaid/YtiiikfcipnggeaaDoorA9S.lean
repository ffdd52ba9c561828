/- Layer 9, the program's: a bare address; whether a text is one; an address with a resource. -/
import Derived.Test.YtiiikfcipnggeaaDoorA9Q
namespace Go.Proofs.YtiiikfcipnggeaaDoor
open Go.RowKit
set_option linter.unusedVariables false
set_option linter.unusedSimpArgs false

set_option maxRecDepth 100000 in
set_option maxHeartbeats 4000000 in
theorem abare_any (s : ByteArray) (w : World) (hT : Tabs9 w) (hs : s.size ≤ 1000000) :
    Calls Tryd.prog 38 #[.string s] w fun e w' => e = .returned (.tuple #[.string (barT s), .int .i64 (barE s)]) ∧ Below w.heap.size w w' := by
  have cp := Lib.hid (fun W (hb : Below w.heap.size w W) => aparse_any s W (hT.call hb) hs)
  by_cases h0 : parE s = 0
  · have H1 : Hid (barE s = chkA (nmP s) (hsP s) ⟨#[]⟩) := Lib.hid (if_pos h0)
    have H2 : Hid (barT s = priT (nmP s) (hsP s) ⟨#[]⟩) := Lib.hid (if_pos h0)
    have cr := Lib.hid (fun W (hb : Below w.heap.size w W) => aprint_any (nmP s) (hsP s) ⟨#[]⟩ W (hT.call hb) (by have := nmP_size s; omega) (by have := hsP_size s; omega) (by decide))
    unfold parV at cp
    rw [h0, me_yes, me_yes, me_yes] at cp
    generalize nmP s = pn at cp cr H1 H2
    generalize hsP s = ph at cp cr H1 H2
    generalize rsP s = pr at cp
    generalize chkA pn ph ⟨#[]⟩ = E at cr H1
    generalize priT pn ph ⟨#[]⟩ = T at cr H2
    clear h0
    simp only [adV] at *
    go_enter Tryd.func38, Tryd.ntmps38
    go_wp2_with fail
    refine (cp.out _ (by (repeat (first | (with_reducible exact Below.refl _ _) | ((with_reducible refine below_alloc ?_ ?_ _); · (first | omega | (simp; done) | (simp; omega))) | ((with_reducible refine below_setCell ?_ ?_ _); · (first | omega | (simp; done) | (simp; omega))) | (with_reducible refine Below.drew ?_) | (with_reducible refine below_drewN ?_ _) | ((with_reducible refine below_call (by assumption) ?_ ?_); · (first | omega | (simp; done) | (simp; omega))))))).mono ?_; rintro e w1 ⟨rfl, hb1⟩
    have B1 : Below w.heap.size w w1 := by (repeat (first | (with_reducible exact Below.refl _ _) | ((with_reducible refine below_alloc ?_ ?_ _); · (first | omega | (simp; done) | (simp; omega))) | ((with_reducible refine below_setCell ?_ ?_ _); · (first | omega | (simp; done) | (simp; omega))) | (with_reducible refine Below.drew ?_) | (with_reducible refine below_drewN ?_ _) | ((with_reducible refine below_call (by assumption) ?_ ?_); · (first | omega | (simp; done) | (simp; omega)))))
    have hz := B1.size
    go_wp2_with fail
    refine (cr.out _ (by (repeat (first | (with_reducible exact Below.refl _ _) | ((with_reducible refine below_alloc ?_ ?_ _); · (first | omega | (simp; done) | (simp; omega))) | ((with_reducible refine below_setCell ?_ ?_ _); · (first | omega | (simp; done) | (simp; omega))) | (with_reducible refine Below.drew ?_) | (with_reducible refine below_drewN ?_ _) | ((with_reducible refine below_call (by assumption) ?_ ?_); · (first | omega | (simp; done) | (simp; omega))))))).mono ?_; rintro e w2 ⟨rfl, hb2⟩
    go_wp2
    go_ret2
    exact ⟨by rw [H1.out, H2.out]; rfl, by (repeat (first | (with_reducible exact Below.refl _ _) | ((with_reducible refine below_alloc ?_ ?_ _); · (first | omega | (simp; done) | (simp; omega))) | ((with_reducible refine below_setCell ?_ ?_ _); · (first | omega | (simp; done) | (simp; omega))) | (with_reducible refine Below.drew ?_) | (with_reducible refine below_drewN ?_ _) | ((with_reducible refine below_call (by assumption) ?_ ?_); · (first | omega | (simp; done) | (simp; omega)))))⟩
  · have H1 : Hid (barE s = parE s) := Lib.hid (if_neg h0)
    have H2 : Hid (barT s = ⟨#[]⟩) := Lib.hid (if_neg h0)
    unfold parV at cp
    generalize parE s = E at cp h0 H1
    have e0 : (E != 0) = true := by simp [h0]
    simp only [adV] at *
    go_enter Tryd.func38, Tryd.ntmps38
    go_wp2_with fail
    refine (cp.out _ (by (repeat (first | (with_reducible exact Below.refl _ _) | ((with_reducible refine below_alloc ?_ ?_ _); · (first | omega | (simp; done) | (simp; omega))) | ((with_reducible refine below_setCell ?_ ?_ _); · (first | omega | (simp; done) | (simp; omega))) | (with_reducible refine Below.drew ?_) | (with_reducible refine below_drewN ?_ _) | ((with_reducible refine below_call (by assumption) ?_ ?_); · (first | omega | (simp; done) | (simp; omega))))))).mono ?_; rintro e w1 ⟨rfl, hb1⟩
    have B1 : Below w.heap.size w w1 := by (repeat (first | (with_reducible exact Below.refl _ _) | ((with_reducible refine below_alloc ?_ ?_ _); · (first | omega | (simp; done) | (simp; omega))) | ((with_reducible refine below_setCell ?_ ?_ _); · (first | omega | (simp; done) | (simp; omega))) | (with_reducible refine Below.drew ?_) | (with_reducible refine below_drewN ?_ _) | ((with_reducible refine below_call (by assumption) ?_ ?_); · (first | omega | (simp; done) | (simp; omega)))))
    have hz := B1.size
    go_wp2
    go_ret2
    exact ⟨by rw [H1.out, H2.out]; rfl, by (repeat (first | (with_reducible exact Below.refl _ _) | ((with_reducible refine below_alloc ?_ ?_ _); · (first | omega | (simp; done) | (simp; omega))) | ((with_reducible refine below_setCell ?_ ?_ _); · (first | omega | (simp; done) | (simp; omega))) | (with_reducible refine Below.drew ?_) | (with_reducible refine below_drewN ?_ _) | ((with_reducible refine below_call (by assumption) ?_ ?_); · (first | omega | (simp; done) | (simp; omega)))))⟩
set_option maxRecDepth 100000 in
set_option maxHeartbeats 4000000 in
theorem aisbare_any (s : ByteArray) (w : World) (hT : Tabs9 w) (hs : s.size ≤ 1000000) :
    Calls Tryd.prog 25 #[.string s] w fun e w' => e = .returned (.bool (isB s)) ∧ Below w.heap.size w w' := by
  have cb := Lib.hid (fun W (hb : Below w.heap.size w W) => abare_any s W (hT.call hb) hs)
  have HI : Hid (isB s = (decide (barE s = 0) && decide (barT s = s))) := Lib.hid rfl
  generalize isB s = b at HI ⊢
  generalize barE s = E at cb HI
  generalize barT s = T at cb HI
  have hst := str_beq T s
  by_cases h0 : E = 0
  · subst h0
    have HI2 := Lib.hid (show b = decide (T = s) from by rw [HI.out]; simp)
    clear HI
    go_enter Tryd.func25, Tryd.ntmps25
    go_wp2_with fail
    refine (cb.out _ (by (repeat (first | (with_reducible exact Below.refl _ _) | ((with_reducible refine below_alloc ?_ ?_ _); · (first | omega | (simp; done) | (simp; omega))) | ((with_reducible refine below_setCell ?_ ?_ _); · (first | omega | (simp; done) | (simp; omega))) | (with_reducible refine Below.drew ?_) | (with_reducible refine below_drewN ?_ _) | ((with_reducible refine below_call (by assumption) ?_ ?_); · (first | omega | (simp; done) | (simp; omega))))))).mono ?_; rintro e w1 ⟨rfl, hb1⟩
    go_wp2
    go_ret
    exact ⟨ret_bool (by rw [HI2.out]), hb1⟩
  · have HI2 := Lib.hid (show b = false from by rw [HI.out]; simp [h0])
    have e0 : (E == 0) = false := by simp [h0]
    clear HI h0
    go_enter Tryd.func25, Tryd.ntmps25
    go_wp2_with fail
    refine (cb.out _ (by (repeat (first | (with_reducible exact Below.refl _ _) | ((with_reducible refine below_alloc ?_ ?_ _); · (first | omega | (simp; done) | (simp; omega))) | ((with_reducible refine below_setCell ?_ ?_ _); · (first | omega | (simp; done) | (simp; omega))) | (with_reducible refine Below.drew ?_) | (with_reducible refine below_drewN ?_ _) | ((with_reducible refine below_call (by assumption) ?_ ?_); · (first | omega | (simp; done) | (simp; omega))))))).mono ?_; rintro e w1 ⟨rfl, hb1⟩
    go_wp2
    go_ret
    exact ⟨ret_bool HI2.out.symm, hb1⟩
end Go.Proofs.YtiiikfcipnggeaaDoor
