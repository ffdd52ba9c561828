/- Layer 9, the program's: whether an address, and a resource, may be. -/
import Derived.Test.YtiiikfcipnggeaaDoorA9J
namespace Go.Proofs.YtiiikfcipnggeaaDoor
open Go.RowKit
set_option linter.unusedVariables false
set_option linter.unusedSimpArgs false

set_option maxRecDepth 100000 in
set_option maxHeartbeats 4000000 in
theorem acheck_any (n h r : ByteArray) (w : World) (hT : Tabs9 w) :
    Calls Tryd.prog 61 #[adV n h r] w fun e w' => e = .returned (.int .i64 (chkA n h r)) ∧ Below w.heap.size w w' := by
  have cl := Lib.hid (fun W => haslong_any n h r W)
  have X0 : Hid (∀ (t : TypeId), Bx3 (w.alloc (.cells #[.string n, .string h, .string r] t)) w.heap.size n h r) := Lib.hid (fun t => by simp [Bx3, go_sem])
  simp only [adV] at *
  cases hL : longB n h r with
  | true =>
    have HR : Hid (chkA n h r = 5) := Lib.hid (if_pos hL)
    rw [hL] at cl
    clear hL
    go_enter Tryd.func61, Tryd.ntmps61
    go_wp2_with fail
    refine (cl.out _).mono ?_; rintro e w1 ⟨rfl, hb1⟩
    go_wp2
    go_ret
    exact ⟨ret_int HR.out.symm, by (repeat (first | (with_reducible exact Below.refl _ _) | ((with_reducible refine below_alloc ?_ ?_ _); · (first | omega | (simp; done) | (simp; omega))) | ((with_reducible refine below_setCell ?_ ?_ _); · (first | omega | (simp; done) | (simp; omega))) | (with_reducible refine Below.drew ?_) | (with_reducible refine below_drewN ?_ _) | ((with_reducible refine below_call (by assumption) ?_ ?_); · (first | omega | (simp; done) | (simp; omega)))))⟩
  | false =>
  have hsz : n.size ≤ 16 ∧ h.size ≤ 16 ∧ r.size ≤ 12 := by
    unfold longB at hL
    simp only [Bool.or_eq_false_iff, decide_eq_false_iff_not] at hL
    omega
  have cn := Lib.hid (fun W (hb : Below w.heap.size w W) => aname_any n W (hT.call hb) (by omega))
  have ch := Lib.hid (fun W (h0 : 0 < h.size) (hb : Below w.heap.size w W) => ahost_any h W (hT.call hb).m h0 (by omega))
  have cr := Lib.hid (fun W (hb : Below w.heap.size w W) => plain_any r W (hT.call hb).t (by omega))
  have en := emp_iff n
  have eh := emp_iff h
  by_cases z1 : n.size = 0
  · have HR : Hid (chkA n h r = 4) := Lib.hid (by unfold chkA; rw [if_neg (by rw [hL]; decide), if_pos (by unfold noneB; simp [z1])])
    rw [decide_eq_true z1] at en
    rw [hL] at cl
    clear hsz hL z1
    go_enter Tryd.func61, Tryd.ntmps61
    go_wp2_with fail
    refine (cl.out _).mono ?_; rintro e w1 ⟨rfl, hb1⟩
    obtain ⟨x0, x1, x2⟩ := (X0.out _).call hb1
    go_wp2
    go_ret
    exact ⟨ret_int HR.out.symm, by (repeat (first | (with_reducible exact Below.refl _ _) | ((with_reducible refine below_alloc ?_ ?_ _); · (first | omega | (simp; done) | (simp; omega))) | ((with_reducible refine below_setCell ?_ ?_ _); · (first | omega | (simp; done) | (simp; omega))) | (with_reducible refine Below.drew ?_) | (with_reducible refine below_drewN ?_ _) | ((with_reducible refine below_call (by assumption) ?_ ?_); · (first | omega | (simp; done) | (simp; omega)))))⟩
  rw [decide_eq_false z1] at en
  by_cases z2 : h.size = 0
  · have HR : Hid (chkA n h r = 4) := Lib.hid (by unfold chkA; rw [if_neg (by rw [hL]; decide), if_pos (by unfold noneB; simp [z2])])
    rw [decide_eq_true z2] at eh
    rw [hL] at cl
    clear hsz hL z1 z2
    go_enter Tryd.func61, Tryd.ntmps61
    go_wp2_with fail
    refine (cl.out _).mono ?_; rintro e w1 ⟨rfl, hb1⟩
    obtain ⟨x0, x1, x2⟩ := (X0.out _).call hb1
    go_wp2
    go_ret
    exact ⟨ret_int HR.out.symm, by (repeat (first | (with_reducible exact Below.refl _ _) | ((with_reducible refine below_alloc ?_ ?_ _); · (first | omega | (simp; done) | (simp; omega))) | ((with_reducible refine below_setCell ?_ ?_ _); · (first | omega | (simp; done) | (simp; omega))) | (with_reducible refine Below.drew ?_) | (with_reducible refine below_drewN ?_ _) | ((with_reducible refine below_call (by assumption) ?_ ?_); · (first | omega | (simp; done) | (simp; omega)))))⟩
  rw [decide_eq_false z2] at eh
  have hN : noneB n h = false := by unfold noneB; simp [z1, z2]
  have HK : Hid (chkA n h r = if txtB n h r = true then 0 else 11) := Lib.hid (by unfold chkA; rw [if_neg (by rw [hL]; decide), if_neg (by rw [hN]; decide)])
  have hz0 : 0 < h.size := by omega
  rw [hL] at cl
  replace ch := Lib.hid (fun W hb => ch.out W hz0 hb)
  clear hL hN z1 z2 hsz hz0
  cases t1 : nameB n.data.toList with
  | false =>
    have HR := Lib.hid (HK.out.trans (if_neg (by unfold txtB; simp [t1])))
    rw [t1] at cn
    clear HK t1
    go_enter Tryd.func61, Tryd.ntmps61
    go_wp2_with fail
    refine (cl.out _).mono ?_; rintro e w0 ⟨rfl, hb0⟩
    have B0 : Below w.heap.size w w0 := by (repeat (first | (with_reducible exact Below.refl _ _) | ((with_reducible refine below_alloc ?_ ?_ _); · (first | omega | (simp; done) | (simp; omega))) | ((with_reducible refine below_setCell ?_ ?_ _); · (first | omega | (simp; done) | (simp; omega))) | (with_reducible refine Below.drew ?_) | (with_reducible refine below_drewN ?_ _) | ((with_reducible refine below_call (by assumption) ?_ ?_); · (first | omega | (simp; done) | (simp; omega)))))
    have X1 := Lib.hid ((X0.out _).call hb0)
    obtain ⟨x0, x1, x2⟩ := id X1.out
    go_wp2_with fail
    refine (cn.out _ B0).mono ?_; rintro e w1 ⟨rfl, hb1⟩
    have B1 := below_call hb1 B0.size B0
    go_wp2
    go_ret
    exact ⟨ret_int HR.out.symm, B1⟩
  | true =>
    rw [t1] at cn
    cases t2 : hostB h.data.toList with
    | false =>
      have HR := Lib.hid (HK.out.trans (if_neg (by unfold txtB; simp [t2])))
      rw [t2] at ch
      clear HK t1 t2
      go_enter Tryd.func61, Tryd.ntmps61
      go_wp2_with fail
      refine (cl.out _).mono ?_; rintro e w0 ⟨rfl, hb0⟩
      have B0 : Below w.heap.size w w0 := by (repeat (first | (with_reducible exact Below.refl _ _) | ((with_reducible refine below_alloc ?_ ?_ _); · (first | omega | (simp; done) | (simp; omega))) | ((with_reducible refine below_setCell ?_ ?_ _); · (first | omega | (simp; done) | (simp; omega))) | (with_reducible refine Below.drew ?_) | (with_reducible refine below_drewN ?_ _) | ((with_reducible refine below_call (by assumption) ?_ ?_); · (first | omega | (simp; done) | (simp; omega)))))
      have X1 := Lib.hid ((X0.out _).call hb0)
      obtain ⟨x0, x1, x2⟩ := id X1.out
      go_wp2_with fail
      refine (cn.out _ B0).mono ?_; rintro e w1 ⟨rfl, hb1⟩
      have B1 := below_call hb1 B0.size B0
      clear x0 x1 x2
      have X2 := Lib.hid (X1.out.call hb1)
      obtain ⟨x0, x1, x2⟩ := id X2.out
      go_wp2_with fail
      refine (ch.out _ B1).mono ?_; rintro e w2 ⟨rfl, hb2⟩
      have B2 := below_call hb2 B1.size B1
      go_wp2
      go_ret
      exact ⟨ret_int HR.out.symm, B2⟩
    | true =>
      rw [t2] at ch
      have HR := Lib.hid (show chkA n h r = if plB r.data.toList = true then 0 else 11 from by rw [HK.out]; unfold txtB; rw [t1, t2]; simp)
      obtain ⟨pr, hpr⟩ : ∃ b, plB r.data.toList = b := ⟨_, rfl⟩
      rw [hpr] at cr HR
      clear HK t1 t2 hpr
      go_enter Tryd.func61, Tryd.ntmps61
      go_wp2_with fail
      refine (cl.out _).mono ?_; rintro e w0 ⟨rfl, hb0⟩
      have B0 : Below w.heap.size w w0 := by (repeat (first | (with_reducible exact Below.refl _ _) | ((with_reducible refine below_alloc ?_ ?_ _); · (first | omega | (simp; done) | (simp; omega))) | ((with_reducible refine below_setCell ?_ ?_ _); · (first | omega | (simp; done) | (simp; omega))) | (with_reducible refine Below.drew ?_) | (with_reducible refine below_drewN ?_ _) | ((with_reducible refine below_call (by assumption) ?_ ?_); · (first | omega | (simp; done) | (simp; omega)))))
      have X1 := Lib.hid ((X0.out _).call hb0)
      obtain ⟨x0, x1, x2⟩ := id X1.out
      go_wp2_with fail
      refine (cn.out _ B0).mono ?_; rintro e w1 ⟨rfl, hb1⟩
      have B1 := below_call hb1 B0.size B0
      clear x0 x1 x2
      have X2 := Lib.hid (X1.out.call hb1)
      obtain ⟨x0, x1, x2⟩ := id X2.out
      go_wp2_with fail
      refine (ch.out _ B1).mono ?_; rintro e w2 ⟨rfl, hb2⟩
      have B2 := below_call hb2 B1.size B1
      clear x0 x1 x2
      have X3 := Lib.hid (X2.out.call hb2)
      obtain ⟨x0, x1, x2⟩ := id X3.out
      go_wp2_with fail
      refine (cr.out _ B2).mono ?_; rintro e w3 ⟨rfl, hb3⟩
      have B3 := below_call hb3 B2.size B2
      cases pr with
      | true =>
        replace HR := Lib.hid (HR.out.trans (if_pos rfl))
        go_wp2
        go_ret
        exact ⟨ret_int HR.out.symm, B3⟩
      | false =>
        replace HR := Lib.hid (HR.out.trans (if_neg (by decide)))
        go_wp2
        go_ret
        exact ⟨ret_int HR.out.symm, B3⟩
theorem ares_any (r : ByteArray) (w : World) (hT : Tabs9 w) : Calls Tryd.prog 26 #[.string r] w fun e w' => e = .returned (.int .i64 (resE r)) ∧ Below w.heap.size w w' := by
  by_cases l3 : 12 < r.size
  · have HR : Hid (resE r = 5) := Lib.hid (if_pos l3)
    have l3' : (12 : Int) < r.size := by omega
    clear l3
    go_enter Tryd.func26, Tryd.ntmps26
    go_wp2
    go_ret
    exact ⟨ret_int HR.out.symm, by (repeat (first | (with_reducible exact Below.refl _ _) | ((with_reducible refine below_alloc ?_ ?_ _); · (first | omega | (simp; done) | (simp; omega))) | ((with_reducible refine below_setCell ?_ ?_ _); · (first | omega | (simp; done) | (simp; omega))) | (with_reducible refine Below.drew ?_) | (with_reducible refine below_drewN ?_ _) | ((with_reducible refine below_call (by assumption) ?_ ?_); · (first | omega | (simp; done) | (simp; omega)))))⟩
  have l3' : ¬ (12 : Int) < r.size := by omega
  have HK : Hid (resE r = if plB r.data.toList = true then 0 else 11) := Lib.hid (if_neg l3)
  have cr := Lib.hid (plain_any r w hT.t (by omega))
  clear l3
  cases t3 : plB r.data.toList with
  | false =>
    have HR := Lib.hid (HK.out.trans (if_neg (by rw [t3]; decide)))
    rw [t3] at cr
    clear HK t3
    go_enter Tryd.func26, Tryd.ntmps26
    go_wp2_with fail
    refine cr.out.mono ?_; rintro e w3 ⟨rfl, hb3⟩
    go_wp2
    go_ret
    exact ⟨ret_int HR.out.symm, by (repeat (first | (with_reducible exact Below.refl _ _) | ((with_reducible refine below_alloc ?_ ?_ _); · (first | omega | (simp; done) | (simp; omega))) | ((with_reducible refine below_setCell ?_ ?_ _); · (first | omega | (simp; done) | (simp; omega))) | (with_reducible refine Below.drew ?_) | (with_reducible refine below_drewN ?_ _) | ((with_reducible refine below_call (by assumption) ?_ ?_); · (first | omega | (simp; done) | (simp; omega)))))⟩
  | true =>
    have HR := Lib.hid (HK.out.trans (if_pos t3))
    rw [t3] at cr
    clear HK t3
    go_enter Tryd.func26, Tryd.ntmps26
    go_wp2_with fail
    refine cr.out.mono ?_; rintro e w3 ⟨rfl, hb3⟩
    go_wp2
    go_ret
    exact ⟨ret_int HR.out.symm, by (repeat (first | (with_reducible exact Below.refl _ _) | ((with_reducible refine below_alloc ?_ ?_ _); · (first | omega | (simp; done) | (simp; omega))) | ((with_reducible refine below_setCell ?_ ?_ _); · (first | omega | (simp; done) | (simp; omega))) | (with_reducible refine Below.drew ?_) | (with_reducible refine below_drewN ?_ _) | ((with_reducible refine below_call (by assumption) ?_ ?_); · (first | omega | (simp; done) | (simp; omega)))))⟩
end Go.Proofs.YtiiikfcipnggeaaDoor
