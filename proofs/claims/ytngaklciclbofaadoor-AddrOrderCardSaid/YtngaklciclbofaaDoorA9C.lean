/- Layer 9, the document's: whether an address, and a resource, may be. -/
import Derived.Test.YtngaklciclbofaaDoorA9B
namespace Go.Proofs.YtngaklciclbofaaDoor
open Go.RowKit
set_option linter.unusedVariables false
set_option linter.unusedSimpArgs false

theorem gen_world {P : Program} {C : Code} {Q : Exit → Act → World → Prop} {a : Act} {W : World} (F : World → Prop) (hF : F W) (h : ∀ wt, F wt → Code.wp P C Q a wt) : Code.wp P C Q a W := h W hF
theorem emp_iff (s : ByteArray) : s.toList.isEmpty = decide (s.size = 0) := by
  rw [ByteArray.toList_eq, sz_list]
  cases s.data.toList <;> simp
/-- an address's value -/
abbrev adV (n h r : ByteArray) : Value := .agg #[.string n, .string h, .string r]
/-- block b holds these three texts -/
def Bx3 (w : World) (b : Nat) (n h r : ByteArray) : Prop := w.cell? ⟨b, 0, none⟩ = some (.string n) ∧ w.cell? ⟨b, 1, none⟩ = some (.string h) ∧ w.cell? ⟨b, 2, none⟩ = some (.string r)
theorem Bx3.lt {w : World} {b : Nat} {n h r : ByteArray} (H : Bx3 w b n h r) : b < w.heap.size := World.block_lt_of_cell? _ _ H.1
theorem Bx3.call {W w1 : World} {b : Nat} {n h r : ByteArray} (H : Bx3 W b n h r) (hb : Below W.heap.size W w1) : Bx3 w1 b n h r := by
  have hl := H.lt
  have k := fun o => hb.cell (p := ⟨b, o, none⟩) hl
  exact ⟨(k 0).trans H.1, (k 1).trans H.2.1, (k 2).trans H.2.2⟩
def longB (n h r : ByteArray) : Bool := decide (16 < n.size) || (decide (16 < h.size) || decide (12 < r.size))
def noneB (n h : ByteArray) : Bool := decide (n.size = 0) || decide (h.size = 0)
def textB (n h r : ByteArray) : Bool := nameB n.data.toList && (hostB h.data.toList && plB r.data.toList)
/-- what Check tells -/
def chkA (n h r : ByteArray) : Int := if longB n h r = true then 5 else if noneB n h = true then 4 else if textB n h r = true then 0 else 11
/-- what Resource tells -/
def resE (r : ByteArray) : Int := if 12 < r.size then 5 else if plB r.data.toList = true then 0 else 11
set_option maxRecDepth 100000 in
set_option maxHeartbeats 4000000 in
theorem dcheck_any (n h r : ByteArray) (w : World) :
    Calls Tryd.prog 21 #[adV n h r] w fun e w' => e = .returned (.int .i64 (chkA n h r)) ∧ Below w.heap.size w w' := by
  simp only [adV]
  by_cases l1 : 16 < n.size
  · have HR : Hid (chkA n h r = 5) := Lib.hid (if_pos (by unfold longB; simp [l1]))
    have l1' : (16 : Int) < n.size := by omega
    clear l1
    go_enter Tryd.func21, Tryd.ntmps21
    go_wp2
    go_ret
    exact ⟨ret_int HR.out.symm, by (repeat (first | (with_reducible exact Below.refl _ _) | ((with_reducible refine below_alloc ?_ ?_ _); · (first | omega | (simp; done) | (simp; omega))) | ((with_reducible refine below_setCell ?_ ?_ _); · (first | omega | (simp; done) | (simp; omega))) | (with_reducible refine Below.drew ?_) | (with_reducible refine below_drewN ?_ _) | ((with_reducible refine below_call (by assumption) ?_ ?_); · (first | omega | (simp; done) | (simp; omega)))))⟩
  have l1' : ¬ (16 : Int) < n.size := by omega
  by_cases l2 : 16 < h.size
  · have HR : Hid (chkA n h r = 5) := Lib.hid (if_pos (by unfold longB; simp [l2]))
    have l2' : (16 : Int) < h.size := by omega
    clear l1 l2
    go_enter Tryd.func21, Tryd.ntmps21
    go_wp2
    go_ret
    exact ⟨ret_int HR.out.symm, by (repeat (first | (with_reducible exact Below.refl _ _) | ((with_reducible refine below_alloc ?_ ?_ _); · (first | omega | (simp; done) | (simp; omega))) | ((with_reducible refine below_setCell ?_ ?_ _); · (first | omega | (simp; done) | (simp; omega))) | (with_reducible refine Below.drew ?_) | (with_reducible refine below_drewN ?_ _) | ((with_reducible refine below_call (by assumption) ?_ ?_); · (first | omega | (simp; done) | (simp; omega)))))⟩
  have l2' : ¬ (16 : Int) < h.size := by omega
  by_cases l3 : 12 < r.size
  · have HR : Hid (chkA n h r = 5) := Lib.hid (if_pos (by unfold longB; simp [l3]))
    have l3' : (12 : Int) < r.size := by omega
    clear l1 l2 l3
    go_enter Tryd.func21, Tryd.ntmps21
    go_wp2
    go_ret
    exact ⟨ret_int HR.out.symm, by (repeat (first | (with_reducible exact Below.refl _ _) | ((with_reducible refine below_alloc ?_ ?_ _); · (first | omega | (simp; done) | (simp; omega))) | ((with_reducible refine below_setCell ?_ ?_ _); · (first | omega | (simp; done) | (simp; omega))) | (with_reducible refine Below.drew ?_) | (with_reducible refine below_drewN ?_ _) | ((with_reducible refine below_call (by assumption) ?_ ?_); · (first | omega | (simp; done) | (simp; omega)))))⟩
  have l3' : ¬ (12 : Int) < r.size := by omega
  have hL : longB n h r = false := by unfold longB; simp [l1, l2, l3]
  have en := emp_iff n
  have eh := emp_iff h
  by_cases z1 : n.size = 0
  · have HR : Hid (chkA n h r = 4) := Lib.hid (by unfold chkA; rw [if_neg (by rw [hL]; decide), if_pos (by unfold noneB; simp [z1])])
    rw [decide_eq_true z1] at en
    clear l1 l2 l3 hL z1
    go_enter Tryd.func21, Tryd.ntmps21
    go_wp2
    go_ret
    exact ⟨ret_int HR.out.symm, by (repeat (first | (with_reducible exact Below.refl _ _) | ((with_reducible refine below_alloc ?_ ?_ _); · (first | omega | (simp; done) | (simp; omega))) | ((with_reducible refine below_setCell ?_ ?_ _); · (first | omega | (simp; done) | (simp; omega))) | (with_reducible refine Below.drew ?_) | (with_reducible refine below_drewN ?_ _) | ((with_reducible refine below_call (by assumption) ?_ ?_); · (first | omega | (simp; done) | (simp; omega)))))⟩
  rw [decide_eq_false z1] at en
  by_cases z2 : h.size = 0
  · have HR : Hid (chkA n h r = 4) := Lib.hid (by unfold chkA; rw [if_neg (by rw [hL]; decide), if_pos (by unfold noneB; simp [z2])])
    rw [decide_eq_true z2] at eh
    clear l1 l2 l3 hL z1 z2
    go_enter Tryd.func21, Tryd.ntmps21
    go_wp2
    go_ret
    exact ⟨ret_int HR.out.symm, by (repeat (first | (with_reducible exact Below.refl _ _) | ((with_reducible refine below_alloc ?_ ?_ _); · (first | omega | (simp; done) | (simp; omega))) | ((with_reducible refine below_setCell ?_ ?_ _); · (first | omega | (simp; done) | (simp; omega))) | (with_reducible refine Below.drew ?_) | (with_reducible refine below_drewN ?_ _) | ((with_reducible refine below_call (by assumption) ?_ ?_); · (first | omega | (simp; done) | (simp; omega)))))⟩
  rw [decide_eq_false z2] at eh
  have hN : noneB n h = false := by unfold noneB; simp [z1, z2]
  have HK : Hid (chkA n h r = if textB n h r = true then 0 else 11) := Lib.hid (by unfold chkA; rw [if_neg (by rw [hL]; decide), if_neg (by rw [hN]; decide)])
  have cn := Lib.hid (fun W => dname_any n W (by omega))
  have ch := Lib.hid (fun W => dhost_any h W (by omega))
  have cr := Lib.hid (fun W => refplain_any r W (by omega))
  have X0 : Hid (∀ (t : TypeId), Bx3 (w.alloc (.cells #[.string n, .string h, .string r] t)) w.heap.size n h r) := Lib.hid (fun t => by simp [Bx3, go_sem])
  clear l1 l2 l3 hL hN z1 z2
  cases t1 : nameB n.data.toList with
  | false =>
    have HR := Lib.hid (HK.out.trans (if_neg (by unfold textB; simp [t1])))
    rw [t1] at cn
    clear HK t1
    go_enter Tryd.func21, Tryd.ntmps21
    go_wp2_with fail
    refine (cn.out _).mono ?_; rintro e w1 ⟨rfl, hb1⟩
    have B1 : Below w.heap.size w w1 := by (repeat (first | (with_reducible exact Below.refl _ _) | ((with_reducible refine below_alloc ?_ ?_ _); · (first | omega | (simp; done) | (simp; omega))) | ((with_reducible refine below_setCell ?_ ?_ _); · (first | omega | (simp; done) | (simp; omega))) | (with_reducible refine Below.drew ?_) | (with_reducible refine below_drewN ?_ _) | ((with_reducible refine below_call (by assumption) ?_ ?_); · (first | omega | (simp; done) | (simp; omega)))))
    go_wp2
    go_ret
    exact ⟨ret_int HR.out.symm, by (repeat (first | (with_reducible exact Below.refl _ _) | ((with_reducible refine below_alloc ?_ ?_ _); · (first | omega | (simp; done) | (simp; omega))) | ((with_reducible refine below_setCell ?_ ?_ _); · (first | omega | (simp; done) | (simp; omega))) | (with_reducible refine Below.drew ?_) | (with_reducible refine below_drewN ?_ _) | ((with_reducible refine below_call (by assumption) ?_ ?_); · (first | omega | (simp; done) | (simp; omega)))))⟩
  | true =>
    rw [t1] at cn
    cases t2 : hostB h.data.toList with
    | false =>
      have HR := Lib.hid (HK.out.trans (if_neg (by unfold textB; simp [t2])))
      rw [t2] at ch
      clear HK t1 t2
      go_enter Tryd.func21, Tryd.ntmps21
      go_wp2_with fail
      refine (cn.out _).mono ?_; rintro e w1 ⟨rfl, hb1⟩
      have B1 : Below w.heap.size w w1 := by (repeat (first | (with_reducible exact Below.refl _ _) | ((with_reducible refine below_alloc ?_ ?_ _); · (first | omega | (simp; done) | (simp; omega))) | ((with_reducible refine below_setCell ?_ ?_ _); · (first | omega | (simp; done) | (simp; omega))) | (with_reducible refine Below.drew ?_) | (with_reducible refine below_drewN ?_ _) | ((with_reducible refine below_call (by assumption) ?_ ?_); · (first | omega | (simp; done) | (simp; omega)))))
      obtain ⟨x0, x1, x2⟩ := (X0.out _).call hb1
      go_wp2_with fail
      refine (ch.out _).mono ?_; rintro e w2 ⟨rfl, hb2⟩
      have B2 := below_call hb2 B1.size B1
      go_wp2
      go_ret
      exact ⟨ret_int HR.out.symm, B2⟩
    | true =>
      rw [t2] at ch
      have HR := Lib.hid (show chkA n h r = if plB r.data.toList = true then 0 else 11 from by rw [HK.out]; unfold textB; rw [t1, t2]; simp)
      cases t3 : plB r.data.toList with
      | false =>
        have HR := Lib.hid (HR.out.trans (if_neg (by rw [t3]; decide)))
        rw [t3] at cr
        clear HK t1 t2 t3
        go_enter Tryd.func21, Tryd.ntmps21
        go_wp2_with fail
        refine (cn.out _).mono ?_; rintro e w1 ⟨rfl, hb1⟩
        have B1 : Below w.heap.size w w1 := by (repeat (first | (with_reducible exact Below.refl _ _) | ((with_reducible refine below_alloc ?_ ?_ _); · (first | omega | (simp; done) | (simp; omega))) | ((with_reducible refine below_setCell ?_ ?_ _); · (first | omega | (simp; done) | (simp; omega))) | (with_reducible refine Below.drew ?_) | (with_reducible refine below_drewN ?_ _) | ((with_reducible refine below_call (by assumption) ?_ ?_); · (first | omega | (simp; done) | (simp; omega)))))
        have X1 := Lib.hid ((X0.out _).call hb1)
        obtain ⟨x0, x1, x2⟩ := id X1.out
        go_wp2_with fail
        refine (ch.out _).mono ?_; rintro e w2 ⟨rfl, hb2⟩
        have B2 := below_call hb2 B1.size B1
        clear x0 x1 x2
        obtain ⟨x0, x1, x2⟩ := X1.out.call hb2
        go_wp2_with fail
        refine (cr.out _).mono ?_; rintro e w3 ⟨rfl, hb3⟩
        have B3 := below_call hb3 B2.size B2
        go_wp2
        go_ret
        exact ⟨ret_int HR.out.symm, B3⟩
      | true =>
        have HR := Lib.hid (HR.out.trans (if_pos t3))
        rw [t3] at cr
        clear HK t1 t2 t3
        go_enter Tryd.func21, Tryd.ntmps21
        go_wp2_with fail
        refine (cn.out _).mono ?_; rintro e w1 ⟨rfl, hb1⟩
        have B1 : Below w.heap.size w w1 := by (repeat (first | (with_reducible exact Below.refl _ _) | ((with_reducible refine below_alloc ?_ ?_ _); · (first | omega | (simp; done) | (simp; omega))) | ((with_reducible refine below_setCell ?_ ?_ _); · (first | omega | (simp; done) | (simp; omega))) | (with_reducible refine Below.drew ?_) | (with_reducible refine below_drewN ?_ _) | ((with_reducible refine below_call (by assumption) ?_ ?_); · (first | omega | (simp; done) | (simp; omega)))))
        have X1 := Lib.hid ((X0.out _).call hb1)
        obtain ⟨x0, x1, x2⟩ := id X1.out
        go_wp2_with fail
        refine (ch.out _).mono ?_; rintro e w2 ⟨rfl, hb2⟩
        have B2 := below_call hb2 B1.size B1
        clear x0 x1 x2
        obtain ⟨x0, x1, x2⟩ := X1.out.call hb2
        go_wp2_with fail
        refine (cr.out _).mono ?_; rintro e w3 ⟨rfl, hb3⟩
        have B3 := below_call hb3 B2.size B2
        go_wp2
        go_ret
        exact ⟨ret_int HR.out.symm, B3⟩
theorem dres_any (r : ByteArray) (w : World) : Calls Tryd.prog 17 #[.string r] w fun e w' => e = .returned (.int .i64 (resE r)) ∧ Below w.heap.size w w' := by
  by_cases l3 : 12 < r.size
  · have HR : Hid (resE r = 5) := Lib.hid (if_pos l3)
    have l3' : (12 : Int) < r.size := by omega
    clear l3
    go_enter Tryd.func17, Tryd.ntmps17
    go_wp2
    go_ret
    exact ⟨ret_int HR.out.symm, by (repeat (first | (with_reducible exact Below.refl _ _) | ((with_reducible refine below_alloc ?_ ?_ _); · (first | omega | (simp; done) | (simp; omega))) | ((with_reducible refine below_setCell ?_ ?_ _); · (first | omega | (simp; done) | (simp; omega))) | (with_reducible refine Below.drew ?_) | (with_reducible refine below_drewN ?_ _) | ((with_reducible refine below_call (by assumption) ?_ ?_); · (first | omega | (simp; done) | (simp; omega)))))⟩
  have l3' : ¬ (12 : Int) < r.size := by omega
  have HK : Hid (resE r = if plB r.data.toList = true then 0 else 11) := Lib.hid (if_neg l3)
  have cr := Lib.hid (fun W => refplain_any r W (by omega))
  clear l3
  cases t3 : plB r.data.toList with
  | false =>
    have HR := Lib.hid (HK.out.trans (if_neg (by rw [t3]; decide)))
    rw [t3] at cr
    clear HK t3
    go_enter Tryd.func17, Tryd.ntmps17
    go_wp2_with fail
    refine (cr.out _).mono ?_; rintro e w3 ⟨rfl, hb3⟩
    go_wp2
    go_ret
    exact ⟨ret_int HR.out.symm, by (repeat (first | (with_reducible exact Below.refl _ _) | ((with_reducible refine below_alloc ?_ ?_ _); · (first | omega | (simp; done) | (simp; omega))) | ((with_reducible refine below_setCell ?_ ?_ _); · (first | omega | (simp; done) | (simp; omega))) | (with_reducible refine Below.drew ?_) | (with_reducible refine below_drewN ?_ _) | ((with_reducible refine below_call (by assumption) ?_ ?_); · (first | omega | (simp; done) | (simp; omega)))))⟩
  | true =>
    have HR := Lib.hid (HK.out.trans (if_pos t3))
    rw [t3] at cr
    clear HK t3
    go_enter Tryd.func17, Tryd.ntmps17
    go_wp2_with fail
    refine (cr.out _).mono ?_; rintro e w3 ⟨rfl, hb3⟩
    go_wp2
    go_ret
    exact ⟨ret_int HR.out.symm, by (repeat (first | (with_reducible exact Below.refl _ _) | ((with_reducible refine below_alloc ?_ ?_ _); · (first | omega | (simp; done) | (simp; omega))) | ((with_reducible refine below_setCell ?_ ?_ _); · (first | omega | (simp; done) | (simp; omega))) | (with_reducible refine Below.drew ?_) | (with_reducible refine below_drewN ?_ _) | ((with_reducible refine below_call (by assumption) ?_ ?_); · (first | omega | (simp; done) | (simp; omega)))))⟩
end Go.Proofs.YtngaklciclbofaaDoor
