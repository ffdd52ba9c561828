/- Layer 9, the document's: an address's text; a bare one; with a resource. -/
import Derived.Test.YtngaklciclbofaaDoorA9D
namespace Go.Proofs.YtngaklciclbofaaDoor
open Go.RowKit
set_option linter.unusedVariables false
set_option linter.unusedSimpArgs false

/-- an address's text -/
def joinT (n h r : ByteArray) : ByteArray := if r.size = 0 then n ++ ⟨#[64]⟩ ++ h else n ++ ⟨#[64]⟩ ++ h ++ ⟨#[47]⟩ ++ r
/-- what Print tells -/
def priT (n h r : ByteArray) : ByteArray := me (chkA n h r) (joinT n h r)
set_option maxRecDepth 100000 in
set_option maxHeartbeats 4000000 in
theorem dprint_any (n h r : ByteArray) (w : World) (l1 : n.size ≤ 1000000) (l2 : h.size ≤ 1000000) (l3 : r.size ≤ 1000000) :
    Calls Tryd.prog 19 #[adV n h r] w fun e w' => e = .returned (.tuple #[.string (priT n h r), .int .i64 (chkA n h r)]) ∧ Below w.heap.size w w' := by
  have c4 := Lib.hid (fun W => dcheck_any n h r W)
  have er := emp_iff r
  have HJ : Hid (priT n h r = me (chkA n h r) (joinT n h r)) := Lib.hid rfl
  have HT : Hid (joinT n h r = if r.size = 0 then n ++ ⟨#[64]⟩ ++ h else n ++ ⟨#[64]⟩ ++ h ++ ⟨#[47]⟩ ++ r) := Lib.hid rfl
  have X0 : Hid (∀ (t : TypeId), Bx3 (w.alloc (.cells #[.string n, .string h, .string r] t)) w.heap.size n h r) := Lib.hid (fun t => by simp [Bx3, go_sem])
  simp only [adV] at *
  generalize chkA n h r = E at c4 HJ ⊢
  generalize priT n h r = T at HJ ⊢
  go_enter Tryd.func19, Tryd.ntmps19
  go_wp2_with fail
  refine (c4.out _).mono ?_; rintro e w1 ⟨rfl, hb1⟩
  have X1 := Lib.hid ((X0.out _).call hb1)
  obtain ⟨x0, x1, x2⟩ := id X1.out
  have B1 : Below w.heap.size w w1 := by (repeat (first | (with_reducible exact Below.refl _ _) | ((with_reducible refine below_alloc ?_ ?_ _); · (first | omega | (simp; done) | (simp; omega))) | ((with_reducible refine below_setCell ?_ ?_ _); · (first | omega | (simp; done) | (simp; omega))) | (with_reducible refine Below.drew ?_) | (with_reducible refine below_drewN ?_ _) | ((with_reducible refine below_call (by assumption) ?_ ?_); · (first | omega | (simp; done) | (simp; omega)))))
  by_cases hE0 : E = 0
  · subst hE0
    have HT2 := Lib.hid (HJ.out.trans (me_yes _))
    by_cases hr0 : r.size = 0
    · rw [decide_eq_true hr0] at er
      have HT3 := Lib.hid (HT2.out.trans (HT.out.trans (if_pos hr0)))
      clear HT HT2 HJ hr0
      go_wp2
      go_ret2
      exact ⟨by rw [HT3.out]; rfl, B1⟩
    · rw [decide_eq_false hr0] at er
      have HT3 := Lib.hid (HT2.out.trans (HT.out.trans (if_neg hr0)))
      clear HT HT2 HJ hr0
      go_wp2
      go_ret2
      exact ⟨by rw [HT3.out]; rfl, B1⟩
  · have e0 : (E != 0) = true := by simp [hE0]
    have HT2 := Lib.hid (HJ.out.trans (me_no hE0 _))
    go_wp2_with fail
    refine (c4.out _).mono ?_; rintro e w2 ⟨rfl, hb2⟩
    have B2 := below_call hb2 B1.size B1
    go_wp2
    go_ret2
    exact ⟨by rw [HT2.out]; rfl, B2⟩
/-- what Bare tells: its error is that of Parse, or of Print -/
def barE (s : ByteArray) : Int := if parE s = 0 then chkA (nmP s) (hsP s) ⟨#[]⟩ else parE s
def barT (s : ByteArray) : ByteArray := if parE s = 0 then priT (nmP s) (hsP s) ⟨#[]⟩ else ⟨#[]⟩
theorem nmP_size (s : ByteArray) : (nmP s).size ≤ s.size := by
  have h1 := frB_size s
  have h2 := slN_le s
  unfold nmP
  simp
  omega
theorem hsP_size (s : ByteArray) : (hsP s).size ≤ s.size := by
  have h1 := frB_size s
  have h2 := slN_le s
  unfold hsP
  simp
  omega
theorem rsP_size (s : ByteArray) : (rsP s).size ≤ s.size := by
  unfold rsP
  split
  · simp
  · exact Nat.zero_le _
set_option maxRecDepth 100000 in
set_option maxHeartbeats 4000000 in
theorem dbare_any (s : ByteArray) (w : World) (hs : s.size ≤ 1000000) :
    Calls Tryd.prog 11 #[.string s] w fun e w' => e = .returned (.tuple #[.string (barT s), .int .i64 (barE s)]) ∧ Below w.heap.size w w' := by
  have cp := Lib.hid (fun W => dparse_any s W (by omega))
  by_cases h0 : parE s = 0
  · have H1 : Hid (barE s = chkA (nmP s) (hsP s) ⟨#[]⟩) := Lib.hid (if_pos h0)
    have H2 : Hid (barT s = priT (nmP s) (hsP s) ⟨#[]⟩) := Lib.hid (if_pos h0)
    have cr := Lib.hid (fun W => dprint_any (nmP s) (hsP s) ⟨#[]⟩ W (by have := nmP_size s; omega) (by have := hsP_size s; omega) (by decide))
    unfold parV at cp
    rw [h0, me_yes, me_yes, me_yes] at cp
    generalize nmP s = pn at cp cr H1 H2
    generalize hsP s = ph at cp cr H1 H2
    generalize rsP s = pr at cp
    generalize chkA pn ph ⟨#[]⟩ = E at cr H1
    generalize priT pn ph ⟨#[]⟩ = T at cr H2
    clear h0
    simp only [adV] at *
    go_enter Tryd.func11, Tryd.ntmps11
    go_wp2_with fail
    refine (cp.out _).mono ?_; rintro e w1 ⟨rfl, hb1⟩
    go_wp2_with fail
    refine (cr.out _).mono ?_; rintro e w2 ⟨rfl, hb2⟩
    have B1 : Below w.heap.size w w1 := by (repeat (first | (with_reducible exact Below.refl _ _) | ((with_reducible refine below_alloc ?_ ?_ _); · (first | omega | (simp; done) | (simp; omega))) | ((with_reducible refine below_setCell ?_ ?_ _); · (first | omega | (simp; done) | (simp; omega))) | (with_reducible refine Below.drew ?_) | (with_reducible refine below_drewN ?_ _) | ((with_reducible refine below_call (by assumption) ?_ ?_); · (first | omega | (simp; done) | (simp; omega)))))
    have hz := B1.size
    go_wp2
    go_ret2
    exact ⟨by rw [H1.out, H2.out]; rfl, by (repeat (first | (with_reducible exact Below.refl _ _) | ((with_reducible refine below_alloc ?_ ?_ _); · (first | omega | (simp; done) | (simp; omega))) | ((with_reducible refine below_setCell ?_ ?_ _); · (first | omega | (simp; done) | (simp; omega))) | (with_reducible refine Below.drew ?_) | (with_reducible refine below_drewN ?_ _) | ((with_reducible refine below_call (by assumption) ?_ ?_); · (first | omega | (simp; done) | (simp; omega)))))⟩
  · have H1 : Hid (barE s = parE s) := Lib.hid (if_neg h0)
    have H2 : Hid (barT s = ⟨#[]⟩) := Lib.hid (if_neg h0)
    unfold parV at cp
    generalize parE s = E at cp h0 H1
    have e0 : (E != 0) = true := by simp [h0]
    simp only [adV] at *
    go_enter Tryd.func11, Tryd.ntmps11
    go_wp2_with fail
    refine (cp.out _).mono ?_; rintro e w1 ⟨rfl, hb1⟩
    have B1 : Below w.heap.size w w1 := by (repeat (first | (with_reducible exact Below.refl _ _) | ((with_reducible refine below_alloc ?_ ?_ _); · (first | omega | (simp; done) | (simp; omega))) | ((with_reducible refine below_setCell ?_ ?_ _); · (first | omega | (simp; done) | (simp; omega))) | (with_reducible refine Below.drew ?_) | (with_reducible refine below_drewN ?_ _) | ((with_reducible refine below_call (by assumption) ?_ ?_); · (first | omega | (simp; done) | (simp; omega)))))
    have hz := B1.size
    go_wp2
    go_ret2
    exact ⟨by rw [H1.out, H2.out]; rfl, by (repeat (first | (with_reducible exact Below.refl _ _) | ((with_reducible refine below_alloc ?_ ?_ _); · (first | omega | (simp; done) | (simp; omega))) | ((with_reducible refine below_setCell ?_ ?_ _); · (first | omega | (simp; done) | (simp; omega))) | (with_reducible refine Below.drew ?_) | (with_reducible refine below_drewN ?_ _) | ((with_reducible refine below_call (by assumption) ?_ ?_); · (first | omega | (simp; done) | (simp; omega)))))⟩
/-- is a text just what Bare tells of it? -/
def isB (s : ByteArray) : Bool := decide (barE s = 0) && decide (barT s = s)
set_option maxRecDepth 100000 in
set_option maxHeartbeats 4000000 in
theorem disbare_any (s : ByteArray) (w : World) (hs : s.size ≤ 1000000) :
    Calls Tryd.prog 15 #[.string s] w fun e w' => e = .returned (.bool (isB s)) ∧ Below w.heap.size w w' := by
  have cb := Lib.hid (fun W => dbare_any s W hs)
  have HI : Hid (isB s = (decide (barE s = 0) && decide (barT s = s))) := Lib.hid rfl
  generalize isB s = b at HI ⊢
  generalize barE s = E at cb HI
  generalize barT s = T at cb HI
  have hst := str_beq T s
  by_cases h0 : E = 0
  · subst h0
    have HI2 := Lib.hid (show b = decide (T = s) from by rw [HI.out]; simp)
    clear HI
    go_enter Tryd.func15, Tryd.ntmps15
    go_wp2_with fail
    refine (cb.out _).mono ?_; rintro e w1 ⟨rfl, hb1⟩
    go_wp2
    go_ret
    exact ⟨ret_bool (by rw [HI2.out]), hb1⟩
  · have HI2 := Lib.hid (show b = false from by rw [HI.out]; simp [h0])
    have e0 : (E == 0) = false := by simp [h0]
    clear HI h0
    go_enter Tryd.func15, Tryd.ntmps15
    go_wp2_with fail
    refine (cb.out _).mono ?_; rintro e w1 ⟨rfl, hb1⟩
    go_wp2
    go_ret
    exact ⟨ret_bool HI2.out.symm, hb1⟩
/-- what Full tells -/
def fulE (s r : ByteArray) : Int := if parE s = 0 then (if (rsP s).size = 0 then (if resE r = 0 then chkA (nmP s) (hsP s) r else resE r) else 4) else parE s
def fulT (s r : ByteArray) : ByteArray := if parE s = 0 then (if (rsP s).size = 0 then (if resE r = 0 then priT (nmP s) (hsP s) r else ⟨#[]⟩) else ⟨#[]⟩) else ⟨#[]⟩
set_option maxRecDepth 100000 in
set_option maxHeartbeats 8000000 in
theorem dfull_any (s r : ByteArray) (w : World) (hs : s.size ≤ 1000000) (hr : r.size ≤ 1000000) :
    Calls Tryd.prog 13 #[.string s, .string r] w fun e w' => e = .returned (.tuple #[.string (fulT s r), .int .i64 (fulE s r)]) ∧ Below w.heap.size w w' := by
  have cp := Lib.hid (fun W => dparse_any s W (by omega))
  have cq := Lib.hid (fun W => dres_any r W)
  by_cases h0 : parE s = 0
  · have er := emp_iff (rsP s)
    unfold parV at cp
    rw [h0, me_yes, me_yes, me_yes] at cp
    by_cases hz0 : (rsP s).size = 0
    · rw [decide_eq_true hz0] at er
      by_cases hq : resE r = 0
      · have H1 : Hid (fulE s r = chkA (nmP s) (hsP s) r) := Lib.hid (by unfold fulE; rw [if_pos h0, if_pos hz0, if_pos hq])
        have H2 : Hid (fulT s r = priT (nmP s) (hsP s) r) := Lib.hid (by unfold fulT; rw [if_pos h0, if_pos hz0, if_pos hq])
        have cr := Lib.hid (fun W => dprint_any (nmP s) (hsP s) r W (by have := nmP_size s; omega) (by have := hsP_size s; omega) hr)
        rw [hq] at cq
        generalize nmP s = pn at cp cr H1 H2
        generalize hsP s = ph at cp cr H1 H2
        generalize rsP s = pr at cp er
        generalize chkA pn ph r = E at cr H1
        generalize priT pn ph r = T at cr H2
        clear h0 hz0 hq
        simp only [adV] at *
        go_enter Tryd.func13, Tryd.ntmps13
        go_wp2_with fail
        refine (cp.out _).mono ?_; rintro e w1 ⟨rfl, hb1⟩
        have B1 : Below w.heap.size w w1 := by (repeat (first | (with_reducible exact Below.refl _ _) | ((with_reducible refine below_alloc ?_ ?_ _); · (first | omega | (simp; done) | (simp; omega))) | ((with_reducible refine below_setCell ?_ ?_ _); · (first | omega | (simp; done) | (simp; omega))) | (with_reducible refine Below.drew ?_) | (with_reducible refine below_drewN ?_ _) | ((with_reducible refine below_call (by assumption) ?_ ?_); · (first | omega | (simp; done) | (simp; omega)))))
        have hz := B1.size
        go_wp2_with fail
        refine (cq.out _).mono ?_; rintro e w2 ⟨rfl, hb2⟩
        have B2 : Below w.heap.size w w2 := by (repeat (first | (with_reducible exact Below.refl _ _) | ((with_reducible refine below_alloc ?_ ?_ _); · (first | omega | (simp; done) | (simp; omega))) | ((with_reducible refine below_setCell ?_ ?_ _); · (first | omega | (simp; done) | (simp; omega))) | (with_reducible refine Below.drew ?_) | (with_reducible refine below_drewN ?_ _) | ((with_reducible refine below_call (by assumption) ?_ ?_); · (first | omega | (simp; done) | (simp; omega)))))
        have hz2 := B2.size
        obtain ⟨hk2, hf2, hz2⟩ := bcellN (n := w.heap.size + 0) (by (try simp only [World.size_drew, World.size_alloc, World.size_setCell]); omega) hb2; obtain ⟨hk2w1, hf2w1, hz2w1⟩ := bcellAt (b := w1.heap.size) (by (try simp only [World.size_drew, World.size_alloc, World.size_setCell]); omega) hb2
        go_wp2_with fail
        refine (cr.out _).mono ?_; rintro e w3 ⟨rfl, hb3⟩
        go_wp2
        go_ret2
        exact ⟨by rw [H1.out, H2.out]; rfl, by (repeat (first | (with_reducible exact Below.refl _ _) | ((with_reducible refine below_alloc ?_ ?_ _); · (first | omega | (simp; done) | (simp; omega))) | ((with_reducible refine below_setCell ?_ ?_ _); · (first | omega | (simp; done) | (simp; omega))) | (with_reducible refine Below.drew ?_) | (with_reducible refine below_drewN ?_ _) | ((with_reducible refine below_call (by assumption) ?_ ?_); · (first | omega | (simp; done) | (simp; omega)))))⟩
      · have H1 : Hid (fulE s r = resE r) := Lib.hid (by unfold fulE; rw [if_pos h0, if_pos hz0, if_neg hq])
        have H2 : Hid (fulT s r = ⟨#[]⟩) := Lib.hid (by unfold fulT; rw [if_pos h0, if_pos hz0, if_neg hq])
        generalize resE r = E at cq hq H1
        have e0 : (E != 0) = true := by simp [hq]
        generalize nmP s = pn at cp
        generalize hsP s = ph at cp
        generalize rsP s = pr at cp er
        clear h0 hz0 hq
        simp only [adV] at *
        go_enter Tryd.func13, Tryd.ntmps13
        go_wp2_with fail
        refine (cp.out _).mono ?_; rintro e w1 ⟨rfl, hb1⟩
        have B1 : Below w.heap.size w w1 := by (repeat (first | (with_reducible exact Below.refl _ _) | ((with_reducible refine below_alloc ?_ ?_ _); · (first | omega | (simp; done) | (simp; omega))) | ((with_reducible refine below_setCell ?_ ?_ _); · (first | omega | (simp; done) | (simp; omega))) | (with_reducible refine Below.drew ?_) | (with_reducible refine below_drewN ?_ _) | ((with_reducible refine below_call (by assumption) ?_ ?_); · (first | omega | (simp; done) | (simp; omega)))))
        have hz := B1.size
        go_wp2_with fail
        refine (cq.out _).mono ?_; rintro e w2 ⟨rfl, hb2⟩
        have B2 : Below w.heap.size w w2 := by (repeat (first | (with_reducible exact Below.refl _ _) | ((with_reducible refine below_alloc ?_ ?_ _); · (first | omega | (simp; done) | (simp; omega))) | ((with_reducible refine below_setCell ?_ ?_ _); · (first | omega | (simp; done) | (simp; omega))) | (with_reducible refine Below.drew ?_) | (with_reducible refine below_drewN ?_ _) | ((with_reducible refine below_call (by assumption) ?_ ?_); · (first | omega | (simp; done) | (simp; omega)))))
        have hz2 := B2.size
        go_wp2_with fail
        refine (cq.out _).mono ?_; rintro e w3 ⟨rfl, hb3⟩
        go_wp2
        go_ret2
        exact ⟨by rw [H1.out, H2.out]; rfl, by (repeat (first | (with_reducible exact Below.refl _ _) | ((with_reducible refine below_alloc ?_ ?_ _); · (first | omega | (simp; done) | (simp; omega))) | ((with_reducible refine below_setCell ?_ ?_ _); · (first | omega | (simp; done) | (simp; omega))) | (with_reducible refine Below.drew ?_) | (with_reducible refine below_drewN ?_ _) | ((with_reducible refine below_call (by assumption) ?_ ?_); · (first | omega | (simp; done) | (simp; omega)))))⟩
    · rw [decide_eq_false hz0] at er
      have H1 : Hid (fulE s r = 4) := Lib.hid (by unfold fulE; rw [if_pos h0, if_neg hz0])
      have H2 : Hid (fulT s r = ⟨#[]⟩) := Lib.hid (by unfold fulT; rw [if_pos h0, if_neg hz0])
      generalize nmP s = pn at cp
      generalize hsP s = ph at cp
      generalize rsP s = pr at cp er
      clear h0 hz0
      simp only [adV] at *
      go_enter Tryd.func13, Tryd.ntmps13
      go_wp2_with fail
      refine (cp.out _).mono ?_; rintro e w1 ⟨rfl, hb1⟩
      have B1 : Below w.heap.size w w1 := by (repeat (first | (with_reducible exact Below.refl _ _) | ((with_reducible refine below_alloc ?_ ?_ _); · (first | omega | (simp; done) | (simp; omega))) | ((with_reducible refine below_setCell ?_ ?_ _); · (first | omega | (simp; done) | (simp; omega))) | (with_reducible refine Below.drew ?_) | (with_reducible refine below_drewN ?_ _) | ((with_reducible refine below_call (by assumption) ?_ ?_); · (first | omega | (simp; done) | (simp; omega)))))
      have hz := B1.size
      go_wp2
      go_ret2
      exact ⟨by rw [H1.out, H2.out]; rfl, by (repeat (first | (with_reducible exact Below.refl _ _) | ((with_reducible refine below_alloc ?_ ?_ _); · (first | omega | (simp; done) | (simp; omega))) | ((with_reducible refine below_setCell ?_ ?_ _); · (first | omega | (simp; done) | (simp; omega))) | (with_reducible refine Below.drew ?_) | (with_reducible refine below_drewN ?_ _) | ((with_reducible refine below_call (by assumption) ?_ ?_); · (first | omega | (simp; done) | (simp; omega)))))⟩
  · have H1 : Hid (fulE s r = parE s) := Lib.hid (if_neg h0)
    have H2 : Hid (fulT s r = ⟨#[]⟩) := Lib.hid (if_neg h0)
    unfold parV at cp
    generalize parE s = E at cp h0 H1
    have e0 : (E != 0) = true := by simp [h0]
    simp only [adV] at *
    go_enter Tryd.func13, Tryd.ntmps13
    go_wp2_with fail
    refine (cp.out _).mono ?_; rintro e w1 ⟨rfl, hb1⟩
    have B1 : Below w.heap.size w w1 := by (repeat (first | (with_reducible exact Below.refl _ _) | ((with_reducible refine below_alloc ?_ ?_ _); · (first | omega | (simp; done) | (simp; omega))) | ((with_reducible refine below_setCell ?_ ?_ _); · (first | omega | (simp; done) | (simp; omega))) | (with_reducible refine Below.drew ?_) | (with_reducible refine below_drewN ?_ _) | ((with_reducible refine below_call (by assumption) ?_ ?_); · (first | omega | (simp; done) | (simp; omega)))))
    have hz := B1.size
    go_wp2
    go_ret2
    exact ⟨by rw [H1.out, H2.out]; rfl, by (repeat (first | (with_reducible exact Below.refl _ _) | ((with_reducible refine below_alloc ?_ ?_ _); · (first | omega | (simp; done) | (simp; omega))) | ((with_reducible refine below_setCell ?_ ?_ _); · (first | omega | (simp; done) | (simp; omega))) | (with_reducible refine Below.drew ?_) | (with_reducible refine below_drewN ?_ _) | ((with_reducible refine below_call (by assumption) ?_ ?_); · (first | omega | (simp; done) | (simp; omega)))))⟩
end Go.Proofs.YtngaklciclbofaaDoor
