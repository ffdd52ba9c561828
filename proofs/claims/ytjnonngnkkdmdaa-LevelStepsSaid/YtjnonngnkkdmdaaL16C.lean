/- Layer 16, the document's: what is allowed at a level, and its name. -/
import Derived.Test.YtjnonngnkkdmdaaL16B
namespace Go.Proofs.Ytjnonngnkkdmdaa
open Go.RowKit
set_option linter.unusedVariables false
set_option linter.unusedSimpArgs false

/-- is something allowed at a level? -/
def allL (l x : Int) : Bool := if inL l 0 3 = false then false else if x = 0 then decide (l < 3) else if x = 2 then decide (l < 3) else if x = 1 then decide (l < 2) else if x = 3 then true else false
/-- a level's name -/
def namL (l : Int) : ByteArray := if l = 0 then ⟨#[99, 97, 108, 109]⟩ else if l = 1 then ⟨#[98, 117, 115, 121]⟩ else if l = 2 then ⟨#[116, 105, 103, 104, 116]⟩ else if l = 3 then ⟨#[115, 104, 117, 116]⟩ else ⟨#[]⟩
set_option maxHeartbeats 1000000 in
theorem lallows_any (l x : Int) (w : World) : Calls Try.prog 22 #[.int .i64 l, .int .i64 x] w fun e w' => e = .returned (.bool (allL l x)) ∧ Below w.heap.size w w' := by
  have c0 := Lib.hid (fun W => lin_any l 0 3 W)
  have HE : Hid (allL l x = if inL l 0 3 = false then false else if x = 0 then decide (l < 3) else if x = 2 then decide (l < 3) else if x = 1 then decide (l < 2) else if x = 3 then true else false) := Lib.hid rfl
  generalize inL l 0 3 = b at c0 HE
  cases b with
  | false =>
    have HV := Lib.hid (HE.out.trans (if_pos rfl))
    clear HE
    go_enter Try.func22, Try.ntmps22
    go_wp2_with fail
    refine (c0.out _).mono ?_; rintro e w1 ⟨rfl, rfl⟩
    go_wp2
    go_ret
    exact ⟨ret_bool HV.out.symm, by (repeat (first | (with_reducible exact Below.refl _ _) | ((with_reducible refine below_alloc ?_ ?_ _); · (first | omega | (simp; done) | (simp; omega))) | ((with_reducible refine below_setCell ?_ ?_ _); · (first | omega | (simp; done) | (simp; omega))) | (with_reducible refine Below.drew ?_) | (with_reducible refine below_drewN ?_ _) | ((with_reducible refine below_call (by assumption) ?_ ?_); · (first | omega | (simp; done) | (simp; omega)))))⟩
  | true =>
    have HV := Lib.hid (HE.out.trans (if_neg (by decide)))
    clear HE
    generalize hd3 : decide (l < 3) = d3 at HV
    generalize hd2 : decide (l < 2) = d2 at HV
    by_cases h0 : x = 0
    · have HU := Lib.hid (HV.out.trans (if_pos h0))
      subst h0
      go_enter Try.func22, Try.ntmps22
      go_wp2_with fail
      refine (c0.out _).mono ?_; rintro e w1 ⟨rfl, rfl⟩
      go_wp2
      go_ret
      exact ⟨ret_bool HU.out.symm, by (repeat (first | (with_reducible exact Below.refl _ _) | ((with_reducible refine below_alloc ?_ ?_ _); · (first | omega | (simp; done) | (simp; omega))) | ((with_reducible refine below_setCell ?_ ?_ _); · (first | omega | (simp; done) | (simp; omega))) | (with_reducible refine Below.drew ?_) | (with_reducible refine below_drewN ?_ _) | ((with_reducible refine below_call (by assumption) ?_ ?_); · (first | omega | (simp; done) | (simp; omega)))))⟩
    by_cases h2 : x = 2
    · have HU := Lib.hid (HV.out.trans ((if_neg h0).trans (if_pos h2)))
      subst h2
      go_enter Try.func22, Try.ntmps22
      go_wp2_with fail
      refine (c0.out _).mono ?_; rintro e w1 ⟨rfl, rfl⟩
      go_wp2
      go_ret
      exact ⟨ret_bool HU.out.symm, by (repeat (first | (with_reducible exact Below.refl _ _) | ((with_reducible refine below_alloc ?_ ?_ _); · (first | omega | (simp; done) | (simp; omega))) | ((with_reducible refine below_setCell ?_ ?_ _); · (first | omega | (simp; done) | (simp; omega))) | (with_reducible refine Below.drew ?_) | (with_reducible refine below_drewN ?_ _) | ((with_reducible refine below_call (by assumption) ?_ ?_); · (first | omega | (simp; done) | (simp; omega)))))⟩
    by_cases h1 : x = 1
    · have HU := Lib.hid (HV.out.trans ((if_neg h0).trans ((if_neg h2).trans (if_pos h1))))
      subst h1
      go_enter Try.func22, Try.ntmps22
      go_wp2_with fail
      refine (c0.out _).mono ?_; rintro e w1 ⟨rfl, rfl⟩
      go_wp2
      go_ret
      exact ⟨ret_bool HU.out.symm, by (repeat (first | (with_reducible exact Below.refl _ _) | ((with_reducible refine below_alloc ?_ ?_ _); · (first | omega | (simp; done) | (simp; omega))) | ((with_reducible refine below_setCell ?_ ?_ _); · (first | omega | (simp; done) | (simp; omega))) | (with_reducible refine Below.drew ?_) | (with_reducible refine below_drewN ?_ _) | ((with_reducible refine below_call (by assumption) ?_ ?_); · (first | omega | (simp; done) | (simp; omega)))))⟩
    by_cases h3 : x = 3
    · have HU := Lib.hid (HV.out.trans ((if_neg h0).trans ((if_neg h2).trans ((if_neg h1).trans (if_pos h3)))))
      subst h3
      go_enter Try.func22, Try.ntmps22
      go_wp2_with fail
      refine (c0.out _).mono ?_; rintro e w1 ⟨rfl, rfl⟩
      go_wp2
      go_ret
      exact ⟨ret_bool HU.out.symm, by (repeat (first | (with_reducible exact Below.refl _ _) | ((with_reducible refine below_alloc ?_ ?_ _); · (first | omega | (simp; done) | (simp; omega))) | ((with_reducible refine below_setCell ?_ ?_ _); · (first | omega | (simp; done) | (simp; omega))) | (with_reducible refine Below.drew ?_) | (with_reducible refine below_drewN ?_ _) | ((with_reducible refine below_call (by assumption) ?_ ?_); · (first | omega | (simp; done) | (simp; omega)))))⟩
    have HU := Lib.hid (HV.out.trans ((if_neg h0).trans ((if_neg h2).trans ((if_neg h1).trans (if_neg h3)))))
    have e0 : (x == 0) = false := by simp; omega
    have e1 : (x == 1) = false := by simp; omega
    have e2 : (x == 2) = false := by simp; omega
    have e3 : (x == 3) = false := by simp; omega
    clear h0 h1 h2 h3
    go_enter Try.func22, Try.ntmps22
    go_wp2_with fail
    refine (c0.out _).mono ?_; rintro e w1 ⟨rfl, rfl⟩
    go_wp2
    go_ret
    exact ⟨ret_bool HU.out.symm, by (repeat (first | (with_reducible exact Below.refl _ _) | ((with_reducible refine below_alloc ?_ ?_ _); · (first | omega | (simp; done) | (simp; omega))) | ((with_reducible refine below_setCell ?_ ?_ _); · (first | omega | (simp; done) | (simp; omega))) | (with_reducible refine Below.drew ?_) | (with_reducible refine below_drewN ?_ _) | ((with_reducible refine below_call (by assumption) ?_ ?_); · (first | omega | (simp; done) | (simp; omega)))))⟩
set_option maxHeartbeats 1000000 in
theorem lname_any (l : Int) (w : World) : Calls Try.prog 24 #[.int .i64 l] w fun e w' => e = .returned (.string (namL l)) ∧ Below w.heap.size w w' := by
  by_cases h0 : l = 0
  · subst h0
    go_enter Try.func24, Try.ntmps24
    go_wp2
    go_ret
    exact ⟨rfl, by (repeat (first | (with_reducible exact Below.refl _ _) | ((with_reducible refine below_alloc ?_ ?_ _); · (first | omega | (simp; done) | (simp; omega))) | ((with_reducible refine below_setCell ?_ ?_ _); · (first | omega | (simp; done) | (simp; omega))) | (with_reducible refine Below.drew ?_) | (with_reducible refine below_drewN ?_ _) | ((with_reducible refine below_call (by assumption) ?_ ?_); · (first | omega | (simp; done) | (simp; omega)))))⟩
  by_cases h1 : l = 1
  · subst h1
    go_enter Try.func24, Try.ntmps24
    go_wp2
    go_ret
    exact ⟨rfl, by (repeat (first | (with_reducible exact Below.refl _ _) | ((with_reducible refine below_alloc ?_ ?_ _); · (first | omega | (simp; done) | (simp; omega))) | ((with_reducible refine below_setCell ?_ ?_ _); · (first | omega | (simp; done) | (simp; omega))) | (with_reducible refine Below.drew ?_) | (with_reducible refine below_drewN ?_ _) | ((with_reducible refine below_call (by assumption) ?_ ?_); · (first | omega | (simp; done) | (simp; omega)))))⟩
  by_cases h2 : l = 2
  · subst h2
    go_enter Try.func24, Try.ntmps24
    go_wp2
    go_ret
    exact ⟨rfl, by (repeat (first | (with_reducible exact Below.refl _ _) | ((with_reducible refine below_alloc ?_ ?_ _); · (first | omega | (simp; done) | (simp; omega))) | ((with_reducible refine below_setCell ?_ ?_ _); · (first | omega | (simp; done) | (simp; omega))) | (with_reducible refine Below.drew ?_) | (with_reducible refine below_drewN ?_ _) | ((with_reducible refine below_call (by assumption) ?_ ?_); · (first | omega | (simp; done) | (simp; omega)))))⟩
  by_cases h3 : l = 3
  · subst h3
    go_enter Try.func24, Try.ntmps24
    go_wp2
    go_ret
    exact ⟨rfl, by (repeat (first | (with_reducible exact Below.refl _ _) | ((with_reducible refine below_alloc ?_ ?_ _); · (first | omega | (simp; done) | (simp; omega))) | ((with_reducible refine below_setCell ?_ ?_ _); · (first | omega | (simp; done) | (simp; omega))) | (with_reducible refine Below.drew ?_) | (with_reducible refine below_drewN ?_ _) | ((with_reducible refine below_call (by assumption) ?_ ?_); · (first | omega | (simp; done) | (simp; omega)))))⟩
  have HU : Hid (namL l = ⟨#[]⟩) := Lib.hid ((if_neg h0).trans ((if_neg h1).trans ((if_neg h2).trans (if_neg h3))))
  have e0 : (l == 0) = false := by simp; omega
  have e1 : (l == 1) = false := by simp; omega
  have e2 : (l == 2) = false := by simp; omega
  have e3 : (l == 3) = false := by simp; omega
  clear h0 h1 h2 h3
  go_enter Try.func24, Try.ntmps24
  go_wp2
  go_ret
  exact ⟨by rw [HU.out]; rfl, by (repeat (first | (with_reducible exact Below.refl _ _) | ((with_reducible refine below_alloc ?_ ?_ _); · (first | omega | (simp; done) | (simp; omega))) | ((with_reducible refine below_setCell ?_ ?_ _); · (first | omega | (simp; done) | (simp; omega))) | (with_reducible refine Below.drew ?_) | (with_reducible refine below_drewN ?_ _) | ((with_reducible refine below_call (by assumption) ?_ ?_); · (first | omega | (simp; done) | (simp; omega)))))⟩
end Go.Proofs.Ytjnonngnkkdmdaa
