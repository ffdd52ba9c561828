/- Layer 10, the program's: what a kind has, and how a letter's field is told. -/
import Derived.Test.YtackinamkibmlaaDoorS10E
import Derived.Test.YtackinamkibmlaaDoorShelf
import Derived.Laws.RangeString
import Derived.Lib.OthersKept
import Derived.Laws.AppendOwn
import Derived.Deep.LoopGhost
import Derived.Test.YtackinamkibmlaaDoorA9HS
namespace Go.Proofs.YtackinamkibmlaaDoor
open Go.RowKit
set_option linter.unusedVariables false
set_option linter.unusedSimpArgs false

set_option maxRecDepth 1000000 in
set_option maxHeartbeats 4000000 in
theorem shas_z (z : Int) (w : World) (h0 : 0 ≤ z) : Calls Tryd.prog 42 #[.int .u8 z] w fun e w' => e = .returned (.string (hasT z.toNat)) ∧ Below w.heap.size w w' := by
  by_cases e1 : z = 1
  · subst e1
    have HN : hasT (1 : Int).toNat = _ := show hasT 1 = hasT 1 from rfl
    go_enter Tryd.func42, Tryd.ntmps42
    go_wp2
    go_ret
    exact ⟨congrArg (fun b => Ending.returned (.string b)) (by decide +kernel), by (repeat (first | (with_reducible exact Below.refl _ _) | ((with_reducible refine below_alloc ?_ ?_ _); · (first | omega | (simp; done) | (simp; omega))) | ((with_reducible refine below_setCell ?_ ?_ _); · (first | omega | (simp; done) | (simp; omega))) | (with_reducible refine Below.drew ?_) | (with_reducible refine below_drewN ?_ _) | ((with_reducible refine below_call (by assumption) ?_ ?_); · (first | omega | (simp; done) | (simp; omega)))))⟩
  by_cases e3 : z = 3
  · subst e3
    have HN : hasT (3 : Int).toNat = _ := show hasT 3 = hasT 3 from rfl
    go_enter Tryd.func42, Tryd.ntmps42
    go_wp2
    go_ret
    exact ⟨congrArg (fun b => Ending.returned (.string b)) (by decide +kernel), by (repeat (first | (with_reducible exact Below.refl _ _) | ((with_reducible refine below_alloc ?_ ?_ _); · (first | omega | (simp; done) | (simp; omega))) | ((with_reducible refine below_setCell ?_ ?_ _); · (first | omega | (simp; done) | (simp; omega))) | (with_reducible refine Below.drew ?_) | (with_reducible refine below_drewN ?_ _) | ((with_reducible refine below_call (by assumption) ?_ ?_); · (first | omega | (simp; done) | (simp; omega)))))⟩
  by_cases e5 : z = 5
  · subst e5
    have HN : hasT (5 : Int).toNat = _ := show hasT 5 = hasT 5 from rfl
    go_enter Tryd.func42, Tryd.ntmps42
    go_wp2
    go_ret
    exact ⟨congrArg (fun b => Ending.returned (.string b)) (by decide +kernel), by (repeat (first | (with_reducible exact Below.refl _ _) | ((with_reducible refine below_alloc ?_ ?_ _); · (first | omega | (simp; done) | (simp; omega))) | ((with_reducible refine below_setCell ?_ ?_ _); · (first | omega | (simp; done) | (simp; omega))) | (with_reducible refine Below.drew ?_) | (with_reducible refine below_drewN ?_ _) | ((with_reducible refine below_call (by assumption) ?_ ?_); · (first | omega | (simp; done) | (simp; omega)))))⟩
  by_cases e6 : z = 6
  · subst e6
    have HN : hasT (6 : Int).toNat = _ := show hasT 6 = hasT 6 from rfl
    go_enter Tryd.func42, Tryd.ntmps42
    go_wp2
    go_ret
    exact ⟨congrArg (fun b => Ending.returned (.string b)) (by decide +kernel), by (repeat (first | (with_reducible exact Below.refl _ _) | ((with_reducible refine below_alloc ?_ ?_ _); · (first | omega | (simp; done) | (simp; omega))) | ((with_reducible refine below_setCell ?_ ?_ _); · (first | omega | (simp; done) | (simp; omega))) | (with_reducible refine Below.drew ?_) | (with_reducible refine below_drewN ?_ _) | ((with_reducible refine below_call (by assumption) ?_ ?_); · (first | omega | (simp; done) | (simp; omega)))))⟩
  by_cases e7 : z = 7
  · subst e7
    have HN : hasT (7 : Int).toNat = _ := show hasT 7 = hasT 7 from rfl
    go_enter Tryd.func42, Tryd.ntmps42
    go_wp2
    go_ret
    exact ⟨congrArg (fun b => Ending.returned (.string b)) (by decide +kernel), by (repeat (first | (with_reducible exact Below.refl _ _) | ((with_reducible refine below_alloc ?_ ?_ _); · (first | omega | (simp; done) | (simp; omega))) | ((with_reducible refine below_setCell ?_ ?_ _); · (first | omega | (simp; done) | (simp; omega))) | (with_reducible refine Below.drew ?_) | (with_reducible refine below_drewN ?_ _) | ((with_reducible refine below_call (by assumption) ?_ ?_); · (first | omega | (simp; done) | (simp; omega)))))⟩
  by_cases e8 : z = 8
  · subst e8
    have HN : hasT (8 : Int).toNat = _ := show hasT 8 = hasT 8 from rfl
    go_enter Tryd.func42, Tryd.ntmps42
    go_wp2
    go_ret
    exact ⟨congrArg (fun b => Ending.returned (.string b)) (by decide +kernel), by (repeat (first | (with_reducible exact Below.refl _ _) | ((with_reducible refine below_alloc ?_ ?_ _); · (first | omega | (simp; done) | (simp; omega))) | ((with_reducible refine below_setCell ?_ ?_ _); · (first | omega | (simp; done) | (simp; omega))) | (with_reducible refine Below.drew ?_) | (with_reducible refine below_drewN ?_ _) | ((with_reducible refine below_call (by assumption) ?_ ?_); · (first | omega | (simp; done) | (simp; omega)))))⟩
  by_cases e9 : z = 9
  · subst e9
    have HN : hasT (9 : Int).toNat = _ := show hasT 9 = hasT 9 from rfl
    go_enter Tryd.func42, Tryd.ntmps42
    go_wp2
    go_ret
    exact ⟨congrArg (fun b => Ending.returned (.string b)) (by decide +kernel), by (repeat (first | (with_reducible exact Below.refl _ _) | ((with_reducible refine below_alloc ?_ ?_ _); · (first | omega | (simp; done) | (simp; omega))) | ((with_reducible refine below_setCell ?_ ?_ _); · (first | omega | (simp; done) | (simp; omega))) | (with_reducible refine Below.drew ?_) | (with_reducible refine below_drewN ?_ _) | ((with_reducible refine below_call (by assumption) ?_ ?_); · (first | omega | (simp; done) | (simp; omega)))))⟩
  by_cases e10 : z = 10
  · subst e10
    have HN : hasT (10 : Int).toNat = _ := show hasT 10 = hasT 10 from rfl
    go_enter Tryd.func42, Tryd.ntmps42
    go_wp2
    go_ret
    exact ⟨congrArg (fun b => Ending.returned (.string b)) (by decide +kernel), by (repeat (first | (with_reducible exact Below.refl _ _) | ((with_reducible refine below_alloc ?_ ?_ _); · (first | omega | (simp; done) | (simp; omega))) | ((with_reducible refine below_setCell ?_ ?_ _); · (first | omega | (simp; done) | (simp; omega))) | (with_reducible refine Below.drew ?_) | (with_reducible refine below_drewN ?_ _) | ((with_reducible refine below_call (by assumption) ?_ ?_); · (first | omega | (simp; done) | (simp; omega)))))⟩
  by_cases e11 : z = 11
  · subst e11
    have HN : hasT (11 : Int).toNat = _ := show hasT 11 = hasT 11 from rfl
    go_enter Tryd.func42, Tryd.ntmps42
    go_wp2
    go_ret
    exact ⟨congrArg (fun b => Ending.returned (.string b)) (by decide +kernel), by (repeat (first | (with_reducible exact Below.refl _ _) | ((with_reducible refine below_alloc ?_ ?_ _); · (first | omega | (simp; done) | (simp; omega))) | ((with_reducible refine below_setCell ?_ ?_ _); · (first | omega | (simp; done) | (simp; omega))) | (with_reducible refine Below.drew ?_) | (with_reducible refine below_drewN ?_ _) | ((with_reducible refine below_call (by assumption) ?_ ?_); · (first | omega | (simp; done) | (simp; omega)))))⟩
  by_cases e14 : z = 14
  · subst e14
    have HN : hasT (14 : Int).toNat = _ := show hasT 14 = hasT 14 from rfl
    go_enter Tryd.func42, Tryd.ntmps42
    go_wp2
    go_ret
    exact ⟨congrArg (fun b => Ending.returned (.string b)) (by decide +kernel), by (repeat (first | (with_reducible exact Below.refl _ _) | ((with_reducible refine below_alloc ?_ ?_ _); · (first | omega | (simp; done) | (simp; omega))) | ((with_reducible refine below_setCell ?_ ?_ _); · (first | omega | (simp; done) | (simp; omega))) | (with_reducible refine Below.drew ?_) | (with_reducible refine below_drewN ?_ _) | ((with_reducible refine below_call (by assumption) ?_ ?_); · (first | omega | (simp; done) | (simp; omega)))))⟩
  by_cases e12 : z = 12
  · subst e12
    have HN : hasT (12 : Int).toNat = _ := show hasT 12 = hasT 12 from rfl
    go_enter Tryd.func42, Tryd.ntmps42
    go_wp2
    go_ret
    exact ⟨congrArg (fun b => Ending.returned (.string b)) (by decide +kernel), by (repeat (first | (with_reducible exact Below.refl _ _) | ((with_reducible refine below_alloc ?_ ?_ _); · (first | omega | (simp; done) | (simp; omega))) | ((with_reducible refine below_setCell ?_ ?_ _); · (first | omega | (simp; done) | (simp; omega))) | (with_reducible refine Below.drew ?_) | (with_reducible refine below_drewN ?_ _) | ((with_reducible refine below_call (by assumption) ?_ ?_); · (first | omega | (simp; done) | (simp; omega)))))⟩
  by_cases e15 : z = 15
  · subst e15
    have HN : hasT (15 : Int).toNat = _ := show hasT 15 = hasT 15 from rfl
    go_enter Tryd.func42, Tryd.ntmps42
    go_wp2
    go_ret
    exact ⟨congrArg (fun b => Ending.returned (.string b)) (by decide +kernel), by (repeat (first | (with_reducible exact Below.refl _ _) | ((with_reducible refine below_alloc ?_ ?_ _); · (first | omega | (simp; done) | (simp; omega))) | ((with_reducible refine below_setCell ?_ ?_ _); · (first | omega | (simp; done) | (simp; omega))) | (with_reducible refine Below.drew ?_) | (with_reducible refine below_drewN ?_ _) | ((with_reducible refine below_call (by assumption) ?_ ?_); · (first | omega | (simp; done) | (simp; omega)))))⟩
  by_cases e36 : z = 36
  · subst e36
    have HN : hasT (36 : Int).toNat = _ := show hasT 36 = hasT 36 from rfl
    go_enter Tryd.func42, Tryd.ntmps42
    go_wp2
    go_ret
    exact ⟨congrArg (fun b => Ending.returned (.string b)) (by decide +kernel), by (repeat (first | (with_reducible exact Below.refl _ _) | ((with_reducible refine below_alloc ?_ ?_ _); · (first | omega | (simp; done) | (simp; omega))) | ((with_reducible refine below_setCell ?_ ?_ _); · (first | omega | (simp; done) | (simp; omega))) | (with_reducible refine Below.drew ?_) | (with_reducible refine below_drewN ?_ _) | ((with_reducible refine below_call (by assumption) ?_ ?_); · (first | omega | (simp; done) | (simp; omega)))))⟩
  by_cases e41 : z = 41
  · subst e41
    have HN : hasT (41 : Int).toNat = _ := show hasT 41 = hasT 41 from rfl
    go_enter Tryd.func42, Tryd.ntmps42
    go_wp2
    go_ret
    exact ⟨congrArg (fun b => Ending.returned (.string b)) (by decide +kernel), by (repeat (first | (with_reducible exact Below.refl _ _) | ((with_reducible refine below_alloc ?_ ?_ _); · (first | omega | (simp; done) | (simp; omega))) | ((with_reducible refine below_setCell ?_ ?_ _); · (first | omega | (simp; done) | (simp; omega))) | (with_reducible refine Below.drew ?_) | (with_reducible refine below_drewN ?_ _) | ((with_reducible refine below_call (by assumption) ?_ ?_); · (first | omega | (simp; done) | (simp; omega)))))⟩
  by_cases e13 : z = 13
  · subst e13
    have HN : hasT (13 : Int).toNat = _ := show hasT 13 = hasT 13 from rfl
    go_enter Tryd.func42, Tryd.ntmps42
    go_wp2
    go_ret
    exact ⟨congrArg (fun b => Ending.returned (.string b)) (by decide +kernel), by (repeat (first | (with_reducible exact Below.refl _ _) | ((with_reducible refine below_alloc ?_ ?_ _); · (first | omega | (simp; done) | (simp; omega))) | ((with_reducible refine below_setCell ?_ ?_ _); · (first | omega | (simp; done) | (simp; omega))) | (with_reducible refine Below.drew ?_) | (with_reducible refine below_drewN ?_ _) | ((with_reducible refine below_call (by assumption) ?_ ?_); · (first | omega | (simp; done) | (simp; omega)))))⟩
  by_cases e32 : z = 32
  · subst e32
    have HN : hasT (32 : Int).toNat = _ := show hasT 32 = hasT 32 from rfl
    go_enter Tryd.func42, Tryd.ntmps42
    go_wp2
    go_ret
    exact ⟨congrArg (fun b => Ending.returned (.string b)) (by decide +kernel), by (repeat (first | (with_reducible exact Below.refl _ _) | ((with_reducible refine below_alloc ?_ ?_ _); · (first | omega | (simp; done) | (simp; omega))) | ((with_reducible refine below_setCell ?_ ?_ _); · (first | omega | (simp; done) | (simp; omega))) | (with_reducible refine Below.drew ?_) | (with_reducible refine below_drewN ?_ _) | ((with_reducible refine below_call (by assumption) ?_ ?_); · (first | omega | (simp; done) | (simp; omega)))))⟩
  by_cases e33 : z = 33
  · subst e33
    have HN : hasT (33 : Int).toNat = _ := show hasT 33 = hasT 33 from rfl
    go_enter Tryd.func42, Tryd.ntmps42
    go_wp2
    go_ret
    exact ⟨congrArg (fun b => Ending.returned (.string b)) (by decide +kernel), by (repeat (first | (with_reducible exact Below.refl _ _) | ((with_reducible refine below_alloc ?_ ?_ _); · (first | omega | (simp; done) | (simp; omega))) | ((with_reducible refine below_setCell ?_ ?_ _); · (first | omega | (simp; done) | (simp; omega))) | (with_reducible refine Below.drew ?_) | (with_reducible refine below_drewN ?_ _) | ((with_reducible refine below_call (by assumption) ?_ ?_); · (first | omega | (simp; done) | (simp; omega)))))⟩
  by_cases e34 : z = 34
  · subst e34
    have HN : hasT (34 : Int).toNat = _ := show hasT 34 = hasT 34 from rfl
    go_enter Tryd.func42, Tryd.ntmps42
    go_wp2
    go_ret
    exact ⟨congrArg (fun b => Ending.returned (.string b)) (by decide +kernel), by (repeat (first | (with_reducible exact Below.refl _ _) | ((with_reducible refine below_alloc ?_ ?_ _); · (first | omega | (simp; done) | (simp; omega))) | ((with_reducible refine below_setCell ?_ ?_ _); · (first | omega | (simp; done) | (simp; omega))) | (with_reducible refine Below.drew ?_) | (with_reducible refine below_drewN ?_ _) | ((with_reducible refine below_call (by assumption) ?_ ?_); · (first | omega | (simp; done) | (simp; omega)))))⟩
  by_cases e35 : z = 35
  · subst e35
    have HN : hasT (35 : Int).toNat = _ := show hasT 35 = hasT 35 from rfl
    go_enter Tryd.func42, Tryd.ntmps42
    go_wp2
    go_ret
    exact ⟨congrArg (fun b => Ending.returned (.string b)) (by decide +kernel), by (repeat (first | (with_reducible exact Below.refl _ _) | ((with_reducible refine below_alloc ?_ ?_ _); · (first | omega | (simp; done) | (simp; omega))) | ((with_reducible refine below_setCell ?_ ?_ _); · (first | omega | (simp; done) | (simp; omega))) | (with_reducible refine Below.drew ?_) | (with_reducible refine below_drewN ?_ _) | ((with_reducible refine below_call (by assumption) ?_ ?_); · (first | omega | (simp; done) | (simp; omega)))))⟩
  by_cases e38 : z = 38
  · subst e38
    have HN : hasT (38 : Int).toNat = _ := show hasT 38 = hasT 38 from rfl
    go_enter Tryd.func42, Tryd.ntmps42
    go_wp2
    go_ret
    exact ⟨congrArg (fun b => Ending.returned (.string b)) (by decide +kernel), by (repeat (first | (with_reducible exact Below.refl _ _) | ((with_reducible refine below_alloc ?_ ?_ _); · (first | omega | (simp; done) | (simp; omega))) | ((with_reducible refine below_setCell ?_ ?_ _); · (first | omega | (simp; done) | (simp; omega))) | (with_reducible refine Below.drew ?_) | (with_reducible refine below_drewN ?_ _) | ((with_reducible refine below_call (by assumption) ?_ ?_); · (first | omega | (simp; done) | (simp; omega)))))⟩
  by_cases e39 : z = 39
  · subst e39
    have HN : hasT (39 : Int).toNat = _ := show hasT 39 = hasT 39 from rfl
    go_enter Tryd.func42, Tryd.ntmps42
    go_wp2
    go_ret
    exact ⟨congrArg (fun b => Ending.returned (.string b)) (by decide +kernel), by (repeat (first | (with_reducible exact Below.refl _ _) | ((with_reducible refine below_alloc ?_ ?_ _); · (first | omega | (simp; done) | (simp; omega))) | ((with_reducible refine below_setCell ?_ ?_ _); · (first | omega | (simp; done) | (simp; omega))) | (with_reducible refine Below.drew ?_) | (with_reducible refine below_drewN ?_ _) | ((with_reducible refine below_call (by assumption) ?_ ?_); · (first | omega | (simp; done) | (simp; omega)))))⟩
  by_cases e40 : z = 40
  · subst e40
    have HN : hasT (40 : Int).toNat = _ := show hasT 40 = hasT 40 from rfl
    go_enter Tryd.func42, Tryd.ntmps42
    go_wp2
    go_ret
    exact ⟨congrArg (fun b => Ending.returned (.string b)) (by decide +kernel), by (repeat (first | (with_reducible exact Below.refl _ _) | ((with_reducible refine below_alloc ?_ ?_ _); · (first | omega | (simp; done) | (simp; omega))) | ((with_reducible refine below_setCell ?_ ?_ _); · (first | omega | (simp; done) | (simp; omega))) | (with_reducible refine Below.drew ?_) | (with_reducible refine below_drewN ?_ _) | ((with_reducible refine below_call (by assumption) ?_ ?_); · (first | omega | (simp; done) | (simp; omega)))))⟩
  have b1 : (z == 1) = false := by simp [e1]
  have b3 : (z == 3) = false := by simp [e3]
  have b5 : (z == 5) = false := by simp [e5]
  have b6 : (z == 6) = false := by simp [e6]
  have b7 : (z == 7) = false := by simp [e7]
  have b8 : (z == 8) = false := by simp [e8]
  have b9 : (z == 9) = false := by simp [e9]
  have b10 : (z == 10) = false := by simp [e10]
  have b11 : (z == 11) = false := by simp [e11]
  have b14 : (z == 14) = false := by simp [e14]
  have b12 : (z == 12) = false := by simp [e12]
  have b15 : (z == 15) = false := by simp [e15]
  have b36 : (z == 36) = false := by simp [e36]
  have b41 : (z == 41) = false := by simp [e41]
  have b13 : (z == 13) = false := by simp [e13]
  have b32 : (z == 32) = false := by simp [e32]
  have b33 : (z == 33) = false := by simp [e33]
  have b34 : (z == 34) = false := by simp [e34]
  have b35 : (z == 35) = false := by simp [e35]
  have b38 : (z == 38) = false := by simp [e38]
  have b39 : (z == 39) = false := by simp [e39]
  have b40 : (z == 40) = false := by simp [e40]
  have HN : Hid (hasT z.toNat = ⟨#[]⟩) := Lib.hid (by
    unfold hasT hasO hasL
    rw [if_neg (by omega), if_neg (by omega), if_neg (by omega), if_neg (by omega), if_neg (by omega), if_neg (by omega), if_neg (by omega), if_neg (by omega), if_neg (by omega), if_neg (by omega), if_neg (by omega), if_neg (by omega), if_neg (by omega), if_neg (by omega)]
    rfl)
  clear h0 e1 e3 e5 e6 e7 e8 e9 e10 e11 e14 e12 e15 e36 e41 e13 e32 e33 e34 e35 e38 e39 e40
  go_enter Tryd.func42, Tryd.ntmps42
  go_wp2
  go_ret
  exact ⟨congrArg (fun b => Ending.returned (.string b)) HN.out.symm, by (repeat (first | (with_reducible exact Below.refl _ _) | ((with_reducible refine below_alloc ?_ ?_ _); · (first | omega | (simp; done) | (simp; omega))) | ((with_reducible refine below_setCell ?_ ?_ _); · (first | omega | (simp; done) | (simp; omega))) | (with_reducible refine Below.drew ?_) | (with_reducible refine below_drewN ?_ _) | ((with_reducible refine below_call (by assumption) ?_ ?_); · (first | omega | (simp; done) | (simp; omega)))))⟩
theorem shas_any (k : UInt8) (w : World) : Calls Tryd.prog 42 #[.int .u8 (k.toNat : Int)] w fun e w' => e = .returned (.string (hasT k.toNat)) ∧ Below w.heap.size w w' := shas_z (k.toNat : Int) w (by omega)
theorem sasks_any (k : UInt8) (w : World) : Calls Tryd.prog 35 #[.int .u8 (k.toNat : Int)] w fun e w' => e = .returned (.bool (decide (1 ≤ k.toNat ∧ k.toNat ≤ 15))) ∧ Below w.heap.size w w' := by
  obtain ⟨z, hz⟩ : ∃ z : Int, (k.toNat : Int) = z := ⟨_, rfl⟩
  have HN : Hid (decide (1 ≤ k.toNat ∧ k.toNat ≤ 15) = (decide (1 ≤ z) && decide (z ≤ 15))) := Lib.hid (by rw [Bool.eq_iff_iff]; simp only [decide_eq_true_eq, Bool.and_eq_true]; omega)
  rw [hz]
  by_cases h1 : 1 ≤ z
  · go_enter Tryd.func35, Tryd.ntmps35
    go_wp2
    go_ret
    exact ⟨ret_bool (by rw [HN.out]; simp [h1]), by (repeat (first | (with_reducible exact Below.refl _ _) | ((with_reducible refine below_alloc ?_ ?_ _); · (first | omega | (simp; done) | (simp; omega))) | ((with_reducible refine below_setCell ?_ ?_ _); · (first | omega | (simp; done) | (simp; omega))) | (with_reducible refine Below.drew ?_) | (with_reducible refine below_drewN ?_ _) | ((with_reducible refine below_call (by assumption) ?_ ?_); · (first | omega | (simp; done) | (simp; omega)))))⟩
  · have h1' : z < 1 := by omega
    have h1b : decide (1 ≤ z) = false := decide_eq_false h1
    go_enter Tryd.func35, Tryd.ntmps35
    go_wp2
    go_ret
    exact ⟨ret_bool (by rw [Bool.eq_iff_iff]; simp; omega), by (repeat (first | (with_reducible exact Below.refl _ _) | ((with_reducible refine below_alloc ?_ ?_ _); · (first | omega | (simp; done) | (simp; omega))) | ((with_reducible refine below_setCell ?_ ?_ _); · (first | omega | (simp; done) | (simp; omega))) | (with_reducible refine Below.drew ?_) | (with_reducible refine below_drewN ?_ _) | ((with_reducible refine below_call (by assumption) ?_ ?_); · (first | omega | (simp; done) | (simp; omega)))))⟩
theorem skind_any (k : UInt8) (w : World) : Calls Tryd.prog 17 #[.int .u8 (k.toNat : Int)] w fun e w' => e = .returned (.bool (knownB k.toNat)) ∧ Below w.heap.size w w' := by
  have c := fun W => sasks_any k W
  obtain ⟨z, hz⟩ : ∃ z : Int, (k.toNat : Int) = z := ⟨_, rfl⟩
  have HN : Hid (knownB k.toNat = ((decide (1 ≤ z) && decide (z ≤ 15)) || (decide (32 ≤ z) && decide (z ≤ 41)))) := Lib.hid (by unfold knownB; rw [Bool.eq_iff_iff]; simp only [decide_eq_true_eq, Bool.and_eq_true, Bool.or_eq_true]; omega)
  have hd : decide (1 ≤ k.toNat ∧ k.toNat ≤ 15) = (decide (1 ≤ z) && decide (z ≤ 15)) := by rw [Bool.eq_iff_iff]; simp only [decide_eq_true_eq, Bool.and_eq_true]; omega
  rw [hz]
  rw [hz, hd] at c
  by_cases h1 : 1 ≤ z ∧ z ≤ 15
  · have e : (decide (1 ≤ z) && decide (z ≤ 15)) = true := by simp [h1.1, h1.2]
    rw [e] at c
    go_enter Tryd.func17, Tryd.ntmps17
    go_wp2_with fail
    refine (c _).mono ?_; rintro e w1 ⟨rfl, hb1⟩
    go_wp2
    go_ret
    exact ⟨ret_bool (by rw [HN.out, e]; rfl), by (repeat (first | (with_reducible exact Below.refl _ _) | ((with_reducible refine below_alloc ?_ ?_ _); · (first | omega | (simp; done) | (simp; omega))) | ((with_reducible refine below_setCell ?_ ?_ _); · (first | omega | (simp; done) | (simp; omega))) | (with_reducible refine Below.drew ?_) | (with_reducible refine below_drewN ?_ _) | ((with_reducible refine below_call (by assumption) ?_ ?_); · (first | omega | (simp; done) | (simp; omega)))))⟩
  · have e : (decide (1 ≤ z) && decide (z ≤ 15)) = false := by rw [Bool.eq_false_iff, ne_eq, Bool.and_eq_true, decide_eq_true_iff, decide_eq_true_iff]; exact h1
    rw [e] at c
    by_cases h2 : 32 ≤ z
    · go_enter Tryd.func17, Tryd.ntmps17
      go_wp2_with fail
      refine (c _).mono ?_; rintro e w1 ⟨rfl, hb1⟩
      go_wp2
      go_ret
      exact ⟨ret_bool (by rw [HN.out, e]; simp [h2]), by (repeat (first | (with_reducible exact Below.refl _ _) | ((with_reducible refine below_alloc ?_ ?_ _); · (first | omega | (simp; done) | (simp; omega))) | ((with_reducible refine below_setCell ?_ ?_ _); · (first | omega | (simp; done) | (simp; omega))) | (with_reducible refine Below.drew ?_) | (with_reducible refine below_drewN ?_ _) | ((with_reducible refine below_call (by assumption) ?_ ?_); · (first | omega | (simp; done) | (simp; omega)))))⟩
    · have h2' : z < 32 := by omega
      have h2b : decide (32 ≤ z) = false := decide_eq_false h2
      go_enter Tryd.func17, Tryd.ntmps17
      go_wp2_with fail
      refine (c _).mono ?_; rintro e w1 ⟨rfl, hb1⟩
      go_wp2
      go_ret
      exact ⟨ret_bool (by rw [HN.out, e]; simp; omega), by (repeat (first | (with_reducible exact Below.refl _ _) | ((with_reducible refine below_alloc ?_ ?_ _); · (first | omega | (simp; done) | (simp; omega))) | ((with_reducible refine below_setCell ?_ ?_ _); · (first | omega | (simp; done) | (simp; omega))) | (with_reducible refine Below.drew ?_) | (with_reducible refine below_drewN ?_ _) | ((with_reducible refine below_call (by assumption) ?_ ?_); · (first | omega | (simp; done) | (simp; omega)))))⟩
/-- a letter as a number -/
def Lt.num (c : Lt) : Int := (c.code.toNat : Int)
theorem has_look (k : Nat) (c : Lt) : decide (0 ≤ Lib.indexByte (hasT k).data.toList c.num.toNat.toUInt8) = hasC k c := by
  have e : ∀ l : List Lt, decide (0 ≤ Lib.indexByte (l.map Lt.code) c.code) = l.any (Lt.same c) := by
    intro l
    induction l with
    | nil => rfl
    | cons d l ih =>
      rw [List.map_cons, List.any_cons]
      unfold Lib.indexByte
      by_cases h : c = d
      · subst h
        have : Lt.same c c = true := Lt.same_iff.2 rfl
        simp [this]
      · have h1 : (d.code == c.code) = false := by
          rw [beq_eq_false_iff_ne]
          intro e
          apply h
          cases c <;> cases d <;> first | rfl | (revert e; decide)
        have h2 : Lt.same c d = false := by rw [Bool.eq_false_iff, ne_eq, Lt.same_iff]; exact h
        rw [h1, h2, Bool.false_or, ← ih]
        simp only [Bool.false_eq_true, if_false]
        by_cases hm : Lib.indexByte (l.map Lt.code) c.code = -1
        · rw [hm]; rfl
        · rw [if_neg (by simpa using hm)]
          have hge : ∀ l : List UInt8, -1 ≤ Lib.indexByte l c.code := by
            intro l
            induction l with
            | nil => exact Int.le_refl _
            | cons b l ih =>
              unfold Lib.indexByte
              split
              · decide
              · split
                · decide
                · omega
          have := hge (l.map Lt.code)
          rw [decide_eq_decide]
          omega
  have hn : c.num.toNat.toUInt8 = c.code := by cases c <;> rfl
  have hs : hasC k c = (hasO k).any (Lt.same c) := by
    unfold hasC hasO
    by_cases h : k = 33
    · subst h
      rw [if_pos rfl]
      cases c <;> rfl
    · rw [if_neg h]
  rw [hn, hs, ← e]
  rfl
theorem sh_any (k : UInt8) (c : Lt) (w : World) : Calls Tryd.prog 21 #[.int .u8 (k.toNat : Int), .int .i32 c.num] w fun e w' => e = .returned (.bool (hasC k.toNat c)) ∧ Below w.heap.size w w' := by
  have c1 := fun W => shas_any k W
  have c2 := fun W => Tryd.strings_ContainsRune_ascii (hasT k.toNat) c.num W (by cases c <;> decide) (by cases c <;> decide)
  rw [has_look] at c2
  obtain ⟨z, hz⟩ : ∃ z : Int, (k.toNat : Int) = z := ⟨_, rfl⟩
  obtain ⟨n, hn⟩ : ∃ n : Int, c.num = n := ⟨_, rfl⟩
  rw [hz] at c1 ⊢
  rw [hn] at c2 ⊢
  go_enter Tryd.func21, Tryd.ntmps21
  go_wp2_with fail
  refine (c1 _).mono ?_; rintro e w1 ⟨rfl, hb1⟩
  go_wp2_with fail
  refine (c2 _).mono ?_; rintro e w2 ⟨rfl, rfl⟩
  go_wp2
  go_ret
  exact ⟨rfl, by (repeat (first | (with_reducible exact Below.refl _ _) | ((with_reducible refine below_alloc ?_ ?_ _); · (first | omega | (simp; done) | (simp; omega))) | ((with_reducible refine below_setCell ?_ ?_ _); · (first | omega | (simp; done) | (simp; omega))) | (with_reducible refine Below.drew ?_) | (with_reducible refine below_drewN ?_ _) | ((with_reducible refine below_call (by assumption) ?_ ?_); · (first | omega | (simp; done) | (simp; omega)))))⟩
end Go.Proofs.YtackinamkibmlaaDoor
namespace Go.Proofs.YtackinamkibmlaaDoor
open Go.RowKit
set_option linter.unusedVariables false
set_option linter.unusedSimpArgs false

def Lt.isT : Lt → Bool
  | .lu => true
  | .lr => true
  | .lm => true
  | _ => false
def Lt.ix : Lt → Nat
  | .lu => 1
  | .lr => 2
  | .lm => 3
  | .ls => 4
  | .lp => 5
  | .lc => 6
  | .ln => 7
def Lt.least : Lt → Int
  | .lp => -128
  | _ => 0
def Lt.most : Lt → Int
  | .lu => 33
  | .lr => 12
  | .lm => 24
  | .ls => 63
  | .lp => 127
  | .lc => 255
  | .ln => 281474976710655
def Lt.wid : Lt → Int
  | .ls => 1
  | .lp => 1
  | .lc => 1
  | .ln => 6
  | _ => 0
/-- where a letter's text stands, and its number -/
def tpV (g : Nat) (c : Lt) : Value := if c.isT then .pointer (some ⟨g, c.ix, none⟩) else .pointer none
def npV (g : Nat) (c : Lt) : Value := if c.isT then .pointer none else .pointer (some ⟨g, c.ix, none⟩)
def fldC (g : Nat) (c : Lt) : List Value := [tpV g c, npV g c, .int .i64 c.least, .int .i64 c.most, .int .i64 c.wid]
abbrev fldV (g : Nat) (c : Lt) : Value := .agg #[tpV g c, npV g c, .int .i64 c.least, .int .i64 c.most, .int .i64 c.wid]
def telF : Lt → Nat
  | .lu => 53
  | .lr => 54
  | .lm => 55
  | .ls => 56
  | .lp => 57
  | .lc => 58
  | .ln => 59
set_option maxRecDepth 100000 in
theorem teller_any (c : Lt) (w : World) : Calls Tryd.prog 37 #[.int .i32 c.num] w fun e w' => e = .returned (.func (.func (telF c)) #[] #[]) ∧ Below w.heap.size w w' := by
  cases c <;> (dsimp only [telF]; go_enter Tryd.func37, Tryd.ntmps37; go_wp2; go_ret; exact ⟨rfl, by (repeat (first | (with_reducible exact Below.refl _ _) | ((with_reducible refine below_alloc ?_ ?_ _); · (first | omega | (simp; done) | (simp; omega))) | ((with_reducible refine below_setCell ?_ ?_ _); · (first | omega | (simp; done) | (simp; omega))) | (with_reducible refine Below.drew ?_) | (with_reducible refine below_drewN ?_ _) | ((with_reducible refine below_call (by assumption) ?_ ?_); · (first | omega | (simp; done) | (simp; omega)))))⟩)
theorem tel1_any (g : Nat) (w : World) : Calls Tryd.prog 53 #[.pointer (some ⟨g, 0, none⟩)] w fun e w' => e = .returned (fldV g .lu) ∧ Below w.heap.size w w' := by
  go_enter Tryd.func53, Tryd.ntmps53
  go_wp2
  refine bodyPost_ret (v := .agg #[.pointer (some ⟨g, 1, none⟩), .pointer none, .int .i64 (0), .int .i64 (33), .int .i64 (0)]) (by simp [results, Tryd.results53, go_sem]) rfl ⟨rfl, ?_⟩
  (repeat (first | (with_reducible exact Below.refl _ _) | ((with_reducible refine below_alloc ?_ ?_ _); · (first | omega | (simp; done) | (simp; omega))) | ((with_reducible refine below_setCell ?_ ?_ _); · (first | omega | (simp; done) | (simp; omega))) | (with_reducible refine Below.drew ?_) | (with_reducible refine below_drewN ?_ _) | ((with_reducible refine below_call (by assumption) ?_ ?_); · (first | omega | (simp; done) | (simp; omega)))))
theorem tel2_any (g : Nat) (w : World) : Calls Tryd.prog 54 #[.pointer (some ⟨g, 0, none⟩)] w fun e w' => e = .returned (fldV g .lr) ∧ Below w.heap.size w w' := by
  go_enter Tryd.func54, Tryd.ntmps54
  go_wp2
  refine bodyPost_ret (v := .agg #[.pointer (some ⟨g, 2, none⟩), .pointer none, .int .i64 (0), .int .i64 (12), .int .i64 (0)]) (by simp [results, Tryd.results54, go_sem]) rfl ⟨rfl, ?_⟩
  (repeat (first | (with_reducible exact Below.refl _ _) | ((with_reducible refine below_alloc ?_ ?_ _); · (first | omega | (simp; done) | (simp; omega))) | ((with_reducible refine below_setCell ?_ ?_ _); · (first | omega | (simp; done) | (simp; omega))) | (with_reducible refine Below.drew ?_) | (with_reducible refine below_drewN ?_ _) | ((with_reducible refine below_call (by assumption) ?_ ?_); · (first | omega | (simp; done) | (simp; omega)))))
theorem tel3_any (g : Nat) (w : World) : Calls Tryd.prog 55 #[.pointer (some ⟨g, 0, none⟩)] w fun e w' => e = .returned (fldV g .lm) ∧ Below w.heap.size w w' := by
  go_enter Tryd.func55, Tryd.ntmps55
  go_wp2
  refine bodyPost_ret (v := .agg #[.pointer (some ⟨g, 3, none⟩), .pointer none, .int .i64 (0), .int .i64 (24), .int .i64 (0)]) (by simp [results, Tryd.results55, go_sem]) rfl ⟨rfl, ?_⟩
  (repeat (first | (with_reducible exact Below.refl _ _) | ((with_reducible refine below_alloc ?_ ?_ _); · (first | omega | (simp; done) | (simp; omega))) | ((with_reducible refine below_setCell ?_ ?_ _); · (first | omega | (simp; done) | (simp; omega))) | (with_reducible refine Below.drew ?_) | (with_reducible refine below_drewN ?_ _) | ((with_reducible refine below_call (by assumption) ?_ ?_); · (first | omega | (simp; done) | (simp; omega)))))
theorem tel4_any (g : Nat) (w : World) : Calls Tryd.prog 56 #[.pointer (some ⟨g, 0, none⟩)] w fun e w' => e = .returned (fldV g .ls) ∧ Below w.heap.size w w' := by
  go_enter Tryd.func56, Tryd.ntmps56
  go_wp2
  refine bodyPost_ret (v := .agg #[.pointer none, .pointer (some ⟨g, 4, none⟩), .int .i64 (0), .int .i64 (63), .int .i64 (1)]) (by simp [results, Tryd.results56, go_sem]) rfl ⟨rfl, ?_⟩
  (repeat (first | (with_reducible exact Below.refl _ _) | ((with_reducible refine below_alloc ?_ ?_ _); · (first | omega | (simp; done) | (simp; omega))) | ((with_reducible refine below_setCell ?_ ?_ _); · (first | omega | (simp; done) | (simp; omega))) | (with_reducible refine Below.drew ?_) | (with_reducible refine below_drewN ?_ _) | ((with_reducible refine below_call (by assumption) ?_ ?_); · (first | omega | (simp; done) | (simp; omega)))))
theorem tel5_any (g : Nat) (w : World) : Calls Tryd.prog 57 #[.pointer (some ⟨g, 0, none⟩)] w fun e w' => e = .returned (fldV g .lp) ∧ Below w.heap.size w w' := by
  go_enter Tryd.func57, Tryd.ntmps57
  go_wp2
  refine bodyPost_ret (v := .agg #[.pointer none, .pointer (some ⟨g, 5, none⟩), .int .i64 (-128), .int .i64 (127), .int .i64 (1)]) (by simp [results, Tryd.results57, go_sem]) rfl ⟨rfl, ?_⟩
  (repeat (first | (with_reducible exact Below.refl _ _) | ((with_reducible refine below_alloc ?_ ?_ _); · (first | omega | (simp; done) | (simp; omega))) | ((with_reducible refine below_setCell ?_ ?_ _); · (first | omega | (simp; done) | (simp; omega))) | (with_reducible refine Below.drew ?_) | (with_reducible refine below_drewN ?_ _) | ((with_reducible refine below_call (by assumption) ?_ ?_); · (first | omega | (simp; done) | (simp; omega)))))
theorem tel6_any (g : Nat) (w : World) : Calls Tryd.prog 58 #[.pointer (some ⟨g, 0, none⟩)] w fun e w' => e = .returned (fldV g .lc) ∧ Below w.heap.size w w' := by
  go_enter Tryd.func58, Tryd.ntmps58
  go_wp2
  refine bodyPost_ret (v := .agg #[.pointer none, .pointer (some ⟨g, 6, none⟩), .int .i64 (0), .int .i64 (255), .int .i64 (1)]) (by simp [results, Tryd.results58, go_sem]) rfl ⟨rfl, ?_⟩
  (repeat (first | (with_reducible exact Below.refl _ _) | ((with_reducible refine below_alloc ?_ ?_ _); · (first | omega | (simp; done) | (simp; omega))) | ((with_reducible refine below_setCell ?_ ?_ _); · (first | omega | (simp; done) | (simp; omega))) | (with_reducible refine Below.drew ?_) | (with_reducible refine below_drewN ?_ _) | ((with_reducible refine below_call (by assumption) ?_ ?_); · (first | omega | (simp; done) | (simp; omega)))))
theorem tel7_any (g : Nat) (w : World) : Calls Tryd.prog 59 #[.pointer (some ⟨g, 0, none⟩)] w fun e w' => e = .returned (fldV g .ln) ∧ Below w.heap.size w w' := by
  go_enter Tryd.func59, Tryd.ntmps59
  go_wp2
  refine bodyPost_ret (v := .agg #[.pointer none, .pointer (some ⟨g, 7, none⟩), .int .i64 (0), .int .i64 (281474976710655), .int .i64 (6)]) (by simp [results, Tryd.results59, go_sem]) rfl ⟨rfl, ?_⟩
  (repeat (first | (with_reducible exact Below.refl _ _) | ((with_reducible refine below_alloc ?_ ?_ _); · (first | omega | (simp; done) | (simp; omega))) | ((with_reducible refine below_setCell ?_ ?_ _); · (first | omega | (simp; done) | (simp; omega))) | (with_reducible refine Below.drew ?_) | (with_reducible refine below_drewN ?_ _) | ((with_reducible refine below_call (by assumption) ?_ ?_); · (first | omega | (simp; done) | (simp; omega)))))
theorem tel_any (c : Lt) (g : Nat) (w : World) : Calls Tryd.prog (telF c) #[.pointer (some ⟨g, 0, none⟩)] w fun e w' => e = .returned (fldV g c) ∧ Below w.heap.size w w' := by
  cases c
  · exact tel1_any g w
  · exact tel2_any g w
  · exact tel3_any g w
  · exact tel4_any g w
  · exact tel5_any g w
  · exact tel6_any g w
  · exact tel7_any g w
theorem tel_enter (c : Lt) : ∀ args w, (callFunc (telF c) args).run Tryd.prog w = .ok (.enter (telF c) args) w := by
  cases c
  · exact fun args w => enters_of Tryd.func53 (by kernel_rfl) rfl args w
  · exact fun args w => enters_of Tryd.func54 (by kernel_rfl) rfl args w
  · exact fun args w => enters_of Tryd.func55 (by kernel_rfl) rfl args w
  · exact fun args w => enters_of Tryd.func56 (by kernel_rfl) rfl args w
  · exact fun args w => enters_of Tryd.func57 (by kernel_rfl) rfl args w
  · exact fun args w => enters_of Tryd.func58 (by kernel_rfl) rfl args w
  · exact fun args w => enters_of Tryd.func59 (by kernel_rfl) rfl args w
/-- v is a slice of the call's own, of these letters' fields -/
def OwnF (w : World) (B : Nat) (v : Value) (g : Nat) (l : List Lt) : Prop := w.ownsRow B 87 5 v l.length (l.flatMap (fldC g))
theorem OwnF.call {W w1 : World} {B : Nat} {v : Value} {g : Nat} {l : List Lt} (h : OwnF W B v g l) (hb : Below W.heap.size W w1) : OwnF w1 B v g l := by
  refine ⟨h.1, ?_⟩
  rcases h.2 with h0 | ⟨b, cap, cur, hv, hB, hg, rest⟩
  · exact .inl h0
  · exact .inr ⟨b, cap, cur, hv, hB, (hb.block b (Array.getElem?_eq_some_iff.1 hg).1).trans hg, rest⟩
theorem fldC_at (g : Nat) : ∀ (l : List Lt) (i : Nat) (h : i < l.length) (j : Nat) (hj : j < 5), (l.flatMap (fldC g))[i * 5 + j]? = (fldC g l[i])[j]?
  | [], i, h, _, _ => by cases h
  | c :: l, 0, _, j, hj => by
    rw [List.flatMap_cons, Nat.zero_mul, Nat.zero_add, List.getElem?_append_left (by show j < 5; exact hj)]
    rfl
  | c :: l, i + 1, h, j, hj => by
    rw [List.flatMap_cons, List.getElem?_append_right (by show 5 ≤ _; omega)]
    have := fldC_at g l i (by simpa using h) j hj
    rw [show (i + 1) * 5 + j - (fldC g c).length = i * 5 + j by show (i + 1) * 5 + j - 5 = _; omega, this]
    rfl
/-- a field among them -/
theorem OwnF.at {w : World} {B g : Nat} {v : Value} {l : List Lt} (h : OwnF w B v g l) {i : Nat} (hi : i < l.length) :
    ∃ b cap, v = .slice (some ⟨b, 0, none⟩) l.length cap ∧ B ≤ b ∧ b < w.heap.size ∧ w.cell? ⟨b, i * 5, none⟩ = some (tpV g l[i]) ∧ w.cell? ⟨b, i * 5 + 1, none⟩ = some (npV g l[i]) ∧ w.cell? ⟨b, i * 5 + 2, none⟩ = some (.int .i64 l[i].least) ∧ w.cell? ⟨b, i * 5 + 3, none⟩ = some (.int .i64 l[i].most) ∧ w.cell? ⟨b, i * 5 + 4, none⟩ = some (.int .i64 l[i].wid) := by
  rcases h.2 with ⟨_, h0⟩ | ⟨b, cap, cur, rfl, hB, hg, rest⟩
  · omega
  · have hc : ∀ j (hj : j < 5), w.cell? ⟨b, i * 5 + j, none⟩ = (fldC g l[i])[j]? := fun j hj => by
      have hr : w.ownsRow B 87 5 (.slice (some ⟨b, 0, none⟩) l.length cap) l.length (l.flatMap (fldC g)) := h
      rw [hr.cellAt (i * 5 + j) (by omega), fldC_at g l i hi j hj]
    exact ⟨b, cap, rfl, hB, (Array.getElem?_eq_some_iff.1 hg).1, hc 0 (by decide), hc 1 (by decide), hc 2 (by decide), hc 3 (by decide), hc 4 (by decide)⟩
theorem OwnF.slice {w : World} {B g : Nat} {v : Value} {l : List Lt} (h : OwnF w B v g l) : ∃ p cap, v = .slice p l.length cap := by
  rcases h.2 with ⟨rfl, h0⟩ | ⟨b, cap, cur, rfl, hB, hg, rest⟩
  · exact ⟨none, 0, by rw [h0]⟩
  · exact ⟨_, cap, rfl⟩
theorem info_fld : (Tryd.prog.info? 87).map (fun i => (i.zero, i.size, i.bytes)) = some (some (.agg #[.pointer none, .pointer none, .int .i64 0, .int .i64 0, .int .i64 0]), 5, 40) := by kernel_rfl
theorem app_fld {w : World} {ops : Array Oper} {rest : List Oper} {o : Oper} {a : Act} {Q : Exit → Act → World → Prop} (hgd : o.guard = none) (s x : Operand)
    (ho : o.op = .call { callee := .builtin .append, args := #[s, x], argTypes := #[91, 91] }) (B g : Nat) (l : List Lt) (v : Value) (c : Lt) (ad : Addr)
    (hs : a.eval s = v) (hown : OwnF w B v g l) (hx : a.eval x = .slice (some ad) 1 1) (hc : ∀ j u, (fldC g c)[j]? = some u → w.cell? (ad.add j) = some u) (hl : l.length ≤ 1000) (hB : B ≤ w.heap.size)
    (h : ∀ v' w', OwnF w' B v' g (l ++ [c]) → Below B w w' → w.grownBy w' v.ownBlock → wpList Tryd.prog ops Q rest (a.put o.dst v') w') : wpList Tryd.prog ops Q (o :: rest) a w := by
  obtain ⟨i0, hi, hz0, hz1, hz2⟩ := info_parts info_fld
  refine wpList_append_own w hgd s x 91 ho B 87 i0 (.agg #[.pointer none, .pointer none, .int .i64 0, .int .i64 0, .int .i64 0]) 5 40 Tryd.underlying91 hi hz0 hz1 hz2 rfl (by decide) v l.length (l.flatMap (fldC g)) hs hown ad 1 1 (fldC g c) hx rfl hc ?_ (by unfold maxLen; omega) (by omega) hB ?_
  · intro u hu
    have e : tpV g c = .pointer (some ⟨g, c.ix, none⟩) ∨ tpV g c = .pointer none := by unfold tpV; split <;> simp
    have f : npV g c = .pointer (some ⟨g, c.ix, none⟩) ∨ npV g c = .pointer none := by unfold npV; split <;> simp
    simp only [fldC, List.mem_cons, List.not_mem_nil, or_false] at hu
    rcases hu with rfl | rfl | rfl | rfl | rfl
    · rcases e with e | e <;> rw [e] <;> rfl
    · rcases f with f | f <;> rw [f] <;> rfl
    · rfl
    · rfl
    · rfl
  · intro v' w' h2 h3 _
    refine h v' w' ?_ ((Below.refl B w).grown h3 hB (fun j hj => (World.ownsRow.lt hown j hj).1)) h3
    show w'.ownsRow _ _ _ _ (l ++ [c]).length ((l ++ [c]).flatMap (fldC g))
    rw [List.length_append, List.flatMap_append, List.flatMap_singleton]
    exact h2
theorem flt_has (k : Nat) : ltrs.filter (hasC k) = hasL k := has_all (fun l => ltrs.filter (fun c => l.any (Lt.same c)) = l) (by decide) k
end Go.Proofs.YtackinamkibmlaaDoor
namespace Go.Proofs.YtackinamkibmlaaDoor
open Go.RowKit
set_option linter.unusedVariables false
set_option linter.unusedSimpArgs false

def ltrS : ByteArray := ⟨#[117, 114, 109, 115, 112, 99, 110]⟩
theorem ltrS_at {i : Nat} (h : i < 7) : ∃ c, ltrs.take (i + 1) = ltrs.take i ++ [c] ∧ ∃ h' : i < ltrS.size, (ltrS[i]'h').toNat < 128 ∧ ((ltrS[i]'h').toNat : Int) = c.num := by
  have hd : i = 0 ∨ i = 1 ∨ i = 2 ∨ i = 3 ∨ i = 4 ∨ i = 5 ∨ i = 6 := by omega
  rcases hd with rfl | rfl | rfl | rfl | rfl | rfl | rfl
  · exact ⟨.lu, rfl, by decide, by decide, rfl⟩
  · exact ⟨.lr, rfl, by decide, by decide, rfl⟩
  · exact ⟨.lm, rfl, by decide, by decide, rfl⟩
  · exact ⟨.ls, rfl, by decide, by decide, rfl⟩
  · exact ⟨.lp, rfl, by decide, by decide, rfl⟩
  · exact ⟨.lc, rfl, by decide, by decide, rfl⟩
  · exact ⟨.ln, rfl, by decide, by decide, rfl⟩
theorem OwnF.alloc {w : World} {B : Nat} {v : Value} {g : Nat} {l : List Lt} (h : OwnF w B v g l) (o : Obj) : OwnF (w.alloc o) B v g l := World.ownsRow.alloc h o
theorem own_iter {w : World} {B g k pos pos' : Nat} {v : Value} {l : List Lt} {s : ByteArray} (h : OwnF w B v g l) (hk : w.heap[k]? = some (.stringIter s pos)) : OwnF (w.iterAt k s pos') B v g l := by
  refine ⟨h.1, ?_⟩
  rcases h.2 with h0 | ⟨b, cap, cur, hv, hb, hg, rest⟩
  · exact .inl h0
  · refine .inr ⟨b, cap, cur, hv, hb, ?_, rest⟩
    rw [Lib.iterAt_other _ _ _ _ _ (fun e => by subst e; rw [hk] at hg; cases hg)]
    exact hg
theorem own_ne {w : World} {B g k pos : Nat} {v : Value} {l : List Lt} {s : ByteArray} (h : OwnF w B v g l) (hk : w.heap[k]? = some (.stringIter s pos)) : some k ≠ v.ownBlock := by
  rcases h.2 with ⟨rfl, _⟩ | ⟨b, cap, cur, rfl, hb, hg, rest⟩
  · simp [Value.ownBlock]
  · intro e
    simp only [Value.ownBlock, Option.some.injEq] at e
    subst e
    rw [hk] at hg
    cases hg
theorem filter_more {p : Lt → Bool} {l : List Lt} {c : Lt} : (l ++ [c]).filter p = if p c = true then l.filter p ++ [c] else l.filter p := by
  rw [List.filter_append]
  by_cases h : p c = true
  · rw [if_pos h, List.filter_cons, if_pos h]; rfl
  · rw [if_neg h, List.filter_cons, if_neg h, List.filter_nil, List.append_nil]
set_option maxHeartbeats 4000000 in
set_option maxRecDepth 1000000 in
theorem flds_any (g : Nat) (k : UInt8) (w : World) (hc : w.cell? ⟨g, 0, none⟩ = some (.int .u8 (k.toNat : Int))) :
    Calls Tryd.prog 38 #[.pointer (some ⟨g, 0, none⟩)] w fun e w' => ∃ v, e = .returned v ∧ OwnF w' w.heap.size v g (hasL k.toNat) ∧ Below w.heap.size w w' := by
  have hlt := World.block_lt_of_cell? _ _ hc
  replace hlt : g < w.heap.size := hlt
  rw [← flt_has]
  have hsz : ltrS.size = 7 := rfl
  obtain ⟨S, hS⟩ : ∃ S, ltrS = S := ⟨_, rfl⟩
  have hat := @ltrS_at
  rw [hS] at hat hsz
  obtain ⟨H, hH⟩ : ∃ H, hasC k.toNat = H := ⟨_, rfl⟩
  have c1 := fun c W => sh_any k c W
  rw [hH] at c1 ⊢
  obtain ⟨z, hz⟩ : ∃ z : Int, (k.toNat : Int) = z := ⟨_, rfl⟩
  rw [hz] at c1 hc
  go_enter Tryd.func38, Tryd.ntmps38
  rw [show (⟨#[117, 114, 109, 115, 112, 99, 110]⟩ : ByteArray) = S from hS]
  go_wp2
  go_loopg [3] 8 (fun gf s3 wx => ∃ pos, pos + gf = 8 ∧ pos ≤ 7 ∧ OwnF wx w.heap.size s3 g ((ltrs.take pos).filter H) ∧ wx.heap[w.heap.size]? = some (.stringIter S pos) ∧ Below w.heap.size w wx)
  case atStart => exact ⟨0, rfl, by decide, World.ownsRow_nil _ _ _ _, World.iter_heap w S 0, (Below.refl _ w).alloc (Nat.le_refl _) _⟩
  case round =>
    obtain ⟨pos, hpg, hp7, hown, hit, hbw⟩ := hrel
    by_cases hlp : pos < 7
    · obtain ⟨g', rfl⟩ : ∃ g', gk = g' + 1 := ⟨gk - 1, by omega⟩
      obtain ⟨c, htk, hps, has, hnum⟩ := hat hlp
      have hnx : ∀ ty, (Instr.next (.pointer (some ⟨w.heap.size, 0, none⟩)) true ty).run Tryd.prog wr = _ := fun ty => Lib.run_next_ascii_at wr w.heap.size S pos ty hit hps has
      rw [hnum] at hnx
      have hit2 := Lib.iterAt_heap wr w.heap.size S pos (pos + 1) hit
      have hbw2 := Lib.below_iterAt hbw (k := w.heap.size) (Nat.le_refl _) S (pos + 1)
      have hown2 := own_iter (pos' := pos + 1) hown hit
      obtain ⟨W, hWd⟩ : ∃ W, wr.iterAt w.heap.size S (pos + 1) = W := ⟨_, rfl⟩
      rw [hWd] at hnx hit2 hbw2 hown2
      have hcW : W.cell? ⟨g, 0, none⟩ = some (.int .u8 z) := (hbw2.cell (p := ⟨g, 0, none⟩) hlt).trans hc
      have hfl : (ltrs.take (pos + 1)).filter H = if H c = true then (ltrs.take pos).filter H ++ [c] else (ltrs.take pos).filter H := by rw [htk, filter_more]
      have HW := Lib.hid hbw2
      have HO := Lib.hid hown2
      have HI := Lib.hid hit2
      have HF := Lib.hid hfl
      have c1' := fun W => c1 c W
      have c2 := fun W => teller_any c W
      have c3 := fun W => tel_any c g W
      have eg := tel_enter c
      clear hit hbw hown hit2 hbw2 hown2 hfl hWd hnum has hat c1 htk
      cases hHc : H c
      · rw [hHc] at c1'
        go_wp2_with fail
        refine (c1' _).mono ?_; rintro e w1 ⟨rfl, hb1⟩
        go_wp2_with fail
        go_roundg g'
        case measure => omega
        case rel => 
          have hf := HF.out
          rw [hHc, if_neg (by decide)] at hf
          refine ⟨pos + 1, by omega, by omega, ?_, ?_, HW.out.trans (hb1.mono HW.out.size)⟩
          · rw [hf]; exact HO.out.call hb1
          · rw [hb1.block _ (Array.getElem?_eq_some_iff.1 HI.out).1]; exact HI.out
      · rw [hHc] at c1'
        go_wp2_with fail
        refine (c1' _).mono ?_; rintro e w1 ⟨rfl, hb1⟩
        go_wp2_with fail
        refine (c2 _).mono ?_; rintro e w2 ⟨rfl, hb2⟩
        go_wp2_with fail
        refine (c3 _).mono ?_; rintro e w3 ⟨rfl, hb3⟩
        have HO3 := Lib.hid (((HO.out.call hb1).call hb2).call hb3)
        have hs3 : w.heap.size ≤ w3.heap.size := by have := HW.out.size; have := hb1.size; have := hb2.size; have := hb3.size; omega
        have hl3 : ((ltrs.take pos).filter H).length ≤ 1000 := by have := List.length_filter_le H (ltrs.take pos); rw [List.length_take] at this; omega
        have HI3 := Lib.hid (((hb3.block _ (by have := (Array.getElem?_eq_some_iff.1 HI.out).1; have := hb1.size; have := hb2.size; omega)).trans ((hb2.block _ (by have := (Array.getElem?_eq_some_iff.1 HI.out).1; have := hb1.size; omega)).trans ((hb1.block _ (Array.getElem?_eq_some_iff.1 HI.out).1)))).trans HI.out)
        go_wp2_with (at_builtin; refine app_fld rfl _ _ rfl w.heap.size g ((ltrs.take pos).filter H) _ c ⟨w3.heap.size, 0, none⟩ rfl (HO3.out.alloc _) rfl ?c1 hl3 ?c2 ?_)
        case c1 =>
          intro j u hu
          match j, hu with
          | 0, hu => cases hu; simp [Addr.add_lit]
          | 1, hu => cases hu; simp [Addr.add_lit]
          | 2, hu => cases hu; simp [Addr.add_lit]
          | 3, hu => cases hu; simp [Addr.add_lit]
          | 4, hu => cases hu; simp [Addr.add_lit]
          | (j + 5), hu => cases hu
        case c2 => simp only [World.size_alloc]; omega
        intro v4 w4 hown4 hb4 hg4
        have hb4' : Below w.heap.size w w4 := ((((HW.out.trans (hb1.mono HW.out.size)).trans (hb2.mono (by have := HW.out.size; have := hb1.size; omega))).trans (hb3.mono (by have := HW.out.size; have := hb1.size; have := hb2.size; omega))).alloc hs3 _).trans hb4
        have hlI : w.heap.size < w3.heap.size := (Array.getElem?_eq_some_iff.1 HI3.out).1
        have HI4 := Lib.hid (((hg4.block w.heap.size (by simp only [World.size_alloc]; omega) (own_ne HO3.out HI3.out)).trans (((Below.refl _ w3).alloc (Nat.le_refl _) _).block _ hlI)).trans HI3.out)
        clear hg4
        go_wp2_with fail
        go_roundg g'
        case measure => omega
        case rel =>
          have hf := HF.out
          rw [hHc, if_pos rfl] at hf
          refine ⟨pos + 1, by omega, by omega, ?_, ?_, hb4'⟩
          · rw [hf]; exact hown4
          · exact HI4.out
    · have hp' : pos = 7 := by omega
      subst hp'
      have hnx : ∀ ty, (Instr.next (.pointer (some ⟨w.heap.size, 0, none⟩)) true ty).run Tryd.prog wr = _ := fun ty => Lib.run_next_end_at wr w.heap.size S 7 ty hit (by omega)
      go_wp2
      go_ret
      exact ⟨u3, rfl, hown, hbw⟩
end Go.Proofs.YtackinamkibmlaaDoor
namespace Go.Proofs.YtackinamkibmlaaDoor
open Go.RowKit
set_option linter.unusedVariables false
set_option linter.unusedSimpArgs false

def txtF (x : St) : Lt → ByteArray
  | .lu => x.u
  | .lr => x.r
  | .lm => x.m
  | _ => ⟨#[]⟩
def numF (x : St) : Lt → Int
  | .ls => x.s
  | .lp => x.p
  | .lc => x.c
  | .ln => x.n
  | _ => 0
theorem Bx8.txt {w : World} {g : Nat} {x : St} (h : Bx8 w g x) {c : Lt} (hc : c.isT = true) : w.cell? ⟨g, c.ix, none⟩ = some (.string (txtF x c)) := by
  cases c <;> first | exact h.2.1 | exact h.2.2.1 | exact h.2.2.2.1 | cases hc
theorem Bx8.num {w : World} {g : Nat} {x : St} (h : Bx8 w g x) {c : Lt} (hc : c.isT = false) : w.cell? ⟨g, c.ix, none⟩ = some (.int .i64 (numF x c)) := by
  cases c <;> first | exact h.2.2.2.2.1 | exact h.2.2.2.2.2.1 | exact h.2.2.2.2.2.2.1 | exact h.2.2.2.2.2.2.2 | cases hc
theorem Bx8.new (w : World) (x : St) : Bx8 (w.alloc (.cells #[.int .u8 (x.k.toNat : Int), .string x.u, .string x.r, .string x.m, .int .i64 x.s, .int .i64 x.p, .int .i64 x.c, .int .i64 x.n] 40)) w.heap.size x := by
  refine ⟨?_, ?_, ?_, ?_, ?_, ?_, ?_, ?_⟩ <;> simp [go_sem]
theorem tpV_t {g : Nat} {c : Lt} (h : c.isT = true) : tpV g c = .pointer (some ⟨g, c.ix, none⟩) := if_pos h
theorem npV_t {g : Nat} {c : Lt} (h : c.isT = true) : npV g c = .pointer none := if_pos h
theorem tpV_n {g : Nat} {c : Lt} (h : c.isT = false) : tpV g c = .pointer none := if_neg (by rw [h]; decide)
theorem npV_n {g : Nat} {c : Lt} (h : c.isT = false) : npV g c = .pointer (some ⟨g, c.ix, none⟩) := if_neg (by rw [h]; decide)
theorem zeroF_t {x : St} {c : Lt} (h : c.isT = true) : zeroF x c = decide ((txtF x c).size = 0) := by cases c <;> first | rfl | cases h
theorem zeroF_n {x : St} {c : Lt} (h : c.isT = false) : zeroF x c = decide (numF x c = 0) := by cases c <;> first | rfl | cases h
theorem str_zero (s : ByteArray) : decide (s = ⟨#[]⟩) = decide (s.size = 0) := by
  rw [decide_eq_decide]
  constructor
  · rintro rfl; rfl
  · intro h
    apply ByteArray.ext
    exact Array.eq_empty_of_size_eq_zero h
theorem str_emp (s : ByteArray) : s.toList.isEmpty = decide (s = ⟨#[]⟩) := by
  rw [str_zero, ByteArray.toList_eq, Bool.eq_iff_iff, decide_eq_true_iff, List.isEmpty_iff]
  rw [sz_list]
  exact List.length_eq_zero_iff.symm
set_option maxRecDepth 100000 in
theorem iszero_t (g i : Nat) (a b d : Int) (s : ByteArray) (w : World) (h : w.cell? ⟨g, i, none⟩ = some (.string s)) :
    Calls Tryd.prog 36 #[.agg #[.pointer (some ⟨g, i, none⟩), .pointer none, .int .i64 a, .int .i64 b, .int .i64 d]] w fun e w' => e = .returned (.bool (decide (s.size = 0))) ∧ Below w.heap.size w w' := by
  have hlt := World.block_lt_of_cell? _ _ h
  replace hlt : g < w.heap.size := hlt
  have hne : g ≠ w.heap.size := by omega
  rw [← str_zero]
  go_enter Tryd.func36, Tryd.ntmps36
  go_wp2
  go_ret
  exact ⟨ret_bool (by first | rfl | exact str_beq _ _ | exact str_emp s), by (repeat (first | (with_reducible exact Below.refl _ _) | ((with_reducible refine below_alloc ?_ ?_ _); · (first | omega | (simp; done) | (simp; omega))) | ((with_reducible refine below_setCell ?_ ?_ _); · (first | omega | (simp; done) | (simp; omega))) | (with_reducible refine Below.drew ?_) | (with_reducible refine below_drewN ?_ _) | ((with_reducible refine below_call (by assumption) ?_ ?_); · (first | omega | (simp; done) | (simp; omega)))))⟩
set_option maxRecDepth 100000 in
theorem iszero_n (g i : Nat) (a b d : Int) (z : Int) (w : World) (h : w.cell? ⟨g, i, none⟩ = some (.int .i64 z)) :
    Calls Tryd.prog 36 #[.agg #[.pointer none, .pointer (some ⟨g, i, none⟩), .int .i64 a, .int .i64 b, .int .i64 d]] w fun e w' => e = .returned (.bool (decide (z = 0))) ∧ Below w.heap.size w w' := by
  have hlt := World.block_lt_of_cell? _ _ h
  replace hlt : g < w.heap.size := hlt
  have hne : g ≠ w.heap.size := by omega
  go_enter Tryd.func36, Tryd.ntmps36
  go_wp2
  go_ret
  exact ⟨ret_bool (by first | rfl | (rw [Bool.eq_iff_iff]; simp)), by (repeat (first | (with_reducible exact Below.refl _ _) | ((with_reducible refine below_alloc ?_ ?_ _); · (first | omega | (simp; done) | (simp; omega))) | ((with_reducible refine below_setCell ?_ ?_ _); · (first | omega | (simp; done) | (simp; omega))) | (with_reducible refine Below.drew ?_) | (with_reducible refine below_drewN ?_ _) | ((with_reducible refine below_call (by assumption) ?_ ?_); · (first | omega | (simp; done) | (simp; omega)))))⟩
theorem iszero_any (c : Lt) (g : Nat) (x : St) (w : World) (h : Bx8 w g x) : Calls Tryd.prog 36 #[fldV g c] w fun e w' => e = .returned (.bool (zeroF x c)) ∧ Below w.heap.size w w' := by
  by_cases hc : c.isT = true
  · rw [zeroF_t hc]
    dsimp only [fldV]
    rw [tpV_t hc, npV_t hc]
    exact iszero_t g _ _ _ _ _ w (h.txt hc)
  · have hc' : c.isT = false := by simpa using hc
    rw [zeroF_n hc']
    dsimp only [fldV]
    rw [tpV_n hc', npV_n hc']
    exact iszero_n g _ _ _ _ _ w (h.num hc')
theorem ltrS_dr {i : Nat} (h : i < 7) : ∃ c, ltrs.drop i = c :: ltrs.drop (i + 1) ∧ ∃ h' : i < ltrS.size, (ltrS[i]'h').toNat < 128 ∧ ((ltrS[i]'h').toNat : Int) = c.num := by
  have hd : i = 0 ∨ i = 1 ∨ i = 2 ∨ i = 3 ∨ i = 4 ∨ i = 5 ∨ i = 6 := by omega
  rcases hd with rfl | rfl | rfl | rfl | rfl | rfl | rfl
  · exact ⟨.lu, rfl, by decide, by decide, rfl⟩
  · exact ⟨.lr, rfl, by decide, by decide, rfl⟩
  · exact ⟨.lm, rfl, by decide, by decide, rfl⟩
  · exact ⟨.ls, rfl, by decide, by decide, rfl⟩
  · exact ⟨.lp, rfl, by decide, by decide, rfl⟩
  · exact ⟨.lc, rfl, by decide, by decide, rfl⟩
  · exact ⟨.ln, rfl, by decide, by decide, rfl⟩
set_option maxHeartbeats 4000000 in
set_option maxRecDepth 1000000 in
theorem hasmore_any (x : St) (w : World) : Calls Tryd.prog 18 #[stzV x] w fun e w' => e = .returned (.bool (extraB x)) ∧ Below w.heap.size w w' := by
  have hsz : ltrS.size = 7 := rfl
  obtain ⟨S, hS⟩ : ∃ S, ltrS = S := ⟨_, rfl⟩
  have hat := @ltrS_dr
  rw [hS] at hat hsz
  have hx8 := Bx8.new w x
  obtain ⟨H, hH⟩ : ∃ H, hasC x.k.toNat = H := ⟨_, rfl⟩
  have HX : Hid (extraB x = ltrs.any fun c => !zeroF x c && !H c) := Lib.hid (by unfold extraB; rw [hH])
  have c1 := fun c W => sh_any x.k c W
  rw [hH] at c1
  go_enter Tryd.func18, Tryd.ntmps18
  rw [show (⟨#[117, 114, 109, 115, 112, 99, 110]⟩ : ByteArray) = S from hS]
  go_wp2
  have hz0 : w.heap.size + 1 = (w.alloc (.cells #[.int .u8 (x.k.toNat : Int), .string x.u, .string x.r, .string x.m, .int .i64 x.s, .int .i64 x.p, .int .i64 x.c, .int .i64 x.n] 40)).heap.size := by simp
  have hb0 : Below w.heap.size w (w.alloc (.cells #[.int .u8 (x.k.toNat : Int), .string x.u, .string x.r, .string x.m, .int .i64 x.s, .int .i64 x.p, .int .i64 x.c, .int .i64 x.n] 40)) := (Below.refl _ w).alloc (Nat.le_refl _) _
  generalize w.alloc _ = W0 at hx8 hz0 hb0 ⊢
  have HZ := Lib.hid hz0
  clear hz0
  go_loopg [4] 8 (fun gf s4 wx => ∃ pos, pos + gf = 8 ∧ pos ≤ 7 ∧ extraB x = ((ltrs.drop pos).any fun c => !zeroF x c && !H c) ∧ wx.heap[w.heap.size + 1]? = some (.stringIter S pos) ∧ Below W0.heap.size W0 wx)
  case atStart => exact ⟨0, rfl, by decide, HX.out, by rw [HZ.out]; exact World.iter_heap W0 S 0, (Below.refl _ W0).alloc (Nat.le_refl _) _⟩
  case round =>
    obtain ⟨pos, hpg, hp7, hex, hit, hbw⟩ := hrel
    by_cases hlp : pos < 7
    · obtain ⟨g', rfl⟩ : ∃ g', gk = g' + 1 := ⟨gk - 1, by omega⟩
      obtain ⟨c, htk, hps, has, hnum⟩ := hat hlp
      have hnx : ∀ ty, (Instr.next (.pointer (some ⟨w.heap.size + 1, 0, none⟩)) true ty).run Tryd.prog wr = _ := fun ty => Lib.run_next_ascii_at wr (w.heap.size + 1) S pos ty hit hps has
      rw [hnum] at hnx
      have hit2 := Lib.iterAt_heap wr (w.heap.size + 1) S pos (pos + 1) hit
      have hbw2 := Lib.below_iterAt hbw (k := w.heap.size + 1) (by have := HZ.out; omega) S (pos + 1)
      rw [htk, List.any_cons] at hex
      obtain ⟨W, hWd⟩ : ∃ W, wr.iterAt (w.heap.size + 1) S (pos + 1) = W := ⟨_, rfl⟩
      rw [hWd] at hnx hit2 hbw2
      have hX := hx8.call hbw2
      have hcW := hX.1
      have HW := Lib.hid hbw2
      have HI := Lib.hid hit2
      have HE := Lib.hid hex
      have HX2 := Lib.hid hX
      have c1' := fun W => c1 c W
      have c2 := fun W => teller_any c W
      have c3 := fun W => tel_any c w.heap.size W
      have eg := tel_enter c
      clear hit hbw hit2 hbw2 hWd hnum has hat c1 htk hex hX hx8
      cases hHc : H c
      · rw [hHc] at c1'
        go_wp2_with fail
        refine (c1' _).mono ?_; rintro e w1 ⟨rfl, hb1⟩
        go_wp2_with fail
        refine (c2 _).mono ?_; rintro e w2 ⟨rfl, hb2⟩
        go_wp2_with fail
        refine (c3 _).mono ?_; rintro e w3 ⟨rfl, hb3⟩
        go_wp2_with fail
        refine (iszero_any c w.heap.size x _ (((HX2.out.call hb1).call hb2).call hb3)).mono ?_; rintro e w4 ⟨rfl, hb4⟩
        have hI4 : w4.heap[w.heap.size + 1]? = some (.stringIter S (pos + 1)) := by
          have l0 := (Array.getElem?_eq_some_iff.1 HI.out).1
          have z1 := hb1.size; have z2 := hb2.size; have z3 := hb3.size
          rw [hb4.block _ (by omega), hb3.block _ (by omega), hb2.block _ (by omega), hb1.block _ l0]
          exact HI.out
        have HI4 := Lib.hid hI4
        have HB4 : Hid (Below W0.heap.size W0 w4) := Lib.hid (by
          have z0 := HW.out.size; have z1 := hb1.size; have z2 := hb2.size; have z3 := hb3.size
          exact (((HW.out.trans (hb1.mono z0)).trans (hb2.mono (by omega))).trans (hb3.mono (by omega))).trans (hb4.mono (by omega)))
        clear hI4
        cases hZ : zeroF x c
        · go_wp2_with fail
          go_ret
          refine ⟨ret_bool ?_, hb0.trans (HB4.out.mono hb0.size)⟩
          rw [HE.out, hZ, hHc]
          rfl
        · go_wp2_with fail
          go_roundg g'
          case measure => omega
          case rel =>
            refine ⟨pos + 1, by omega, by omega, ?_, HI4.out, HB4.out⟩
            rw [HE.out, hZ]
            rfl
      · rw [hHc] at c1'
        go_wp2_with fail
        refine (c1' _).mono ?_; rintro e w1 ⟨rfl, hb1⟩
        go_wp2_with fail
        go_roundg g'
        case measure => omega
        case rel =>
          refine ⟨pos + 1, by omega, by omega, ?_, ?_, HW.out.trans (hb1.mono HW.out.size)⟩
          · rw [HE.out, hHc, Bool.not_true, Bool.and_false, Bool.false_or]
          · rw [hb1.block _ (Array.getElem?_eq_some_iff.1 HI.out).1]; exact HI.out
    · have hp' : pos = 7 := by omega
      subst hp'
      have hnx : ∀ ty, (Instr.next (.pointer (some ⟨w.heap.size + 1, 0, none⟩)) true ty).run Tryd.prog wr = _ := fun ty => Lib.run_next_end_at wr (w.heap.size + 1) S 7 ty hit (by omega)
      have HE := Lib.hid hex
      have HB := Lib.hid hbw
      clear hex hbw hx8 hat c1
      go_wp2
      go_ret
      exact ⟨ret_bool (by rw [HE.out]; rfl), hb0.trans (HB.out.mono hb0.size)⟩
end Go.Proofs.YtackinamkibmlaaDoor
namespace Go.Proofs.YtackinamkibmlaaDoor
open Go.RowKit
set_option linter.unusedVariables false
set_option linter.unusedSimpArgs false

/-- may a letter's number be? -/
def inF (x : St) (c : Lt) : Bool := c.isT || (decide (c.least ≤ numF x c) && decide (numF x c ≤ c.most))
theorem all_drop {α : Type} (p : α → Bool) (l : List α) (i : Nat) (h : i < l.length) : (l.drop i).all p = (p l[i] && (l.drop (i + 1)).all p) := by
  rw [List.drop_eq_getElem_cons h, List.all_cons]
set_option maxHeartbeats 4000000 in
set_option maxRecDepth 1000000 in
theorem inrange_any (x : St) (w : World) : Calls Tryd.prog 19 #[stzV x] w fun e w' => e = .returned (.bool ((hasL x.k.toNat).all (inF x))) ∧ Below w.heap.size w w' := by
  have hx8 := Bx8.new w x
  have hb0 : Below w.heap.size w (w.alloc (.cells #[.int .u8 (x.k.toNat : Int), .string x.u, .string x.r, .string x.m, .int .i64 x.s, .int .i64 x.p, .int .i64 x.c, .int .i64 x.n] 40)) := (Below.refl _ w).alloc (Nat.le_refl _) _
  have c1 := fun W h => flds_any w.heap.size x.k W h
  have hlen : (hasL x.k.toNat).length ≤ 7 := has_all (fun l => l.length ≤ 7) (by decide) x.k.toNat
  obtain ⟨L, hL⟩ : ∃ L, hasL x.k.toNat = L := ⟨_, rfl⟩
  rw [hL] at c1 hlen ⊢
  clear hL
  go_enter Tryd.func19, Tryd.ntmps19
  go_wp2_with fail
  generalize w.alloc _ = W0 at hx8 hb0 ⊢
  refine (c1 _ hx8.1).mono ?_; rintro e w1 ⟨v, rfl, hv, hb1⟩
  obtain ⟨p, cap, rfl⟩ := hv.slice
  have hx1 := hx8.call hb1
  have hB1 : Below w.heap.size w w1 := hb0.trans (hb1.mono hb0.size)
  have HL : Hid (w.heap.size < w1.heap.size) := Lib.hid hx1.lt
  have HX := Lib.hid hx1
  have HV := Lib.hid hv
  have HB := Lib.hid hB1
  clear hx1 hv hB1 hx8 c1 hb0 hb1
  go_wp2_with fail
  go_loopg [7] 8 (fun gf s7 wx => ∃ i : Nat, s7 = .int .i64 i ∧ i + gf = 8 ∧ i ≤ L.length ∧ L.all (inF x) = (L.drop i).all (inF x) ∧ Below w1.heap.size w1 wx)
  case atStart => exact ⟨0, rfl, rfl, Nat.zero_le _, rfl, Below.refl _ _⟩
  case round =>
    obtain ⟨i, rfl, hig, hil, hall, hbw⟩ := hrel
    by_cases hlt : i < L.length
    · obtain ⟨g', rfl⟩ : ∃ g', gk = g' + 1 := ⟨gk - 1, by omega⟩
      rw [all_drop _ _ _ hlt] at hall
      obtain ⟨b, cap', hsl, hBb, hbl, k0, k1, k2, k3, k4⟩ := (HV.out.call hbw).at hlt
      injection hsl with h1 h2 h3
      subst h1
      subst h3
      have HXw := Lib.hid (HX.out.call hbw)
      obtain ⟨c, hcc⟩ : ∃ c, L[i] = c := ⟨_, rfl⟩
      rw [hcc] at hall k0 k1 k2 k3 k4
      have HA := Lib.hid hall
      have HW := Lib.hid hbw
      have hgl : w.heap.size < wr.heap.size := (by have := HL.out; have := HW.out.size; omega)
      clear hall hbw hcc
      by_cases hc : c.isT = true
      · have hin : inF x c = true := by unfold inF; rw [hc]; rfl
        rw [tpV_t hc] at k0
        rw [npV_t hc] at k1
        go_wp2_with fail
        go_quiet (fail)
        go_wp2_with fail
        go_roundg g'
        case measure => omega
        case rel => exact ⟨i + 1, by simp, by omega, by omega, by rw [HA.out, hin]; rfl, below_drewN (HW.out.alloc HW.out.size _) _⟩
      · have hc' : c.isT = false := by simpa using hc
        have hin : inF x c = (decide (c.least ≤ numF x c) && decide (numF x c ≤ c.most)) := by unfold inF; rw [hc']; rfl
        rw [tpV_n hc'] at k0
        rw [npV_n hc'] at k1
        have hcell := HXw.out.num hc'
        have HN := Lib.hid hin
        generalize numF x c = z at hcell HN
        generalize c.least = lo at k2 HN
        generalize c.most = hi at k3 HN
        generalize c.ix = o at k1 hcell
        clear hc hc' hin
        by_cases q1 : z < lo
        · go_wp2_with fail
          go_quiet (fail)
          go_wp2_with fail
          go_ret
          exact ⟨ret_bool (by rw [HA.out, HN.out, decide_eq_false (by omega)]; rfl), by have h1 := HB.out; have h2 := HW.out; have h3 := h1.trans (h2.mono h1.size); exact below_drewN (h3.alloc h3.size _) _⟩
        · by_cases q2 : hi < z
          · go_wp2_with fail
            go_quiet (fail)
            go_wp2_with fail
            go_ret
            exact ⟨ret_bool (by rw [HA.out, HN.out, decide_eq_false (show ¬ z ≤ hi by omega), Bool.and_false]; rfl), by have h1 := HB.out; have h2 := HW.out; have h3 := h1.trans (h2.mono h1.size); exact below_drewN (h3.alloc h3.size _) _⟩
          · go_wp2_with fail
            go_quiet (fail)
            go_wp2_with fail
            go_roundg g'
            case measure => omega
            case rel => exact ⟨i + 1, by simp, by omega, by omega, by rw [HA.out, HN.out, decide_eq_true (show lo ≤ z by omega), decide_eq_true (show z ≤ hi by omega)]; rfl, below_drewN (HW.out.alloc HW.out.size _) _⟩
    · have hi : i = L.length := by omega
      subst hi
      have HA := Lib.hid hall
      have HW := Lib.hid hbw
      clear hall hbw
      go_wp2_with fail
      go_ret
      exact ⟨ret_bool (by rw [HA.out, List.drop_length]; rfl), by have h1 := HB.out; have h2 := HW.out; exact h1.trans (h2.mono h1.size)⟩
theorem range_all {x : St} (h : extraB x = false) : (hasL x.k.toNat).all (inF x) = rangeB x := by
  have hz : ∀ c, c ∈ hasL x.k.toNat ∨ zeroF x c = true := fun c => ((extra_iff.1 h) c).symm
  rw [Bool.eq_iff_iff, List.all_eq_true]
  have key : (∀ c ∈ hasL x.k.toNat, inF x c = true) ↔ ∀ c, inF x c = true := by
    constructor
    · intro hall c
      rcases hz c with hm | hzz
      · exact hall c hm
      · cases c <;> first | rfl | (simp only [zeroF, decide_eq_true_eq] at hzz; simp [inF, numF, Lt.isT, Lt.least, Lt.most, hzz])
    · intro hall c _
      exact hall c
  rw [key]
  unfold rangeB
  simp only [Bool.and_eq_true, decide_eq_true_eq]
  constructor
  · intro hall
    have a : (decide (0 ≤ x.s) && decide (x.s ≤ 63)) = true := hall .ls
    have b : (decide (-128 ≤ x.p) && decide (x.p ≤ 127)) = true := hall .lp
    have c : (decide (0 ≤ x.c) && decide (x.c ≤ 255)) = true := hall .lc
    have d : (decide (0 ≤ x.n) && decide (x.n ≤ 281474976710655)) = true := hall .ln
    simp only [Bool.and_eq_true, decide_eq_true_eq] at a b c d
    omega
  · rintro ⟨a, b, c, d⟩ e
    cases e
    · rfl
    · rfl
    · rfl
    · show (decide (0 ≤ x.s) && decide (x.s ≤ 63)) = true
      simpa using a
    · show (decide (-128 ≤ x.p) && decide (x.p ≤ 127)) = true
      simpa using b
    · show (decide (0 ≤ x.c) && decide (x.c ≤ 255)) = true
      simpa using c
    · show (decide (0 ≤ x.n) && decide (x.n ≤ 281474976710655)) = true
      simpa using d
set_option maxHeartbeats 4000000 in
set_option maxRecDepth 1000000 in
theorem scheck_any (x : St) (w : World) (hT : Tabs9 w) (hz : Sml x) : Calls Tryd.prog 11 #[stzV x] w fun e w' => e = .returned (.int .i64 (chkS x)) ∧ Below w.heap.size w w' := by
  have cK := fun W => skind_any x.k W
  have cM := fun W => hasmore_any x W
  have cR := fun W => inrange_any x W
  have cP := Lib.hid (fun W (hb : Below w.heap.size w W) => plain_any x.m W (hT.call hb).t (by have := hz.2.2; omega))
  have cB := Lib.hid (fun W (hb : Below w.heap.size w W) => aisbare_any x.u W (hT.call hb) hz.1)
  have cH : ∀ W, Calls Tryd.prog 21 #[.int .u8 (x.k.toNat : Int), .int .i32 117] W fun e w' => e = .returned (.bool (hasC x.k.toNat .lu)) ∧ Below W.heap.size W w' := fun W => sh_any x.k .lu W
  have cE := Lib.hid (fun W (hb : Below w.heap.size w W) => ares_any x.r W (hT.call hb))
  have HR := Lib.hid (@range_all x)
  have hms := hz.2.2
  cases hK : knownB x.k.toNat
  · have HN : Hid (chkS x = 12) := Lib.hid (if_pos hK)
    rw [hK] at cK
    go_enter Tryd.func11, Tryd.ntmps11
    go_wp2_with fail
    refine (cK _).mono ?_; rintro e w1 ⟨rfl, hb1⟩
    have B1 := Lib.hid (((Below.refl _ w).alloc (Nat.le_refl _) _).trans (hb1.mono (by simp)))
    have X1 := Lib.hid ((Bx8.new w x).call hb1)
    obtain ⟨p0, p1, p2, p3, p4, p5, p6, p7⟩ := X1.out
    go_wp2_with fail
    go_ret
    exact ⟨ret_int HN.out.symm, B1.out⟩
  rw [hK] at cK
  have e1 : ¬ knownB x.k.toNat = false := by rw [hK]; decide
  cases hM : extraB x
  rotate_left
  · have HN : Hid (chkS x = 4) := Lib.hid (by unfold chkS; rw [if_neg e1, if_pos hM])
    rw [hM] at cM
    go_enter Tryd.func11, Tryd.ntmps11
    go_wp2_with fail
    refine (cK _).mono ?_; rintro e w1 ⟨rfl, hb1⟩
    have B1 := Lib.hid (((Below.refl _ w).alloc (Nat.le_refl _) _).trans (hb1.mono (by simp)))
    have X1 := Lib.hid ((Bx8.new w x).call hb1)
    obtain ⟨p0, p1, p2, p3, p4, p5, p6, p7⟩ := X1.out
    go_wp2_with fail
    refine (cM _).mono ?_; rintro e w2 ⟨rfl, hb2⟩
    have B2 := Lib.hid (B1.out.trans (hb2.mono B1.out.size))
    clear p0 p1 p2 p3 p4 p5 p6 p7
    have X2 := Lib.hid (X1.out.call hb2)
    obtain ⟨p0, p1, p2, p3, p4, p5, p6, p7⟩ := X2.out
    go_wp2_with fail
    go_ret
    exact ⟨ret_int HN.out.symm, B2.out⟩
  rw [hM] at cM
  have e2 : ¬ extraB x = true := by rw [hM]; decide
  rw [HR.out hM] at cR
  cases hR : rangeB x
  · have HN : Hid (chkS x = 8) := Lib.hid (by unfold chkS; rw [if_neg e1, if_neg e2, if_pos hR])
    rw [hR] at cR
    go_enter Tryd.func11, Tryd.ntmps11
    go_wp2_with fail
    refine (cK _).mono ?_; rintro e w1 ⟨rfl, hb1⟩
    have B1 := Lib.hid (((Below.refl _ w).alloc (Nat.le_refl _) _).trans (hb1.mono (by simp)))
    have X1 := Lib.hid ((Bx8.new w x).call hb1)
    obtain ⟨p0, p1, p2, p3, p4, p5, p6, p7⟩ := X1.out
    go_wp2_with fail
    refine (cM _).mono ?_; rintro e w2 ⟨rfl, hb2⟩
    have B2 := Lib.hid (B1.out.trans (hb2.mono B1.out.size))
    clear p0 p1 p2 p3 p4 p5 p6 p7
    have X2 := Lib.hid (X1.out.call hb2)
    obtain ⟨p0, p1, p2, p3, p4, p5, p6, p7⟩ := X2.out
    go_wp2_with fail
    refine (cR _).mono ?_; rintro e w3 ⟨rfl, hb3⟩
    have B3 := Lib.hid (B2.out.trans (hb3.mono B2.out.size))
    clear p0 p1 p2 p3 p4 p5 p6 p7
    have X3 := Lib.hid (X2.out.call hb3)
    obtain ⟨p0, p1, p2, p3, p4, p5, p6, p7⟩ := X3.out
    go_wp2_with fail
    go_ret
    exact ⟨ret_int HN.out.symm, B3.out⟩
  rw [hR] at cR
  have e3 : ¬ rangeB x = false := by rw [hR]; decide
  by_cases e4 : 24 < x.m.size
  · have HN : Hid (chkS x = 5) := Lib.hid (by unfold chkS; rw [if_neg e1, if_neg e2, if_neg e3, if_pos e4])
    have e4' : (24 : Int) < x.m.size := by omega
    go_enter Tryd.func11, Tryd.ntmps11
    go_wp2_with fail
    refine (cK _).mono ?_; rintro e w1 ⟨rfl, hb1⟩
    have B1 := Lib.hid (((Below.refl _ w).alloc (Nat.le_refl _) _).trans (hb1.mono (by simp)))
    have X1 := Lib.hid ((Bx8.new w x).call hb1)
    obtain ⟨p0, p1, p2, p3, p4, p5, p6, p7⟩ := X1.out
    go_wp2_with fail
    refine (cM _).mono ?_; rintro e w2 ⟨rfl, hb2⟩
    have B2 := Lib.hid (B1.out.trans (hb2.mono B1.out.size))
    clear p0 p1 p2 p3 p4 p5 p6 p7
    have X2 := Lib.hid (X1.out.call hb2)
    obtain ⟨p0, p1, p2, p3, p4, p5, p6, p7⟩ := X2.out
    go_wp2_with fail
    refine (cR _).mono ?_; rintro e w3 ⟨rfl, hb3⟩
    have B3 := Lib.hid (B2.out.trans (hb3.mono B2.out.size))
    clear p0 p1 p2 p3 p4 p5 p6 p7
    have X3 := Lib.hid (X2.out.call hb3)
    obtain ⟨p0, p1, p2, p3, p4, p5, p6, p7⟩ := X3.out
    go_wp2_with fail
    go_ret
    exact ⟨ret_int HN.out.symm, B3.out⟩
  have e4' : (x.m.size : Int) ≤ 24 := by omega
  cases hP : plB x.m.data.toList
  · have HN : Hid (chkS x = 11) := Lib.hid (by unfold chkS; rw [if_neg e1, if_neg e2, if_neg e3, if_neg e4, if_pos hP])
    rw [hP] at cP
    clear e4
    go_enter Tryd.func11, Tryd.ntmps11
    go_wp2_with fail
    refine (cK _).mono ?_; rintro e w1 ⟨rfl, hb1⟩
    have B1 := Lib.hid (((Below.refl _ w).alloc (Nat.le_refl _) _).trans (hb1.mono (by simp)))
    have X1 := Lib.hid ((Bx8.new w x).call hb1)
    obtain ⟨p0, p1, p2, p3, p4, p5, p6, p7⟩ := X1.out
    go_wp2_with fail
    refine (cM _).mono ?_; rintro e w2 ⟨rfl, hb2⟩
    have B2 := Lib.hid (B1.out.trans (hb2.mono B1.out.size))
    clear p0 p1 p2 p3 p4 p5 p6 p7
    have X2 := Lib.hid (X1.out.call hb2)
    obtain ⟨p0, p1, p2, p3, p4, p5, p6, p7⟩ := X2.out
    go_wp2_with fail
    refine (cR _).mono ?_; rintro e w3 ⟨rfl, hb3⟩
    have B3 := Lib.hid (B2.out.trans (hb3.mono B2.out.size))
    clear p0 p1 p2 p3 p4 p5 p6 p7
    have X3 := Lib.hid (X2.out.call hb3)
    obtain ⟨p0, p1, p2, p3, p4, p5, p6, p7⟩ := X3.out
    go_wp2_with fail
    refine (cP.out _ B3.out).mono ?_; rintro e w4 ⟨rfl, hb4⟩
    have B4 := Lib.hid (B3.out.trans (hb4.mono B3.out.size))
    clear p0 p1 p2 p3 p4 p5 p6 p7
    have X4 := Lib.hid (X3.out.call hb4)
    obtain ⟨p0, p1, p2, p3, p4, p5, p6, p7⟩ := X4.out
    go_wp2_with fail
    go_ret
    exact ⟨ret_int HN.out.symm, B4.out⟩
  rw [hP] at cP
  have e5 : ¬ plB x.m.data.toList = false := by rw [hP]; decide
  cases hH : hasC x.k.toNat .lu
  · have HN : Hid (chkS x = resE x.r) := Lib.hid (by unfold chkS; rw [if_neg e1, if_neg e2, if_neg e3, if_neg e4, if_neg e5, hH, Bool.false_and, if_neg (by decide)])
    rw [hH] at cH
    clear e4
    go_enter Tryd.func11, Tryd.ntmps11
    go_wp2_with fail
    refine (cK _).mono ?_; rintro e w1 ⟨rfl, hb1⟩
    have B1 := Lib.hid (((Below.refl _ w).alloc (Nat.le_refl _) _).trans (hb1.mono (by simp)))
    have X1 := Lib.hid ((Bx8.new w x).call hb1)
    obtain ⟨p0, p1, p2, p3, p4, p5, p6, p7⟩ := X1.out
    go_wp2_with fail
    refine (cM _).mono ?_; rintro e w2 ⟨rfl, hb2⟩
    have B2 := Lib.hid (B1.out.trans (hb2.mono B1.out.size))
    clear p0 p1 p2 p3 p4 p5 p6 p7
    have X2 := Lib.hid (X1.out.call hb2)
    obtain ⟨p0, p1, p2, p3, p4, p5, p6, p7⟩ := X2.out
    go_wp2_with fail
    refine (cR _).mono ?_; rintro e w3 ⟨rfl, hb3⟩
    have B3 := Lib.hid (B2.out.trans (hb3.mono B2.out.size))
    clear p0 p1 p2 p3 p4 p5 p6 p7
    have X3 := Lib.hid (X2.out.call hb3)
    obtain ⟨p0, p1, p2, p3, p4, p5, p6, p7⟩ := X3.out
    go_wp2_with fail
    refine (cP.out _ B3.out).mono ?_; rintro e w4 ⟨rfl, hb4⟩
    have B4 := Lib.hid (B3.out.trans (hb4.mono B3.out.size))
    clear p0 p1 p2 p3 p4 p5 p6 p7
    have X4 := Lib.hid (X3.out.call hb4)
    obtain ⟨p0, p1, p2, p3, p4, p5, p6, p7⟩ := X4.out
    go_wp2_with fail
    refine (cH _).mono ?_; rintro e w5 ⟨rfl, hb5⟩
    have B5 := Lib.hid (B4.out.trans (hb5.mono B4.out.size))
    clear p0 p1 p2 p3 p4 p5 p6 p7
    have X5 := Lib.hid (X4.out.call hb5)
    obtain ⟨p0, p1, p2, p3, p4, p5, p6, p7⟩ := X5.out
    go_wp2_with fail
    refine (cE.out _ B5.out).mono ?_; rintro e w7 ⟨rfl, hb7⟩
    have B7 := Lib.hid (B5.out.trans (hb7.mono B5.out.size))
    clear p0 p1 p2 p3 p4 p5 p6 p7
    have X7 := Lib.hid (X5.out.call hb7)
    obtain ⟨p0, p1, p2, p3, p4, p5, p6, p7⟩ := X7.out
    go_wp2_with fail
    go_ret
    exact ⟨ret_int HN.out.symm, B7.out⟩
  rw [hH] at cH
  cases hB : isB x.u
  · have HN : Hid (chkS x = 11) := Lib.hid (by unfold chkS; rw [if_neg e1, if_neg e2, if_neg e3, if_neg e4, if_neg e5, hH, hB, if_pos (by decide)])
    rw [hB] at cB
    clear e4
    go_enter Tryd.func11, Tryd.ntmps11
    go_wp2_with fail
    refine (cK _).mono ?_; rintro e w1 ⟨rfl, hb1⟩
    have B1 := Lib.hid (((Below.refl _ w).alloc (Nat.le_refl _) _).trans (hb1.mono (by simp)))
    have X1 := Lib.hid ((Bx8.new w x).call hb1)
    obtain ⟨p0, p1, p2, p3, p4, p5, p6, p7⟩ := X1.out
    go_wp2_with fail
    refine (cM _).mono ?_; rintro e w2 ⟨rfl, hb2⟩
    have B2 := Lib.hid (B1.out.trans (hb2.mono B1.out.size))
    clear p0 p1 p2 p3 p4 p5 p6 p7
    have X2 := Lib.hid (X1.out.call hb2)
    obtain ⟨p0, p1, p2, p3, p4, p5, p6, p7⟩ := X2.out
    go_wp2_with fail
    refine (cR _).mono ?_; rintro e w3 ⟨rfl, hb3⟩
    have B3 := Lib.hid (B2.out.trans (hb3.mono B2.out.size))
    clear p0 p1 p2 p3 p4 p5 p6 p7
    have X3 := Lib.hid (X2.out.call hb3)
    obtain ⟨p0, p1, p2, p3, p4, p5, p6, p7⟩ := X3.out
    go_wp2_with fail
    refine (cP.out _ B3.out).mono ?_; rintro e w4 ⟨rfl, hb4⟩
    have B4 := Lib.hid (B3.out.trans (hb4.mono B3.out.size))
    clear p0 p1 p2 p3 p4 p5 p6 p7
    have X4 := Lib.hid (X3.out.call hb4)
    obtain ⟨p0, p1, p2, p3, p4, p5, p6, p7⟩ := X4.out
    go_wp2_with fail
    refine (cH _).mono ?_; rintro e w5 ⟨rfl, hb5⟩
    have B5 := Lib.hid (B4.out.trans (hb5.mono B4.out.size))
    clear p0 p1 p2 p3 p4 p5 p6 p7
    have X5 := Lib.hid (X4.out.call hb5)
    obtain ⟨p0, p1, p2, p3, p4, p5, p6, p7⟩ := X5.out
    go_wp2_with fail
    refine (cB.out _ B5.out).mono ?_; rintro e w6 ⟨rfl, hb6⟩
    have B6 := Lib.hid (B5.out.trans (hb6.mono B5.out.size))
    clear p0 p1 p2 p3 p4 p5 p6 p7
    have X6 := Lib.hid (X5.out.call hb6)
    obtain ⟨p0, p1, p2, p3, p4, p5, p6, p7⟩ := X6.out
    go_wp2_with fail
    go_ret
    exact ⟨ret_int HN.out.symm, B6.out⟩
  · have HN : Hid (chkS x = resE x.r) := Lib.hid (by unfold chkS; rw [if_neg e1, if_neg e2, if_neg e3, if_neg e4, if_neg e5, hH, hB, if_neg (by decide)])
    rw [hB] at cB
    clear e4
    go_enter Tryd.func11, Tryd.ntmps11
    go_wp2_with fail
    refine (cK _).mono ?_; rintro e w1 ⟨rfl, hb1⟩
    have B1 := Lib.hid (((Below.refl _ w).alloc (Nat.le_refl _) _).trans (hb1.mono (by simp)))
    have X1 := Lib.hid ((Bx8.new w x).call hb1)
    obtain ⟨p0, p1, p2, p3, p4, p5, p6, p7⟩ := X1.out
    go_wp2_with fail
    refine (cM _).mono ?_; rintro e w2 ⟨rfl, hb2⟩
    have B2 := Lib.hid (B1.out.trans (hb2.mono B1.out.size))
    clear p0 p1 p2 p3 p4 p5 p6 p7
    have X2 := Lib.hid (X1.out.call hb2)
    obtain ⟨p0, p1, p2, p3, p4, p5, p6, p7⟩ := X2.out
    go_wp2_with fail
    refine (cR _).mono ?_; rintro e w3 ⟨rfl, hb3⟩
    have B3 := Lib.hid (B2.out.trans (hb3.mono B2.out.size))
    clear p0 p1 p2 p3 p4 p5 p6 p7
    have X3 := Lib.hid (X2.out.call hb3)
    obtain ⟨p0, p1, p2, p3, p4, p5, p6, p7⟩ := X3.out
    go_wp2_with fail
    refine (cP.out _ B3.out).mono ?_; rintro e w4 ⟨rfl, hb4⟩
    have B4 := Lib.hid (B3.out.trans (hb4.mono B3.out.size))
    clear p0 p1 p2 p3 p4 p5 p6 p7
    have X4 := Lib.hid (X3.out.call hb4)
    obtain ⟨p0, p1, p2, p3, p4, p5, p6, p7⟩ := X4.out
    go_wp2_with fail
    refine (cH _).mono ?_; rintro e w5 ⟨rfl, hb5⟩
    have B5 := Lib.hid (B4.out.trans (hb5.mono B4.out.size))
    clear p0 p1 p2 p3 p4 p5 p6 p7
    have X5 := Lib.hid (X4.out.call hb5)
    obtain ⟨p0, p1, p2, p3, p4, p5, p6, p7⟩ := X5.out
    go_wp2_with fail
    refine (cB.out _ B5.out).mono ?_; rintro e w6 ⟨rfl, hb6⟩
    have B6 := Lib.hid (B5.out.trans (hb6.mono B5.out.size))
    clear p0 p1 p2 p3 p4 p5 p6 p7
    have X6 := Lib.hid (X5.out.call hb6)
    obtain ⟨p0, p1, p2, p3, p4, p5, p6, p7⟩ := X6.out
    go_wp2_with fail
    refine (cE.out _ B6.out).mono ?_; rintro e w7 ⟨rfl, hb7⟩
    have B7 := Lib.hid (B6.out.trans (hb7.mono B6.out.size))
    clear p0 p1 p2 p3 p4 p5 p6 p7
    have X7 := Lib.hid (X6.out.call hb7)
    obtain ⟨p0, p1, p2, p3, p4, p5, p6, p7⟩ := X7.out
    go_wp2_with fail
    go_ret
    exact ⟨ret_int HN.out.symm, B7.out⟩
end Go.Proofs.YtackinamkibmlaaDoor
