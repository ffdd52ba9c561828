/- Layer 3: few; the numbers of awake. -/
import Derived.Test.YtmnlpmfkoammhaaP3Q
namespace Go.Proofs.Ytmnlpmfkoammhaa
open Go.RowKit
set_option linter.unusedVariables false
set_option linter.unusedSimpArgs false

def fewB (st : St) : Bool := decide (st.1.length ≤ 70) && decide (st.2.length ≤ 70)
theorem few_any (vc vf : Value) (st : St) (w : World) (hv : IsSt w vc vf st) :
    Calls Try.prog 7 #[.agg #[vc, vf]] w fun e w' => e = .returned (.bool (fewB st)) ∧ Below w.heap.size w w' := by
  obtain ⟨l, fr⟩ := st
  obtain ⟨⟨pc, cc, rfl, hp⟩, ⟨pf, cf, rfl, hq⟩⟩ := hv
  clear hp hq
  by_cases h1 : l.length ≤ 70
  · have h1' : (l.length : Int) ≤ 70 := by omega
    by_cases h2 : fr.length ≤ 70
    · have h2' : (fr.length : Int) ≤ 70 := by omega
      have HN : Hid (fewB (l, fr) = true) := Lib.hid (by simp [fewB, h1, h2])
      clear h1 h2
      go_enter Try.func7, Try.ntmps7
      go_wp2
      go_ret
      exact ⟨ret_bool HN.out.symm, by (repeat (first | (with_reducible exact Below.refl _ _) | ((with_reducible refine below_alloc ?_ ?_ _); · (first | omega | (simp; done) | (simp; omega))) | ((with_reducible refine below_setCell ?_ ?_ _); · (first | omega | (simp; done) | (simp; omega))) | (with_reducible refine Below.drew ?_) | (with_reducible refine below_drewN ?_ _) | ((with_reducible refine below_call (by assumption) ?_ ?_); · (first | omega | (simp; done) | (simp; omega)))))⟩
    · have h2' : (70 : Int) < fr.length := by omega
      have HN : Hid (fewB (l, fr) = false) := Lib.hid (by simp [fewB, h1, h2])
      clear h1 h2
      go_enter Try.func7, Try.ntmps7
      go_wp2
      go_ret
      exact ⟨ret_bool (by rw [HN.out]; exact decide_eq_false (by omega)), by (repeat (first | (with_reducible exact Below.refl _ _) | ((with_reducible refine below_alloc ?_ ?_ _); · (first | omega | (simp; done) | (simp; omega))) | ((with_reducible refine below_setCell ?_ ?_ _); · (first | omega | (simp; done) | (simp; omega))) | (with_reducible refine Below.drew ?_) | (with_reducible refine below_drewN ?_ _) | ((with_reducible refine below_call (by assumption) ?_ ?_); · (first | omega | (simp; done) | (simp; omega)))))⟩
  · have h1' : (70 : Int) < l.length := by omega
    have HN : Hid (fewB (l, fr) = false) := Lib.hid (by simp [fewB, h1])
    clear h1
    go_enter Try.func7, Try.ntmps7
    go_wp2
    go_ret
    exact ⟨ret_bool HN.out.symm, by (repeat (first | (with_reducible exact Below.refl _ _) | ((with_reducible refine below_alloc ?_ ?_ _); · (first | omega | (simp; done) | (simp; omega))) | ((with_reducible refine below_setCell ?_ ?_ _); · (first | omega | (simp; done) | (simp; omega))) | (with_reducible refine Below.drew ?_) | (with_reducible refine below_drewN ?_ _) | ((with_reducible refine below_call (by assumption) ?_ ?_); · (first | omega | (simp; done) | (simp; omega)))))⟩
theorem fewB_yes {st : St} (h : fewB st = true) : st.1.length ≤ 70 ∧ st.2.length ≤ 70 := by
  unfold fewB at h; simpa using h

/-! The numbers of awake: closed. -/
abbrev awA : St := (newN 2).1
abbrev awB : St := (takeN awA 5).1
abbrev awC : St := (giveN awB 0).1
abbrev awD : St := (takeN awC 7).1
abbrev awW : St := (setN awD 64 9).1
abbrev awX : St := (takeN awW 1).1
theorem aw_all : (newN 2).2 = 0 ∧ (takeN awA 5).2 = (0, 0) ∧ (giveN awB 0).2 = 0 ∧ (takeN awC 7).2 = (64, 0) ∧ (giveN awD 0).2 = 6 ∧ getN awD 64 = (7, true) ∧ getN awD 0 = (0, false) ∧
    (setN awD 64 9).2 = 0 ∧ (takeN awW 1).2 = (1, 0) ∧ (takeN awX 1).2.2 = 7 ∧ hanN awX = [64, 1] ∧ chkN awX = 0 ∧ chkN ([], []) = 5 ∧ sameB awW awX = false := by
  decide +kernel
end Go.Proofs.Ytmnlpmfkoammhaa
