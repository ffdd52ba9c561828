/- Layer 8: what a thing costs, which limits and kinds there are: of both. -/
import Derived.Test.YtkohdfmhigejoaaKit
import Derived.LoopN
import Derived.Handy
namespace Go.Proofs.Ytkohdfmhigejoaa
open Go.RowKit
set_option linter.unusedVariables false
set_option linter.unusedSimpArgs false

/-- what a thing of a kind costs -/
def costN (k : Int) : Int := if k = 0 then 8 else if k = 1 then 6 else if k = 2 then 4 else if k = 3 then 3 else if k = 4 then 2 else if k = 5 then 1 else 0
theorem costN_at (k : Int) : (k = 0 ∨ k = 1 ∨ k = 2 ∨ k = 3 ∨ k = 4 ∨ k = 5) ∨ (¬ k = 0 ∧ ¬ k = 1 ∧ ¬ k = 2 ∧ ¬ k = 3 ∧ ¬ k = 4 ∧ ¬ k = 5) := by omega
theorem costN_none {k : Int} (h : ¬ k = 0 ∧ ¬ k = 1 ∧ ¬ k = 2 ∧ ¬ k = 3 ∧ ¬ k = 4 ∧ ¬ k = 5) : costN k = 0 := by
  obtain ⟨h0, h1, h2, h3, h4, h5⟩ := h
  simp [costN, h0, h1, h2, h3, h4, h5]
theorem cost_any (k : Int) (w : World) : Calls Try.prog 26 #[.int .i64 k] w fun e w' => e = .returned (.int .i64 (costN k)) ∧ w' = w := by
  rcases costN_at k with (rfl | rfl | rfl | rfl | rfl | rfl) | hn
  iterate 6
    · go_enter Try.func26, Try.ntmps26
      go_wp2
      go_ret
      exact ⟨rfl, rfl⟩
  have HN : Hid (costN k = 0) := Lib.hid (costN_none hn)
  obtain ⟨h0, h1, h2, h3, h4, h5⟩ := hn
  go_enter Try.func26, Try.ntmps26
  go_wp2
  go_ret
  exact ⟨ret_int HN.out.symm, rfl⟩
theorem costD_any (k : Int) (w : World) : Calls Try.prog 27 #[.int .i64 k] w fun e w' => e = .returned (.int .i64 (costN k)) ∧ w' = w := by
  rcases costN_at k with (rfl | rfl | rfl | rfl | rfl | rfl) | hn
  iterate 6
    · go_enter Try.func27, Try.ntmps27
      go_wp2
      go_ret
      exact ⟨rfl, rfl⟩
  have HN : Hid (costN k = 0) := Lib.hid (costN_none hn)
  obtain ⟨h0, h1, h2, h3, h4, h5⟩ := hn
  go_enter Try.func27, Try.ntmps27
  go_wp2
  go_ret
  exact ⟨ret_int HN.out.symm, rfl⟩

def inB (n a b : Int) : Bool := decide (a ≤ n) && decide (n ≤ b)
theorem inB_iff {n a b : Int} : inB n a b = true ↔ a ≤ n ∧ n ≤ b := by unfold inB; simp
theorem in_any (n a b : Int) (w : World) : Calls Try.prog 30 #[.int .i64 n, .int .i64 a, .int .i64 b] w fun e w' => e = .returned (.bool (inB n a b)) ∧ w' = w := by
  by_cases h1 : a ≤ n
  · have HN : Hid (inB n a b = decide (n ≤ b)) := Lib.hid (by simp [inB, h1])
    go_enter Try.func30, Try.ntmps30
    go_wp2
    go_ret
    exact ⟨ret_bool HN.out.symm, rfl⟩
  · have h1' : n < a := by omega
    have HN : Hid (inB n a b = false) := Lib.hid (by simp [inB, h1])
    clear h1
    go_enter Try.func30, Try.ntmps30
    go_wp2
    go_ret
    exact ⟨ret_bool (by first | exact HN.out.symm | (rw [HN.out]; simp; omega)), rfl⟩
/-- may there be so many cells? -/
def capB (n : Int) : Bool := inB n 1 4096
theorem isCap_any (n : Int) (w : World) : Calls Try.prog 33 #[.int .i64 n] w fun e w' => e = .returned (.bool (capB n)) ∧ w' = w := by
  by_cases h1 : 1 ≤ n
  · have HN : Hid (capB n = decide (n ≤ 4096)) := Lib.hid (by simp [capB, inB, h1])
    go_enter Try.func33, Try.ntmps33
    go_wp2
    go_ret
    exact ⟨ret_bool HN.out.symm, rfl⟩
  · have h1' : n < 1 := by omega
    have HN : Hid (capB n = false) := Lib.hid (by simp [capB, inB, h1])
    clear h1
    go_enter Try.func33, Try.ntmps33
    go_wp2
    go_ret
    exact ⟨ret_bool (by first | exact HN.out.symm | (rw [HN.out]; simp; omega)), rfl⟩
/-- is there such a kind? -/
def kindB (k : Int) : Bool := inB k 0 5
theorem kindB_cost (k : Int) : decide (0 < costN k) = kindB k := by
  rcases costN_at k with (rfl | rfl | rfl | rfl | rfl | rfl) | hn
  iterate 6 · decide
  rw [costN_none hn]
  have : kindB k = false := by
    cases h : kindB k with
    | false => rfl
    | true => obtain ⟨ha, hb⟩ := inB_iff.1 h; omega
  rw [this]; decide
theorem isKind_any (k : Int) (w : World) : Calls Try.prog 34 #[.int .i64 k] w fun e w' => e = .returned (.bool (kindB k)) ∧ w' = w := by
  have HN : Hid (kindB k = decide (0 < costN k)) := Lib.hid (kindB_cost k).symm
  have c := fun W => cost_any k W
  go_enter Try.func34, Try.ntmps34
  go_wp2_with fail
  refine (c _).mono ?_; rintro e w1 ⟨rfl, rfl⟩
  go_wp2_with fail
  go_ret
  exact ⟨ret_bool (by rw [HN.out]), rfl⟩
end Go.Proofs.Ytkohdfmhigejoaa
