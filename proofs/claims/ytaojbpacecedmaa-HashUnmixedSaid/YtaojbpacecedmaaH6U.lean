/- Layer 6: a mixed number is turned back. -/
import Derived.Test.YtaojbpacecedmaaH6B
namespace Go.Proofs.Ytaojbpacecedmaa
open Go.RowKit
set_option linter.unusedVariables false
set_option linter.unusedSimpArgs false

/-- the k-th guess of the number whose xs is n -/
def unF (s n : Nat) : Nat → Nat
  | 0 => n
  | k + 1 => n ^^^ unF s n k / s
theorem unF_lt (s n k : Nat) (hn : n < 18446744073709551616) : unF s n k < 18446744073709551616 := by
  have h1 : n < 2 ^ 64 := hn
  cases k with
  | zero => exact hn
  | succ k =>
    have ih := unF_lt s n k hn
    exact Nat.xor_lt_two_pow (n := 64) h1 (Nat.lt_of_le_of_lt (Nat.div_le_self _ _) ih)
theorem un_step (s n k : Nat) (hn : n < 18446744073709551616) : bits .xor .u64 (n : Int) ((unF s n k : Int) / (s : Int)) = (unF s n (k + 1) : Nat) := by
  have d : ((unF s n k : Int) / (s : Int)) = ((unF s n k / s : Nat) : Int) := (Int.natCast_ediv _ _).symm
  rw [d]
  exact bits_xor_u64_nat _ _ hn (Nat.lt_of_le_of_lt (Nat.div_le_self _ _) (unF_lt s n k hn))
theorem xor_div (a b k : Nat) : (a ^^^ b) / 2 ^ k = a / 2 ^ k ^^^ b / 2 ^ k := by
  rw [← Nat.shiftRight_eq_div_pow, ← Nat.shiftRight_eq_div_pow, ← Nat.shiftRight_eq_div_pow, Nat.shiftRight_xor_distrib]
theorem un_xs (x k : Nat) (hk : 22 ≤ k) (hx : x < 18446744073709551616) : unF (2 ^ k) (xs (2 ^ k) x) 3 = x := by
  have e1 : x / 2 ^ k / 2 ^ k / 2 ^ k = 0 := by
    rw [Nat.div_div_eq_div_mul, Nat.div_div_eq_div_mul, ← Nat.pow_add, ← Nat.pow_add]
    apply Nat.div_eq_of_lt
    exact Nat.lt_of_lt_of_le hx (Nat.pow_le_pow_right (n := 2) (i := 64) (by decide) (by omega))
  have e2 : x / 2 ^ k / 2 ^ k / 2 ^ k / 2 ^ k = 0 := by rw [e1]; simp
  unfold xs
  simp only [unF, xor_div, e2, Nat.xor_zero]
  generalize x / 2 ^ k = a at *
  generalize a / 2 ^ k = b at *
  rw [e1]
  generalize a = a, b = b
  simp only [Nat.xor_zero]
  apply Nat.eq_of_testBit_eq
  intro i
  simp only [Nat.testBit_xor]
  cases x.testBit i <;> cases a.testBit i <;> cases b.testBit i <;> rfl
theorem mul_back (c d n : Nat) (hcd : c * d % 18446744073709551616 = 1) (hn : n < 18446744073709551616) : n * c % 18446744073709551616 * d % 18446744073709551616 = n := by
  rw [Nat.mod_mul_mod, Nat.mul_assoc, Nat.mul_mod, hcd, Nat.mul_one, Nat.mod_mod, Nat.mod_eq_of_lt hn]
theorem mixA_back (n : Nat) (hn : n < 18446744073709551616) : IntKind.u64.wrap ((mixA n : Int) * 10871156337175269513) = (xs 1073741824 n : Nat) := by
  have h := mul_back 13787848793156543929 10871156337175269513 (xs 1073741824 n) (by decide) (xs_lt _ _ hn)
  rw [IntKind.wrap_u64]
  exact congrArg (Nat.cast (R := Int)) h
theorem mixB_back (n : Nat) (hn : n < 18446744073709551616) : IntKind.u64.wrap ((mixB n : Int) * 3573116690164977347) = (xs 134217728 n : Nat) := by
  have h := mul_back 10723151780598845931 3573116690164977347 (xs 134217728 n) (by decide) (xs_lt _ _ hn)
  rw [IntKind.wrap_u64]
  exact congrArg (Nat.cast (R := Int)) h

theorem un31_any (n : Nat) (w : World) (hn : n < 18446744073709551616) :
    Calls Try.prog 26 #[.int .u64 n, .int .i64 31] w fun e w' => e = .returned (.int .u64 (unF 2147483648 n 3 : Nat)) ∧ w' = w := by
  have HS := Lib.hid (fun k => un_step 2147483648 n k hn)
  clear hn
  go_enter Try.func26, Try.ntmps26
  go_wp2
  go_loop [5, 6] (fun o i => ∃ k : Nat, k ≤ 3 ∧ i = .int .i64 k ∧ o = .int .u64 (unF 2147483648 n k : Nat)) (fun _ i => 3 - (intOf i).toNat)
  case atStart => exact ⟨0, by omega, rfl, rfl⟩
  case round =>
    obtain ⟨k, hk, rfl, rfl⟩ := hrel
    have h0 : (0 : Int) ≤ (unF 2147483648 n k : Nat) := by omega
    by_cases hlt : k < 3
    · have hlt' : (k : Int) < 3 := by omega
      go_wp2
      go_round
      case rel => exact ⟨k + 1, by omega, by go_num, by rw [← HS.out k]; rfl⟩
      case measure => simp [intOf]; omega
    · obtain rfl : k = 3 := by omega
      go_wp2
      go_ret
      exact ⟨rfl, rfl⟩

theorem un27_any (n : Nat) (w : World) (hn : n < 18446744073709551616) :
    Calls Try.prog 26 #[.int .u64 n, .int .i64 27] w fun e w' => e = .returned (.int .u64 (unF 134217728 n 3 : Nat)) ∧ w' = w := by
  have HS := Lib.hid (fun k => un_step 134217728 n k hn)
  clear hn
  go_enter Try.func26, Try.ntmps26
  go_wp2
  go_loop [5, 6] (fun o i => ∃ k : Nat, k ≤ 3 ∧ i = .int .i64 k ∧ o = .int .u64 (unF 134217728 n k : Nat)) (fun _ i => 3 - (intOf i).toNat)
  case atStart => exact ⟨0, by omega, rfl, rfl⟩
  case round =>
    obtain ⟨k, hk, rfl, rfl⟩ := hrel
    have h0 : (0 : Int) ≤ (unF 134217728 n k : Nat) := by omega
    by_cases hlt : k < 3
    · have hlt' : (k : Int) < 3 := by omega
      go_wp2
      go_round
      case rel => exact ⟨k + 1, by omega, by go_num, by rw [← HS.out k]; rfl⟩
      case measure => simp [intOf]; omega
    · obtain rfl : k = 3 := by omega
      go_wp2
      go_ret
      exact ⟨rfl, rfl⟩

theorem un30_any (n : Nat) (w : World) (hn : n < 18446744073709551616) :
    Calls Try.prog 26 #[.int .u64 n, .int .i64 30] w fun e w' => e = .returned (.int .u64 (unF 1073741824 n 3 : Nat)) ∧ w' = w := by
  have HS := Lib.hid (fun k => un_step 1073741824 n k hn)
  clear hn
  go_enter Try.func26, Try.ntmps26
  go_wp2
  go_loop [5, 6] (fun o i => ∃ k : Nat, k ≤ 3 ∧ i = .int .i64 k ∧ o = .int .u64 (unF 1073741824 n k : Nat)) (fun _ i => 3 - (intOf i).toNat)
  case atStart => exact ⟨0, by omega, rfl, rfl⟩
  case round =>
    obtain ⟨k, hk, rfl, rfl⟩ := hrel
    have h0 : (0 : Int) ≤ (unF 1073741824 n k : Nat) := by omega
    by_cases hlt : k < 3
    · have hlt' : (k : Int) < 3 := by omega
      go_wp2
      go_round
      case rel => exact ⟨k + 1, by omega, by go_num, by rw [← HS.out k]; rfl⟩
      case measure => simp [intOf]; omega
    · obtain rfl : k = 3 := by omega
      go_wp2
      go_ret
      exact ⟨rfl, rfl⟩

theorem turn31 (n : Nat) (w : World) (hn : n < 18446744073709551616) :
    Calls Try.prog 26 #[.int .u64 (mixN n : Nat), .int .i64 31] w fun e w' => e = .returned (.int .u64 (mixB (mixA n) : Nat)) ∧ w' = w := by
  have h := un31_any (mixN n) w (mixN_lt n)
  have e : unF 2147483648 (mixN n) 3 = mixB (mixA n) := un_xs _ 31 (by decide) (mixB_lt _)
  rw [e] at h; exact h
theorem turn27 (n : Nat) (w : World) (hn : n < 18446744073709551616) :
    Calls Try.prog 26 #[.int .u64 (xs 134217728 (mixA n) : Nat), .int .i64 27] w fun e w' => e = .returned (.int .u64 (mixA n : Nat)) ∧ w' = w := by
  have h := un27_any (xs 134217728 (mixA n)) w (xs_lt _ _ (mixA_lt n))
  have e : unF 134217728 (xs 134217728 (mixA n)) 3 = mixA n := un_xs _ 27 (by decide) (mixA_lt _)
  rw [e] at h; exact h
theorem turn30 (n : Nat) (w : World) (hn : n < 18446744073709551616) :
    Calls Try.prog 26 #[.int .u64 (xs 1073741824 n : Nat), .int .i64 30] w fun e w' => e = .returned (.int .u64 n) ∧ w' = w := by
  have h := un30_any (xs 1073741824 n) w (xs_lt _ _ hn)
  have e : unF 1073741824 (xs 1073741824 n) 3 = n := un_xs _ 30 (by decide) hn
  rw [e] at h; exact h
end Go.Proofs.Ytaojbpacecedmaa
