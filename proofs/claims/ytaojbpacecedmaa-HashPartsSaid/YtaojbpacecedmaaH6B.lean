/- Layer 6: Mix, Below, Slot and Draw of both. -/
import Derived.Test.YtaojbpacecedmaaH6A
import Derived.Laws.Bits64
import Derived.IntWalk
import Derived.Deep.QuietTactic
import Derived.BigQuiet
namespace Go.Proofs.Ytaojbpacecedmaa
open Go.RowKit
set_option linter.unusedVariables false
set_option linter.unusedSimpArgs false

def mulC1 (n : Nat) : Nat := n * 13787848793156543929 % 18446744073709551616
def mulC2 (n : Nat) : Nat := n * 10723151780598845931 % 18446744073709551616
def xs (s n : Nat) : Nat := n ^^^ n / s
def mixA (n : Nat) : Nat := mulC1 (xs 1073741824 n)
def mixB (n : Nat) : Nat := mulC2 (xs 134217728 n)
def mixN (n : Nat) : Nat := xs 2147483648 (mixB (mixA n))
theorem mixA_lt (n : Nat) : mixA n < 18446744073709551616 := Nat.mod_lt _ (by decide)
theorem mixB_lt (n : Nat) : mixB n < 18446744073709551616 := Nat.mod_lt _ (by decide)
theorem xs_lt (s n : Nat) (hn : n < 18446744073709551616) : xs s n < 18446744073709551616 := by
  have h1 : n < 2 ^ 64 := hn
  exact Nat.xor_lt_two_pow (n := 64) h1 (Nat.lt_of_le_of_lt (Nat.div_le_self _ _) h1)
theorem mixN_lt (n : Nat) : mixN n < 18446744073709551616 := xs_lt _ _ (mixB_lt _)
theorem mixA_eq (n : Nat) (hn : n < 18446744073709551616) :
    IntKind.u64.wrap (bits .xor .u64 (n : Int) ((n : Int) / 1073741824) * 13787848793156543929) = (mixA n : Nat) := mixStep_u64 n 1073741824 13787848793156543929 hn
theorem mixB_eq (n : Nat) (hn : n < 18446744073709551616) :
    IntKind.u64.wrap (bits .xor .u64 (n : Int) ((n : Int) / 134217728) * 10723151780598845931) = (mixB n : Nat) := mixStep_u64 n 134217728 10723151780598845931 hn
theorem mixC_eq (n : Nat) (hn : n < 18446744073709551616) :
    bits .xor .u64 (n : Int) ((n : Int) / 2147483648) = (xs 2147483648 n : Nat) := xorShift_u64 n 2147483648 hn
theorem mix_eq (n : Nat) (hn : n < 18446744073709551616) :
    bits .xor .u64 (IntKind.u64.wrap (bits .xor .u64 (IntKind.u64.wrap (bits .xor .u64 (n : Int) ((n : Int) / 1073741824) * 13787848793156543929)) (IntKind.u64.wrap (bits .xor .u64 (n : Int) ((n : Int) / 1073741824) * 13787848793156543929) / 134217728) * 10723151780598845931))
      (IntKind.u64.wrap (bits .xor .u64 (IntKind.u64.wrap (bits .xor .u64 (n : Int) ((n : Int) / 1073741824) * 13787848793156543929)) (IntKind.u64.wrap (bits .xor .u64 (n : Int) ((n : Int) / 1073741824) * 13787848793156543929) / 134217728) * 10723151780598845931) / 2147483648) = (mixN n : Nat) := by
  rw [mixA_eq n hn, mixB_eq _ (mixA_lt n), mixC_eq _ (mixB_lt _)]; rfl

theorem mix_any (n : Nat) (w : World) (hn : n < 18446744073709551616) :
    Calls Try.prog 19 #[.int .u64 n] w fun e w' => e = .returned (.int .u64 (mixN n : Nat)) ∧ w' = w := by
  have Hn := Lib.hid (mix_eq n hn)
  clear hn
  go_enter Try.func19, Try.ntmps19
  go_wp2
  go_ret
  exact ⟨ret_int Hn.out, rfl⟩
theorem mixD_any (n : Nat) (w : World) (hn : n < 18446744073709551616) :
    Calls Try.prog 20 #[.int .u64 n] w fun e w' => e = .returned (.int .u64 (mixN n : Nat)) ∧ w' = w := by
  have Hn := Lib.hid (mix_eq n hn)
  clear hn
  go_enter Try.func20, Try.ntmps20
  go_wp2
  go_ret
  exact ⟨ret_int Hn.out, rfl⟩

/-- what is told below a number -/
def belowP (n m : Int) : Int := if m < 1 then 0 else n % m
theorem belowP_lo {n m : Int} (h : m < 1) : belowP n m = 0 := by simp [belowP, h]
theorem belowP_hi {n m : Int} (h : 1 ≤ m) : belowP n m = n % m := by
  have : ¬ m < 1 := by omega
  simp [belowP, this]
theorem wrapU {m : Int} (h1 : 1 ≤ m) (h2 : m ≤ 9223372036854775807) : IntKind.u64.wrap m = m := by
  rw [IntKind.wrap_u64]; omega
theorem wrapM {n m : Int} (h1 : 1 ≤ m) (h2 : m ≤ 9223372036854775807) : wrap64 (n % m) = n % m := by
  have := Int.emod_nonneg n (show m ≠ 0 by omega)
  have := Int.emod_lt_of_pos n (show 0 < m by omega)
  exact IntWalk.wrap64_in _ (by omega)
theorem below_any (n : Int) (m : Int) (w : World) (hn : 0 ≤ n) (hm : m ≤ 9223372036854775807) :
    Calls Try.prog 21 #[.int .u64 n, .int .i64 m] w fun e w' => e = .returned (.int .i64 (belowP n m)) ∧ w' = w := by
  by_cases h : m < 1
  · have H := Lib.hid (belowP_lo (n := n) h)
    go_enter Try.func21, Try.ntmps21
    go_wp2
    go_ret
    exact ⟨ret_int H.out.symm, rfl⟩
  · have h1 : 1 ≤ m := by omega
    have H := Lib.hid (belowP_hi (n := n) h1)
    have e1 := wrapU h1 hm
    have e2 := wrapM (n := n) h1 hm
    clear hm
    have h0 : (m == 0) = false := by simpa using (show m ≠ 0 by omega)
    go_enter Try.func21, Try.ntmps21
    go_wp2
    go_ret
    exact ⟨ret_int H.out.symm, rfl⟩
theorem belowD_any (n : Int) (m : Int) (w : World) (hn : 0 ≤ n) (hm : m ≤ 9223372036854775807) :
    Calls Try.prog 22 #[.int .u64 n, .int .i64 m] w fun e w' => e = .returned (.int .i64 (belowP n m)) ∧ w' = w := by
  by_cases h : m < 1
  · have H := Lib.hid (belowP_lo (n := n) h)
    go_enter Try.func22, Try.ntmps22
    go_wp2
    go_ret
    exact ⟨ret_int H.out.symm, rfl⟩
  · have h1 : 1 ≤ m := by omega
    have H := Lib.hid (belowP_hi (n := n) h1)
    have e1 := wrapU h1 hm
    have e2 := wrapM (n := n) h1 hm
    clear hm
    have h0 : (m == 0) = false := by simpa using (show m ≠ 0 by omega)
    go_enter Try.func22, Try.ntmps22
    go_wp2
    go_ret
    exact ⟨ret_int H.out.symm, rfl⟩

theorem slot_any (h m : Int) (w : World) (h0 : 0 ≤ h) (h1 : h < 4294967296) (hm : m ≤ 9223372036854775807) :
    Calls Try.prog 15 #[.int .u32 h, .int .i64 m] w fun e w' => e = .returned (.int .i64 (belowP h m)) ∧ w' = w := by
  have c := fun W => below_any h m W h0 hm
  have e : IntKind.u64.wrap h = h := by rw [IntKind.wrap_u64]; omega
  clear hm h1
  go_enter Try.func15, Try.ntmps15
  go_wp2_with fail
  refine (c _).mono ?_; rintro e w1 ⟨rfl, rfl⟩
  go_wp2_with fail
  go_ret
  exact ⟨rfl, rfl⟩
theorem slotD_any (h m : Int) (w : World) (h0 : 0 ≤ h) (h1 : h < 4294967296) (hm : m ≤ 9223372036854775807) :
    Calls Try.prog 16 #[.int .u32 h, .int .i64 m] w fun e w' => e = .returned (.int .i64 (belowP h m)) ∧ w' = w := by
  have c := fun W => belowD_any h m W h0 hm
  have e : IntKind.u64.wrap h = h := by rw [IntKind.wrap_u64]; omega
  clear hm h1
  go_enter Try.func16, Try.ntmps16
  go_wp2_with fail
  refine (c _).mono ?_; rintro e w1 ⟨rfl, rfl⟩
  go_wp2_with fail
  go_ret
  exact ⟨rfl, rfl⟩

def nextN (n : Nat) : Nat := (n + 11400714819323198485) % 18446744073709551616
theorem nextN_lt (n : Nat) : nextN n < 18446744073709551616 := Nat.mod_lt _ (by decide)
theorem nextN_eq (n : Nat) : IntKind.u64.wrap ((n : Int) + 11400714819323198485) = (nextN n : Nat) := by
  rw [IntKind.wrap_u64]; unfold nextN; omega
/-- a call that tells v and sets the cell to x -/
def SetsTo (w : World) (b : Nat) (x v : Value) (e : Ending) (w' : World) : Prop := ∃ n, e = .returned v ∧ w' = (w.setCell ⟨b, 0, none⟩ x).drewN n
theorem draw1_any (n : Nat) (b : Nat) (w : World) (hc : w.cell? ⟨b, 0, none⟩ = some (.int .u64 n)) (hf : w.frozen? ⟨b, 0, none⟩ = false) :
    Calls Try.prog 28 #[.pointer (some ⟨b, 0, none⟩)] w (SetsTo w b (.int .u64 (nextN n : Nat)) (.tuple #[.int .u64 (nextN n : Nat), .int .u64 (mixN (nextN n) : Nat)])) := by
  have E := nextN_eq n
  have M := fun W => mix_any (nextN n) W (nextN_lt n)
  go_enter Try.func28, Try.ntmps28
  go_wp2
  go_quiet ((go_at_call 19; exact Calls.quiet_of_same (M _)))
  go_wp2
  go_ret2
  exact ⟨_, rfl, rfl⟩
theorem draws_any (n : Nat) (w : World) :
    Calls Try.prog 27 #[.int .u64 n] w fun e w' => e = .returned (.func (.func 28) #[] #[.pointer (some ⟨w.heap.size, 0, none⟩)]) ∧ w' = w.alloc (.cells #[.int .u64 n] 29) := by
  go_enter Try.func27, Try.ntmps27
  go_wp2
  go_ret
  exact ⟨rfl, rfl⟩
theorem draw_any (n : Nat) (w : World) (hn : n < 18446744073709551616) :
    Calls Try.prog 17 #[.int .u64 n] w fun e w' => e = .returned (.tuple #[.int .u64 (nextN n : Nat), .int .u64 (mixN (nextN n) : Nat)]) ∧ Below w.heap.size w w' := by
  clear hn
  go_enter Try.func17, Try.ntmps17
  go_wp2_with fail
  refine (draws_any _ _).mono ?_; rintro e w1 ⟨rfl, rfl⟩
  go_wp2_with fail
  refine (draw1_any n _ _ (by simp [go_sem]) (by simp [go_sem])).mono ?_; rintro e w1 ⟨nq, rfl, rfl⟩
  go_wp2_with fail
  go_ret2
  exact ⟨rfl, by (repeat (first | (with_reducible exact Below.refl _ _) | ((with_reducible refine below_alloc ?_ ?_ _); · (first | omega | (simp; done) | (simp; omega))) | ((with_reducible refine below_setCell ?_ ?_ _); · (first | omega | (simp; done) | (simp; omega))) | (with_reducible refine Below.drew ?_) | (with_reducible refine below_drewN ?_ _) | ((with_reducible refine below_call (by assumption) ?_ ?_); · (first | omega | (simp; done) | (simp; omega)))))⟩
theorem drawD_any (n : Nat) (w : World) (hn : n < 18446744073709551616) :
    Calls Try.prog 18 #[.int .u64 n] w fun e w' => e = .returned (.tuple #[.int .u64 (nextN n : Nat), .int .u64 (mixN (nextN n) : Nat)]) ∧ w' = w := by
  have E := nextN_eq n
  have M := fun W => mixD_any (nextN n) W (nextN_lt n)
  clear hn
  go_enter Try.func18, Try.ntmps18
  go_wp2_with fail
  refine (M _).mono ?_; rintro e w1 ⟨rfl, rfl⟩
  go_wp2_with fail
  go_ret2
  exact ⟨rfl, rfl⟩
end Go.Proofs.Ytaojbpacecedmaa
