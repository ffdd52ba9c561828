/- Layer 7: hash's More, Of, Below and Slot; a key's own slot. -/
import Derived.Test.YtaenbnohkhmnbaaKitI
import Derived.Laws.Bits64
import Derived.IntWalk
import Derived.Deep.QuietTactic
import Derived.BigQuiet
namespace Go.Proofs.Ytaenbnohkhmnbaa
open Go.RowKit
set_option linter.unusedVariables false
set_option linter.unusedSimpArgs false

/-- one byte's step -/
def stp (h c : Int) : Int := bits .xor .u32 h (c % 4294967296) * 16777619 % 4294967296
def moreL (h : Int) (l : List UInt8) : Int := l.foldl (fun h c => stp h (c.toNat : Int)) h
theorem moreL_snoc (h : Int) (l : List UInt8) (c : UInt8) : moreL h (l ++ [c]) = stp (moreL h l) (c.toNat : Int) := by
  unfold moreL; rw [List.foldl_append]; rfl
theorem moreL_append (h : Int) (l m : List UInt8) : moreL h (l ++ m) = moreL (moreL h l) m := by
  unfold moreL; rw [List.foldl_append]
theorem take_snoc (s : ByteArray) (k : Nat) (h : k < s.size) : s.data.toList.take (k + 1) = s.data.toList.take k ++ [s[k]] := by
  rw [List.take_succ_eq_append_getElem (by simpa using h)]; rfl
theorem stp_bd (h c : Int) : 0 ≤ stp h c ∧ stp h c < 4294967296 :=
  ⟨Int.emod_nonneg _ (by decide), Int.emod_lt_of_pos _ (by decide)⟩
theorem moreL_bd (h : Int) (l : List UInt8) (h0 : 0 ≤ h) (h1 : h < 4294967296) : 0 ≤ moreL h l ∧ moreL h l < 4294967296 := by
  induction l generalizing h with
  | nil => exact ⟨h0, h1⟩
  | cons c l ih => exact ih _ (stp_bd _ _).1 (stp_bd _ _).2

set_option maxHeartbeats 400000 in
theorem more_any (h : Int) (s : ByteArray) (w : World) (hs : s.size ≤ maxLen) :
    Calls Try.prog 30 #[.int .u32 h, .string s] w fun e w' => e = .returned (.int .u32 (moreL h s.data.toList)) ∧ w' = w := by
  unfold maxLen at hs
  go_enter Try.func30, Try.ntmps30
  go_wp2
  go_loop [0, 8] (fun x i => ∃ k : Nat, k ≤ s.size ∧ i = .int .i64 k ∧ x = .int .u32 (moreL h (s.data.toList.take k))) (fun _ i => s.size - (intOf i).toNat)
  case atStart => exact ⟨0, Nat.zero_le _, rfl, rfl⟩
  case round =>
    obtain ⟨k, hk, rfl, rfl⟩ := hrel
    by_cases hlt : k < s.size
    · have HS : Hid (moreL h (s.data.toList.take (k + 1)) = stp (moreL h (s.data.toList.take k)) (s[k].toNat : Int)) := by rw [take_snoc s k hlt]; exact moreL_snoc _ _ _
      go_wp2
      go_round
      case rel => exact ⟨k + 1, by omega, by go_num, by rw [HS.out, stp]⟩
      case measure => simp [intOf]; omega
    · go_wp2
      go_ret
      exact ⟨ret_int (by rw [List.take_of_length_le (by simp; omega)]), rfl⟩
def begin0 : Int := 2166136261
def ofL (l : List UInt8) : Int := moreL begin0 l
theorem begin0_bd : 0 ≤ begin0 ∧ begin0 < 4294967296 := by decide
theorem ofL_bd (l : List UInt8) : 0 ≤ ofL l ∧ ofL l < 4294967296 := moreL_bd _ _ begin0_bd.1 begin0_bd.2
theorem more_begin (s : ByteArray) (w : World) (hs : s.size ≤ maxLen) :
    Calls Try.prog 30 #[.int .u32 2166136261, .string s] w fun e w' => e = .returned (.int .u32 (ofL s.data.toList)) ∧ w' = w := more_any begin0 s w hs
theorem of_any (s : ByteArray) (w : World) (hs : s.size ≤ maxLen) :
    Calls Try.prog 16 #[.string s] w fun e w' => e = .returned (.int .u32 (ofL s.data.toList)) ∧ w' = w := by
  go_enter Try.func16, Try.ntmps16
  go_wp2_with (go_at_call 30; refine (more_begin _ _ hs).mono ?_; rintro e w1 ⟨rfl, rfl⟩)
  go_ret
  exact ⟨rfl, rfl⟩
/-- what is told below a number -/
def belowP (n m : Int) : Int := if m < 1 then 0 else n % m
theorem belowP_lo {n m : Int} (h : m < 1) : belowP n m = 0 := by simp [belowP, h]
theorem belowP_hi {n m : Int} (h : 1 ≤ m) : belowP n m = n % m := by
  have : ¬ m < 1 := by omega
  simp [belowP, this]
theorem wrapU {m : Int} (h1 : 1 ≤ m) (h2 : m ≤ 9223372036854775807) : IntKind.u64.wrap m = m := by
  rw [IntKind.wrap_u64]; omega
theorem wrapM {n m : Int} (h1 : 1 ≤ m) (h2 : m ≤ 9223372036854775807) : wrap64 (n % m) = n % m := by
  have := Int.emod_nonneg n (show m ≠ 0 by omega)
  have := Int.emod_lt_of_pos n (show 0 < m by omega)
  exact IntWalk.wrap64_in _ (by omega)
theorem below_any (n : Int) (m : Int) (w : World) (hn : 0 ≤ n) (hm : m ≤ 9223372036854775807) :
    Calls Try.prog 29 #[.int .u64 n, .int .i64 m] w fun e w' => e = .returned (.int .i64 (belowP n m)) ∧ w' = w := by
  by_cases h : m < 1
  · have H := Lib.hid (belowP_lo (n := n) h)
    go_enter Try.func29, Try.ntmps29
    go_wp2
    go_ret
    exact ⟨ret_int H.out.symm, rfl⟩
  · have h1 : 1 ≤ m := by omega
    have H := Lib.hid (belowP_hi (n := n) h1)
    have e1 := wrapU h1 hm
    have e2 := wrapM (n := n) h1 hm
    clear hm
    have h0 : (m == 0) = false := by simpa using (show m ≠ 0 by omega)
    go_enter Try.func29, Try.ntmps29
    go_wp2
    go_ret
    exact ⟨ret_int H.out.symm, rfl⟩
theorem slot_any (h m : Int) (w : World) (h0 : 0 ≤ h) (h1 : h < 4294967296) (hm : m ≤ 9223372036854775807) :
    Calls Try.prog 13 #[.int .u32 h, .int .i64 m] w fun e w' => e = .returned (.int .i64 (belowP h m)) ∧ w' = w := by
  have c := fun W => below_any h m W h0 hm
  have e : IntKind.u64.wrap h = h := by rw [IntKind.wrap_u64]; omega
  clear hm h1
  go_enter Try.func13, Try.ntmps13
  go_wp2_with fail
  refine (c _).mono ?_; rintro e w1 ⟨rfl, rfl⟩
  go_wp2_with fail
  go_ret
  exact ⟨rfl, rfl⟩

/-- a key's own slot of so many -/
def ow (N : Nat) (k : ByteArray) : Nat := (ofL k.data.toList).toNat % N
theorem ow_lt {N : Nat} (h : 0 < N) (k : ByteArray) : ow N k < N := Nat.mod_lt _ h
theorem ow_below (N : Nat) (h : 0 < N) (k : ByteArray) : belowP (ofL k.data.toList) N = (ow N k : Nat) := by
  have h0 := (ofL_bd k.data.toList).1
  rw [belowP_hi (by omega)]
  obtain ⟨n, hn⟩ : ∃ n : Nat, ofL k.data.toList = n := ⟨_, (Int.toNat_of_nonneg h0).symm⟩
  unfold ow
  rw [hn]; simp
theorem slot_own (N : Nat) (k : ByteArray) (w : World) (h : 0 < N) (h2 : N ≤ 256) :
    Calls Try.prog 13 #[.int .u32 (ofL k.data.toList), .int .i64 N] w fun e w' => e = .returned (.int .i64 (ow N k : Nat)) ∧ w' = w := by
  have := slot_any (ofL k.data.toList) N w (ofL_bd _).1 (ofL_bd _).2 (by omega)
  rw [ow_below N h k] at this
  exact this
end Go.Proofs.Ytaenbnohkhmnbaa
