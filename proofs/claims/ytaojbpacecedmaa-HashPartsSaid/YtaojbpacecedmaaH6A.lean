/- Layer 6: More and Of of both, Pair. -/
import Derived.Test.YtaojbpacecedmaaKitI
import Derived.Test.YtaojbpacecedmaaSameI
namespace Go.Proofs.Ytaojbpacecedmaa
open Go.RowKit
set_option linter.unusedVariables false
set_option linter.unusedSimpArgs false

/-- one byte's step -/
def stp (h c : Int) : Int := bits .xor .u32 h (c % 4294967296) * 16777619 % 4294967296
def moreL (h : Int) (l : List UInt8) : Int := l.foldl (fun h c => stp h (c.toNat : Int)) h
theorem moreL_snoc (h : Int) (l : List UInt8) (c : UInt8) : moreL h (l ++ [c]) = stp (moreL h l) (c.toNat : Int) := by
  unfold moreL; rw [List.foldl_append]; rfl
theorem moreL_append (h : Int) (l m : List UInt8) : moreL h (l ++ m) = moreL (moreL h l) m := by
  unfold moreL; rw [List.foldl_append]
theorem take_snoc (s : ByteArray) (k : Nat) (h : k < s.size) : s.data.toList.take (k + 1) = s.data.toList.take k ++ [s[k]] := by
  rw [List.take_succ_eq_append_getElem (by simpa using h)]; rfl
theorem stp_bd (h c : Int) : 0 ≤ stp h c ∧ stp h c < 4294967296 :=
  ⟨Int.emod_nonneg _ (by decide), Int.emod_lt_of_pos _ (by decide)⟩
theorem moreL_bd (h : Int) (l : List UInt8) (h0 : 0 ≤ h) (h1 : h < 4294967296) : 0 ≤ moreL h l ∧ moreL h l < 4294967296 := by
  induction l generalizing h with
  | nil => exact ⟨h0, h1⟩
  | cons c l ih => exact ih _ (stp_bd _ _).1 (stp_bd _ _).2

set_option maxHeartbeats 400000 in
theorem more_any (h : Int) (s : ByteArray) (w : World) (hs : s.size ≤ maxLen) :
    Calls Try.prog 11 #[.int .u32 h, .string s] w fun e w' => e = .returned (.int .u32 (moreL h s.data.toList)) ∧ w' = w := by
  unfold maxLen at hs
  go_enter Try.func11, Try.ntmps11
  go_wp2
  go_loop [0, 8] (fun x i => ∃ k : Nat, k ≤ s.size ∧ i = .int .i64 k ∧ x = .int .u32 (moreL h (s.data.toList.take k))) (fun _ i => s.size - (intOf i).toNat)
  case atStart => exact ⟨0, Nat.zero_le _, rfl, rfl⟩
  case round =>
    obtain ⟨k, hk, rfl, rfl⟩ := hrel
    by_cases hlt : k < s.size
    · have HS : Hid (moreL h (s.data.toList.take (k + 1)) = stp (moreL h (s.data.toList.take k)) (s[k].toNat : Int)) := by rw [take_snoc s k hlt]; exact moreL_snoc _ _ _
      go_wp2
      go_round
      case rel => exact ⟨k + 1, by omega, by go_num, by rw [HS.out, stp]⟩
      case measure => simp [intOf]; omega
    · go_wp2
      go_ret
      exact ⟨ret_int (by rw [List.take_of_length_le (by simp; omega)]), rfl⟩
set_option maxHeartbeats 400000 in
theorem moreD_any (h : Int) (s : ByteArray) (w : World) (hs : s.size ≤ maxLen) :
    Calls Try.prog 12 #[.int .u32 h, .string s] w fun e w' => e = .returned (.int .u32 (moreL h s.data.toList)) ∧ w' = w := by
  unfold maxLen at hs
  go_enter Try.func12, Try.ntmps12
  go_wp2
  go_loop [0, 5] (fun x i => ∃ k : Nat, k ≤ s.size ∧ i = .int .i64 k ∧ x = .int .u32 (moreL h (s.data.toList.take k))) (fun _ i => s.size - (intOf i).toNat)
  case atStart => exact ⟨0, Nat.zero_le _, rfl, rfl⟩
  case round =>
    obtain ⟨k, hk, rfl, rfl⟩ := hrel
    by_cases hlt : k < s.size
    · have HS : Hid (moreL h (s.data.toList.take (k + 1)) = stp (moreL h (s.data.toList.take k)) (s[k].toNat : Int)) := by rw [take_snoc s k hlt]; exact moreL_snoc _ _ _
      go_wp2
      go_round
      case rel => exact ⟨k + 1, by omega, by go_num, by rw [HS.out, stp]⟩
      case measure => simp [intOf]; omega
    · go_wp2
      go_ret
      exact ⟨ret_int (by rw [List.take_of_length_le (by simp; omega)]), rfl⟩

def begin0 : Int := 2166136261
def ofL (l : List UInt8) : Int := moreL begin0 l
theorem begin0_bd : 0 ≤ begin0 ∧ begin0 < 4294967296 := by decide
theorem ofL_bd (l : List UInt8) : 0 ≤ ofL l ∧ ofL l < 4294967296 := moreL_bd _ _ begin0_bd.1 begin0_bd.2
theorem more_begin (s : ByteArray) (w : World) (hs : s.size ≤ maxLen) :
    Calls Try.prog 11 #[.int .u32 2166136261, .string s] w fun e w' => e = .returned (.int .u32 (ofL s.data.toList)) ∧ w' = w := more_any begin0 s w hs
theorem moreD_begin (s : ByteArray) (w : World) (hs : s.size ≤ maxLen) :
    Calls Try.prog 12 #[.int .u32 2166136261, .string s] w fun e w' => e = .returned (.int .u32 (ofL s.data.toList)) ∧ w' = w := moreD_any begin0 s w hs
theorem of_any (s : ByteArray) (w : World) (hs : s.size ≤ maxLen) :
    Calls Try.prog 9 #[.string s] w fun e w' => e = .returned (.int .u32 (ofL s.data.toList)) ∧ w' = w := by
  go_enter Try.func9, Try.ntmps9
  go_wp2_with (go_at_call 11; refine (more_begin _ _ hs).mono ?_; rintro e w1 ⟨rfl, rfl⟩)
  go_ret
  exact ⟨rfl, rfl⟩
theorem ofD_any (s : ByteArray) (w : World) (hs : s.size ≤ maxLen) :
    Calls Try.prog 10 #[.string s] w fun e w' => e = .returned (.int .u32 (ofL s.data.toList)) ∧ w' = w := by
  go_enter Try.func10, Try.ntmps10
  go_wp2_with (go_at_call 12; refine (moreD_begin _ _ hs).mono ?_; rintro e w1 ⟨rfl, rfl⟩)
  go_ret
  exact ⟨rfl, rfl⟩
/-- two texts' number -/
def pairL (a b : List UInt8) : Int := moreL (moreL (ofL a) [0]) b
theorem pair_any (a b : ByteArray) (w : World) (ha : a.size ≤ maxLen) (hb : b.size ≤ maxLen) :
    Calls Try.prog 13 #[.string a, .string b] w fun e w' => e = .returned (.int .u32 (pairL a.data.toList b.data.toList)) ∧ w' = w := by
  have c2 := fun h W => more_any h ⟨#[0]⟩ W (by decide)
  go_enter Try.func13, Try.ntmps13
  go_wp2_with fail
  refine (of_any _ _ ha).mono ?_; rintro e w1 ⟨rfl, rfl⟩
  go_wp2_with fail
  refine (c2 _ _).mono ?_; rintro e w1 ⟨rfl, rfl⟩
  go_wp2_with fail
  refine (more_any _ _ _ hb).mono ?_; rintro e w1 ⟨rfl, rfl⟩
  go_wp2_with fail
  go_ret
  exact ⟨rfl, rfl⟩
theorem pairD_any (a b : ByteArray) (w : World) (ha : a.size ≤ 300) (hb : b.size ≤ 300) :
    Calls Try.prog 14 #[.string a, .string b] w fun e w' => e = .returned (.int .u32 (pairL a.data.toList b.data.toList)) ∧ w' = w := by
  have hs : (a ++ ⟨#[0]⟩ ++ b : ByteArray).size ≤ maxLen := by
    have e : (⟨#[0]⟩ : ByteArray).size = 1 := rfl
    rw [ByteArray.size_append, ByteArray.size_append, e]; unfold maxLen; omega
  have he : ofL (a ++ ⟨#[0]⟩ ++ b : ByteArray).data.toList = pairL a.data.toList b.data.toList := by
    rw [ByteArray.data_append, ByteArray.data_append, Array.toList_append, Array.toList_append]
    unfold ofL pairL
    rw [moreL_append, moreL_append]; rfl
  have c := fun W => ofD_any _ W hs
  rw [he] at c
  clear hs he
  go_enter Try.func14, Try.ntmps14
  go_wp2_with fail
  refine (c _).mono ?_; rintro e w1 ⟨rfl, rfl⟩
  go_wp2_with fail
  go_ret
  exact ⟨rfl, rfl⟩
end Go.Proofs.Ytaojbpacecedmaa
