/- Contracts of layer 2: what is a character, a control; the first character of a text; a character's bytes. -/
import Derived.Test.YtackinamkibmlaaDoorKitS
import Derived.Test.YtackinamkibmlaaDoorUMath
import Derived.Test.YtackinamkibmlaaDoorShelf
import Derived.Lib.Hide
import Derived.IntWalk
import Derived.Deep.QuietTactic
import Derived.BigQuiet
namespace Go.Proofs.YtackinamkibmlaaDoor
open Go.RowKit
open Go.Lib (byteCells)
set_option linter.unusedVariables false
set_option linter.unusedSimpArgs false

/-- the two tables of the library's, as their text lays them -/
abbrev Tabs (w : World) : Prop := Lib.Utf8Tabs 1 2 w
theorem Tabs.call {w w' : World} (h : Tabs w) (hb : Below w.heap.size w w') : Tabs w' := Utf8Tabs_below h hb

def isChB (c : Int) : Bool := decide (0 ≤ c ∧ (c < 55296 ∨ 57343 < c) ∧ c ≤ 1114111)
def isCtB (c : Int) : Bool := decide (c < 32 ∨ c = 127)
theorem isChB_of (c : Int) (h : isChB c = true) : 0 ≤ c ∧ isCh c.toNat ∧ (c.toNat : Int) = c ∧ c ≤ 1114111 := by
  simp only [isChB, decide_eq_true_eq] at h; unfold isCh; omega
theorem isChB_no (c : Int) (h : isChB c = false) : ¬ (0 ≤ c ∧ isCh c.toNat) := by
  simp only [isChB, decide_eq_false_iff_not] at h; unfold isCh; omega
theorem isChB_nat (n : Nat) (h : isCh n) : isChB n = true := by simp only [isChB, decide_eq_true_eq]; unfold isCh at h; omega

theorem control_any (c : Int) (w : World) : Calls Tryd.prog 40 #[.int .i64 c] w fun e w' => e = .returned (.bool (isCtB c)) ∧ w = w' := by
  by_cases h1 : c < 32
  · go_enter Tryd.func40, Tryd.ntmps40
    go_wp2
    go_ret
    exact ⟨ret_bool (by simp [isCtB]; omega), rfl⟩
  · go_enter Tryd.func40, Tryd.ntmps40
    go_wp2
    go_ret
    exact ⟨ret_bool (by simp only [isCtB]; rw [Bool.eq_iff_iff]; simp; omega), rfl⟩

theorem get_bt (s : ByteArray) (k : Nat) : (s.get! k).toNat = bt s.data.toList k := by
  unfold bt
  congr 1
  cases s with
  | mk d =>
    show d[k]! = _
    by_cases h : k < d.size
    · rw [getElem!_pos d k h]; simp [List.getD, h]
    · rw [getElem!_neg d k h]; simp [List.getD, h]; rfl
theorem dec_go (s : ByteArray) : Lib.decodeGo s = dec s.data.toList := by
  unfold Lib.decodeGo dec
  have hz : s.size = s.data.toList.length := by cases s; simp [ByteArray.size]
  by_cases h : s.size = 0
  · rw [if_pos h, if_pos (by omega)]
  · rw [if_neg h, if_neg (by omega), Lib.decode_at, get_bt, get_bt, get_bt, get_bt, Nat.sub_zero, hz]
theorem dec_bd (l : List UInt8) : (dec l).1 ≤ 1114111 ∧ (dec l).2 ≤ 4 := by
  by_cases h : (dec l).1 = 65533 ∧ (dec l).2 ≤ 1
  · omega
  · have := dec_inv l h
    unfold isCh at this; omega

set_option maxHeartbeats 1000000 in
theorem next_any (s : ByteArray) (w : World) (hT : Tabs w) :
    Calls Tryd.prog 61 #[.string s] w fun e w' => e = .returned (.tuple #[.int .i64 (nxtC s.data.toList), .int .i64 (nxtK s.data.toList)]) ∧ Below w.heap.size w w' := by
  have hc := Tryd.utf8_DecodeRuneInString s w hT
  rw [dec_go] at hc
  unfold nxtC nxtK
  have hbd := dec_bd s.data.toList
  obtain ⟨R, hR⟩ : ∃ R, (dec s.data.toList).1 = R := ⟨_, rfl⟩
  obtain ⟨K, hK⟩ : ∃ K, (dec s.data.toList).2 = K := ⟨_, rfl⟩
  rw [hR, hK] at hc hbd ⊢
  clear hR hK
  obtain ⟨hR1, hK1⟩ := hbd
  by_cases h1 : R = 65533
  · subst h1
    by_cases h2 : K ≤ 1
    · have h2' : (K : Int) ≤ 1 := by omega
      rw [if_pos ⟨rfl, h2⟩]
      clear h2
      go_enter Tryd.func61, Tryd.ntmps61
      go_wp2_with (go_at_call 69; refine hc.mono ?_; rintro e w1 ⟨rfl, hb1⟩)
      go_ret2
      exact ⟨rfl, hb1⟩
    · have h2' : (1 : Int) < K := by omega
      rw [if_neg (by omega)]
      clear h2
      go_enter Tryd.func61, Tryd.ntmps61
      go_wp2_with (go_at_call 69; refine hc.mono ?_; rintro e w1 ⟨rfl, hb1⟩)
      go_ret2
      exact ⟨rfl, hb1⟩
  · have h1' : ((R : Int) == 65533) = false := by simp; omega
    rw [if_neg (by omega)]
    clear h1
    go_enter Tryd.func61, Tryd.ntmps61
    go_wp2_with (go_at_call 69; refine hc.mono ?_; rintro e w1 ⟨rfl, hb1⟩)
    go_ret2
    exact ⟨rfl, hb1⟩
end Go.Proofs.YtackinamkibmlaaDoor
