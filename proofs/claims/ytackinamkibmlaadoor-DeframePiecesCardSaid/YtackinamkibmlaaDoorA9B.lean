/- Layer 9, the document's: what may be a host. -/
import Derived.Test.YtackinamkibmlaaDoorA9A
namespace Go.Proofs.YtackinamkibmlaaDoor
open Go.RowKit
set_option linter.unusedVariables false
set_option linter.unusedSimpArgs false

/-- may a byte not stand at the k-th place of n, behind another one? -/
def hsBad (n k : Nat) (x p : UInt8) : Bool := (!ltB x && (decide (k = 0 ∨ k + 1 = n) || (decide (x.toNat ≠ 45) && decide (x.toNat ≠ 46)))) || (decide (0 < k) && (decide (x.toNat = 46) && decide (p.toNat = 46)))
def hostB (l : List UInt8) : Bool := (List.range l.length).all fun k => !hsBad l.length k (l.getD k 0) (l.getD (k - 1) 0)
theorem getD_list (s : ByteArray) (k : Nat) (h : k < s.size) : s.data.toList.getD k 0 = s[k]'h := by
  rw [← at_list s k h]
  simp [List.getD, List.getElem?_eq_getElem (show k < s.data.toList.length by rw [← sz_list]; exact h)]
theorem hostB_no {s : ByteArray} {k : Nat} (hk : k < s.size) (h : hsBad s.size k (s[k]'hk) (s[k - 1]'(by omega)) = true) : hostB s.data.toList = false := by
  unfold hostB
  rw [List.all_eq_false]
  refine ⟨k, List.mem_range.2 (by rw [← sz_list]; exact hk), ?_⟩
  rw [← sz_list, getD_list s k hk, getD_list s (k - 1) (by omega), h]
  decide
theorem hostB_all {s : ByteArray} (h : ∀ k (hk : k < s.size), hsBad s.size k (s[k]'hk) (s[k - 1]'(by omega)) = false) : hostB s.data.toList = true := by
  unfold hostB
  rw [List.all_eq_true]
  intro k hk
  have hk' : k < s.size := by rw [sz_list]; exact List.mem_range.1 hk
  rw [← sz_list, getD_list s k hk', getD_list s (k - 1) (by omega), h k hk']
  decide
theorem ltB_no46 {x : UInt8} (h : ltB x = true) : x.toNat ≠ 46 ∧ x.toNat ≠ 45 := by
  unfold ltB at h
  rw [decide_eq_true_iff] at h
  omega
end Go.Proofs.YtackinamkibmlaaDoor
