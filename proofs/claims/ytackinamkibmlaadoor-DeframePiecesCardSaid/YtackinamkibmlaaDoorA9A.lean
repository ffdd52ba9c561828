/- Layer 9, the document's: where a byte first stands; what may be a name, and a host. -/
import Derived.Test.YtackinamkibmlaaDoorUFI
namespace Go.Proofs.YtackinamkibmlaaDoor
open Go.RowKit
set_option linter.unusedVariables false
set_option linter.unusedSimpArgs false

/-- where a byte first stands; the length, if it does not -/
def findL (c : Nat) (l : List UInt8) : Nat := l.findIdx fun b => b.toNat == c
theorem findL_le (c : Nat) (l : List UInt8) : findL c l ≤ l.length := List.findIdx_le_length
theorem findL_at {c : Nat} {s : ByteArray} {k : Nat} (hk : k < s.size) (h : (s[k]'hk).toNat = c) (hno : ∀ j (hj : j < s.size), j < k → (s[j]'hj).toNat ≠ c) : findL c s.data.toList = k := by
  have hl : s.size = s.data.toList.length := sz_list s
  unfold findL
  rw [List.findIdx_eq (by omega)]
  refine ⟨by rw [at_list s k hk]; simpa using h, fun j hj => ?_⟩
  have hj' : j < s.size := by omega
  rw [at_list s j hj']
  simpa using hno j hj' hj
theorem findL_none {c : Nat} {s : ByteArray} (hno : ∀ j (hj : j < s.size), (s[j]'hj).toNat ≠ c) : findL c s.data.toList = s.size := by
  have hl : s.size = s.data.toList.length := sz_list s
  unfold findL
  rw [hl, List.findIdx_eq_length]
  intro x hx
  obtain ⟨j, hj, rfl⟩ := List.mem_iff_getElem.1 hx
  have hj' : j < s.size := by omega
  rw [at_list s j hj']
  simpa using hno j hj'
/-- what a text is cut at: no such byte ahead of it; there it is, if it is not the end -/
theorem findL_not {c : Nat} {l : List UInt8} {j : Nat} (h : j < findL c l) (hj : j < l.length) : l[j].toNat ≠ c := by
  have := List.not_of_lt_findIdx (p := fun b : UInt8 => b.toNat == c) (xs := l) h
  simpa using this
theorem findL_is {c : Nat} {l : List UInt8} (h : findL c l < l.length) : (l[findL c l]'h).toNat = c := by
  have := List.findIdx_getElem (p := fun b : UInt8 => b.toNat == c) (xs := l) (w := h)
  exact eq_of_beq this

/-- may a byte stand in a name? -/
def nmOk (b : UInt8) : Bool := decide (b.toNat ≠ 32 ∧ b.toNat ≠ 64 ∧ b.toNat ≠ 47 ∧ (b.toNat < 65 ∨ 90 < b.toNat))
def nameB (l : List UInt8) : Bool := l.all nmOk && plB l
theorem nameB_no {l : List UInt8} {b : UInt8} (hb : b ∈ l) (h : nmOk b = false) : nameB l = false := by
  unfold nameB
  have : l.all nmOk = false := by rw [List.all_eq_false]; exact ⟨b, hb, by simp [h]⟩
  rw [this]; rfl
theorem nameB_all {l : List UInt8} (h : ∀ b ∈ l, nmOk b = true) : nameB l = plB l := by
  unfold nameB
  have : l.all nmOk = true := List.all_eq_true.2 h
  rw [this]; rfl
/-- is a byte a small letter or a digit? -/
def ltB (b : UInt8) : Bool := decide ((97 ≤ b.toNat ∧ b.toNat ≤ 122) ∨ (48 ≤ b.toNat ∧ b.toNat ≤ 57))
end Go.Proofs.YtackinamkibmlaaDoor
