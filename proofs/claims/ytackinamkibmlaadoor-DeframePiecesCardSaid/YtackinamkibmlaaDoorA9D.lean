/- Layer 9, the document's: reading an address. -/
import Derived.Test.YtackinamkibmlaaDoorA9C
import Derived.Deep.RegionHeld3
import Derived.Deep.DeepCutAuto
namespace Go.Proofs.YtackinamkibmlaaDoor
open Go.RowKit
set_option linter.unusedVariables false
set_option linter.unusedSimpArgs false

/-- where the first / stands; what is ahead of it, in small letters; where the first @ stands in that -/
def slN (s : ByteArray) : Nat := findL 47 s.data.toList
def frB (s : ByteArray) : ByteArray := ⟨(lowL (s.extract 0 (slN s)).data.toList).toArray⟩
def atN (s : ByteArray) : Nat := findL 64 (frB s).data.toList
/-- the three parts -/
def nmP (s : ByteArray) : ByteArray := (frB s).extract 0 (atN s)
def hsP (s : ByteArray) : ByteArray := (frB s).extract (atN s + 1) (frB s).size
def rsP (s : ByteArray) : ByteArray := if slN s < s.size then s.extract (slN s + 1) s.size else ⟨#[]⟩
def formB (s : ByteArray) : Bool := decide (atN s = (frB s).size) || decide (slN s + 1 = s.size)
/-- what Parse tells: its error; its parts, if there is none -/
def parE (s : ByteArray) : Int := if formB s = true then 4 else chkA (nmP s) (hsP s) (rsP s)
def me (E : Int) (s : ByteArray) : ByteArray := if E = 0 then s else ⟨#[]⟩
abbrev parV (s : ByteArray) : Value := adV (me (parE s) (nmP s)) (me (parE s) (hsP s)) (me (parE s) (rsP s))
theorem slN_le (s : ByteArray) : slN s ≤ s.size := by rw [sz_list]; exact findL_le _ _
theorem frB_size (s : ByteArray) : (frB s).size = slN s := by
  unfold frB
  rw [sz_list]
  show (lowL (s.extract 0 (slN s)).data.toList).length = slN s
  rw [lowL_len]
  have := slN_le s
  simp
  omega
theorem atN_le (s : ByteArray) : atN s ≤ (frB s).size := by rw [sz_list]; exact findL_le _ _
theorem me_no {E : Int} (h : ¬ E = 0) (s : ByteArray) : me E s = ⟨#[]⟩ := if_neg h
theorem me_yes (s : ByteArray) : me 0 s = s := if_pos rfl
end Go.Proofs.YtackinamkibmlaaDoor
