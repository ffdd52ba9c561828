/- Layer 9, the document's: an address's text; a bare one; with a resource. -/
import Derived.Test.YtackinamkibmlaaDoorA9D
namespace Go.Proofs.YtackinamkibmlaaDoor
open Go.RowKit
set_option linter.unusedVariables false
set_option linter.unusedSimpArgs false

/-- an address's text -/
def joinT (n h r : ByteArray) : ByteArray := if r.size = 0 then n ++ ⟨#[64]⟩ ++ h else n ++ ⟨#[64]⟩ ++ h ++ ⟨#[47]⟩ ++ r
/-- what Print tells -/
def priT (n h r : ByteArray) : ByteArray := me (chkA n h r) (joinT n h r)
/-- what Bare tells: its error is that of Parse, or of Print -/
def barE (s : ByteArray) : Int := if parE s = 0 then chkA (nmP s) (hsP s) ⟨#[]⟩ else parE s
def barT (s : ByteArray) : ByteArray := if parE s = 0 then priT (nmP s) (hsP s) ⟨#[]⟩ else ⟨#[]⟩
theorem nmP_size (s : ByteArray) : (nmP s).size ≤ s.size := by
  have h1 := frB_size s
  have h2 := slN_le s
  unfold nmP
  simp
  omega
theorem hsP_size (s : ByteArray) : (hsP s).size ≤ s.size := by
  have h1 := frB_size s
  have h2 := slN_le s
  unfold hsP
  simp
  omega
theorem rsP_size (s : ByteArray) : (rsP s).size ≤ s.size := by
  unfold rsP
  split
  · simp
  · exact Nat.zero_le _
/-- is a text just what Bare tells of it? -/
def isB (s : ByteArray) : Bool := decide (barE s = 0) && decide (barT s = s)
/-- what Full tells -/
def fulE (s r : ByteArray) : Int := if parE s = 0 then (if (rsP s).size = 0 then (if resE r = 0 then chkA (nmP s) (hsP s) r else resE r) else 4) else parE s
def fulT (s r : ByteArray) : ByteArray := if parE s = 0 then (if (rsP s).size = 0 then (if resE r = 0 then priT (nmP s) (hsP s) r else ⟨#[]⟩) else ⟨#[]⟩) else ⟨#[]⟩
end Go.Proofs.YtackinamkibmlaaDoor
