/- Layer 9, the document's: whether an address, and a resource, may be. -/
import Derived.Test.YtackinamkibmlaaDoorA9B
import Derived.Test.YtackinamkibmlaaDoorKitE
namespace Go.Proofs.YtackinamkibmlaaDoor
open Go.RowKit
set_option linter.unusedVariables false
set_option linter.unusedSimpArgs false

/-- an address's value -/
abbrev adV (n h r : ByteArray) : Value := .agg #[.string n, .string h, .string r]
/-- block b holds these three texts -/
def Bx3 (w : World) (b : Nat) (n h r : ByteArray) : Prop := w.cell? ⟨b, 0, none⟩ = some (.string n) ∧ w.cell? ⟨b, 1, none⟩ = some (.string h) ∧ w.cell? ⟨b, 2, none⟩ = some (.string r)
theorem Bx3.lt {w : World} {b : Nat} {n h r : ByteArray} (H : Bx3 w b n h r) : b < w.heap.size := World.block_lt_of_cell? _ _ H.1
theorem Bx3.call {W w1 : World} {b : Nat} {n h r : ByteArray} (H : Bx3 W b n h r) (hb : Below W.heap.size W w1) : Bx3 w1 b n h r := by
  have hl := H.lt
  have k := fun o => hb.cell (p := ⟨b, o, none⟩) hl
  exact ⟨(k 0).trans H.1, (k 1).trans H.2.1, (k 2).trans H.2.2⟩
def longB (n h r : ByteArray) : Bool := decide (16 < n.size) || (decide (16 < h.size) || decide (12 < r.size))
def noneB (n h : ByteArray) : Bool := decide (n.size = 0) || decide (h.size = 0)
def txtB (n h r : ByteArray) : Bool := nameB n.data.toList && (hostB h.data.toList && plB r.data.toList)
/-- what Check tells -/
def chkA (n h r : ByteArray) : Int := if longB n h r = true then 5 else if noneB n h = true then 4 else if txtB n h r = true then 0 else 11
/-- what Resource tells -/
def resE (r : ByteArray) : Int := if 12 < r.size then 5 else if plB r.data.toList = true then 0 else 11
end Go.Proofs.YtackinamkibmlaaDoor
