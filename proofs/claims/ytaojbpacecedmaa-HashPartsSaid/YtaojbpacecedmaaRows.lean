/-
  No cell of these rows narrows 'for every input' (looked for: loops, veiled, ifaces, maps, wideKeys, modest, calm, conditions, laid).
  DERIVED. THE GIVEN ROWS OF THIS SEAT. 5 by the template 'for every input the law returns true; each argument reads behind the call as it read before'; 0 by the template 'total and deterministic' (their statements: YtaojbpacecedmaaTotals.lean).
  GIVEN WITH THE SEED: the statements are not yours to turn. If you find one false, say at which input.
  Laid BY PROGRAM, IN A SANDBOX (cutbox-rows.mjs): the forced cells as the released guide's own fill.sh prints them over the translation a776f9d4147107de… (all of the seat's roots in one cut). By AI agents, Wed Nov 11 2026. No macro, syntax, notation, axiom, sorry.
-/
import Derived.Test.YtaojbpacecedmaaChecked
import GoSem.Claim
import GoSem.ClaimJoined
import GoSem.ClaimMapViews
import Derived.JoinedTies
import Derived.KernelRfl
namespace Go.Proofs.Ytaojbpacecedmaa
/- THE CELL 'sum', in the pinned program and in every row, IS THE sha256 OF THE DUMP (.gsa) THAT YtaojbpacecedmaaProg.lean LOADS. Nothing in Lean hashes anything: it is a label: what it is worth is what the hold of that sum in a sandbox is worth. -/
noncomputable def Try.pinned : Pinned := { name := "ytaojbpacecedmaa", sum := "a776f9d4147107de695c134dde28753110b07e944e4dbc2b7a4394d6bfd425fe", checked := Try.checked }
namespace Rows
def none {H : Type} : Left H := { results := [], args := [] }

/-- 'callboylaw06.HashTells': WHATEVER THE INPUT: true; the input reads as it did. -/
def hashTellsSpec : ChangeSpec := { name := "hashTells", fn := fun _ => fun
  | [d1, d2, d3] => { results := [.lit (.bool true)], args := [d1, d2, d3] }
  | _ => none }
def hashTellsRow : OpenClaim := { program := "ytaojbpacecedmaa", sum := "a776f9d4147107de695c134dde28753110b07e944e4dbc2b7a4394d6bfd425fe", func := "callboy/callboylaw06.HashTells", spec := "hashTells", unfollowed := true, recurses := true, apart := false }
def HashTellsSaid : Prop := hashTellsRow.holds Try.pinned (OpenSpec.ofChange hashTellsSpec)

/-- ITS FALSE NEIGHBOUR: 'it returns false'. Refute it at one input. -/
def hashTellsWrong : ChangeSpec := { name := "hashTells", fn := fun _ => fun
  | [d1, d2, d3] => { results := [.lit (.bool false)], args := [d1, d2, d3] }
  | _ => none }
def HashTellsWrongFalsely : Prop := hashTellsRow.holds Try.pinned (OpenSpec.ofChange hashTellsWrong)

/-- 'callboylaw06.HashDraws': WHATEVER THE INPUT: true; the input reads as it did. -/
def hashDrawsSpec : ChangeSpec := { name := "hashDraws", fn := fun _ => fun
  | [d1, d2] => { results := [.lit (.bool true)], args := [d1, d2] }
  | _ => none }
def hashDrawsRow : OpenClaim := { program := "ytaojbpacecedmaa", sum := "a776f9d4147107de695c134dde28753110b07e944e4dbc2b7a4394d6bfd425fe", func := "callboy/callboylaw06.HashDraws", spec := "hashDraws", unfollowed := true, recurses := true, apart := false }
def HashDrawsSaid : Prop := hashDrawsRow.holds Try.pinned (OpenSpec.ofChange hashDrawsSpec)

/-- ITS FALSE NEIGHBOUR: 'it returns false'. Refute it at one input. -/
def hashDrawsWrong : ChangeSpec := { name := "hashDraws", fn := fun _ => fun
  | [d1, d2] => { results := [.lit (.bool false)], args := [d1, d2] }
  | _ => none }
def HashDrawsWrongFalsely : Prop := hashDrawsRow.holds Try.pinned (OpenSpec.ofChange hashDrawsWrong)

/-- 'callboylaw06.HashSpreads': WHATEVER THE INPUT: true; the input reads as it did. -/
def hashSpreadsSpec : ChangeSpec := { name := "hashSpreads", fn := fun _ => fun
  | [d1, d2] => { results := [.lit (.bool true)], args := [d1, d2] }
  | _ => none }
def hashSpreadsRow : OpenClaim := { program := "ytaojbpacecedmaa", sum := "a776f9d4147107de695c134dde28753110b07e944e4dbc2b7a4394d6bfd425fe", func := "callboy/callboylaw06.HashSpreads", spec := "hashSpreads", unfollowed := true, recurses := true, apart := false }
def HashSpreadsSaid : Prop := hashSpreadsRow.holds Try.pinned (OpenSpec.ofChange hashSpreadsSpec)

/-- ITS FALSE NEIGHBOUR: 'it returns false'. Refute it at one input. -/
def hashSpreadsWrong : ChangeSpec := { name := "hashSpreads", fn := fun _ => fun
  | [d1, d2] => { results := [.lit (.bool false)], args := [d1, d2] }
  | _ => none }
def HashSpreadsWrongFalsely : Prop := hashSpreadsRow.holds Try.pinned (OpenSpec.ofChange hashSpreadsWrong)

/-- 'callboylaw06.HashParts': WHATEVER THE INPUT: true; the input reads as it did. -/
def hashPartsSpec : ChangeSpec := { name := "hashParts", fn := fun _ => fun
  | [d1, d2, d3] => { results := [.lit (.bool true)], args := [d1, d2, d3] }
  | _ => none }
def hashPartsRow : OpenClaim := { program := "ytaojbpacecedmaa", sum := "a776f9d4147107de695c134dde28753110b07e944e4dbc2b7a4394d6bfd425fe", func := "callboy/callboylaw06.HashParts", spec := "hashParts", unfollowed := true, recurses := true, apart := false }
def HashPartsSaid : Prop := hashPartsRow.holds Try.pinned (OpenSpec.ofChange hashPartsSpec)

/-- ITS FALSE NEIGHBOUR: 'it returns false'. Refute it at one input. -/
def hashPartsWrong : ChangeSpec := { name := "hashParts", fn := fun _ => fun
  | [d1, d2, d3] => { results := [.lit (.bool false)], args := [d1, d2, d3] }
  | _ => none }
def HashPartsWrongFalsely : Prop := hashPartsRow.holds Try.pinned (OpenSpec.ofChange hashPartsWrong)

/-- 'callboylaw06.HashUnmixed': WHATEVER THE INPUT: true; the input reads as it did. -/
def hashUnmixedSpec : ChangeSpec := { name := "hashUnmixed", fn := fun _ => fun
  | [d1, d2] => { results := [.lit (.bool true)], args := [d1, d2] }
  | _ => none }
def hashUnmixedRow : OpenClaim := { program := "ytaojbpacecedmaa", sum := "a776f9d4147107de695c134dde28753110b07e944e4dbc2b7a4394d6bfd425fe", func := "callboy/callboylaw06.HashUnmixed", spec := "hashUnmixed", unfollowed := true, recurses := true, apart := false }
def HashUnmixedSaid : Prop := hashUnmixedRow.holds Try.pinned (OpenSpec.ofChange hashUnmixedSpec)

/-- ITS FALSE NEIGHBOUR: 'it returns false'. Refute it at one input. -/
def hashUnmixedWrong : ChangeSpec := { name := "hashUnmixed", fn := fun _ => fun
  | [d1, d2] => { results := [.lit (.bool false)], args := [d1, d2] }
  | _ => none }
def HashUnmixedWrongFalsely : Prop := hashUnmixedRow.holds Try.pinned (OpenSpec.ofChange hashUnmixedWrong)

/- THE SECOND FORM. 'bulk': how many values and letters a reading holds, each counted each time it is reached (what is shared counts as often as it is met; a slice's spare places count too). A statement '..UptoSaid' is the law's where the arguments, and the package variables that the reading takes, are together of bulk at most 1048576: NARROWER than '..Said'. Prove '..Said' where nothing that the law and all that it calls make is longer than what came in: it says more and counts as full. Else prove '..UptoSaid'. A law counts once. -/
mutual
def uptoBulk {H : Type} : DataW H → Nat
  | .lit (.string bytes) => bytes.length + 1
  | .lit _ => 1
  | .nil => 1
  | .ptr d => uptoBulk d + 1
  | .slice elems spare => uptoBulkAll elems + uptoBulkAll spare + 1
  | .agg parts => uptoBulkAll parts + 1
  | .iface _ d => uptoBulk d + 1
  | .map entries => uptoBulkEntries entries + 1
  | .held _ => 1
def uptoBulkAll {H : Type} : List (DataW H) → Nat
  | [] => 0
  | d :: r => uptoBulk d + uptoBulkAll r
def uptoBulkEntries {H : Type} : List (Lit × DataW H) → Nat
  | [] => 0
  | x :: r => uptoBulkEntry x + uptoBulkEntries r
def uptoBulkEntry {H : Type} : Lit × DataW H → Nat
  | (.string bytes, d) => bytes.length + uptoBulk d + 1
  | (_, d) => uptoBulk d + 1
 end
def uptoSmall : (H : Type) → List (DataW H) → Bool := fun _ ds => decide (uptoBulkAll ds ≤ 1048576)
def OpenSpec.upto (s : _root_.Go.ChangeSpec) : _root_.Go.OpenSpec := { _root_.Go.OpenSpec.ofChange s with cond := some uptoSmall }

/-- 'callboylaw06.HashTells', WHERE WHAT IT READS IS OF BULK AT MOST 1048576: true; the input reads as it did. -/
def hashTellsUptoRow : OpenClaim := { program := "ytaojbpacecedmaa", sum := "a776f9d4147107de695c134dde28753110b07e944e4dbc2b7a4394d6bfd425fe", func := "callboy/callboylaw06.HashTells", spec := "hashTells", unfollowed := true, recurses := true, apart := false, narrowed := true }
def HashTellsUptoSaid : Prop := hashTellsUptoRow.holds Try.pinned (OpenSpec.upto hashTellsSpec)

/-- 'callboylaw06.HashDraws', WHERE WHAT IT READS IS OF BULK AT MOST 1048576: true; the input reads as it did. -/
def hashDrawsUptoRow : OpenClaim := { program := "ytaojbpacecedmaa", sum := "a776f9d4147107de695c134dde28753110b07e944e4dbc2b7a4394d6bfd425fe", func := "callboy/callboylaw06.HashDraws", spec := "hashDraws", unfollowed := true, recurses := true, apart := false, narrowed := true }
def HashDrawsUptoSaid : Prop := hashDrawsUptoRow.holds Try.pinned (OpenSpec.upto hashDrawsSpec)

/-- 'callboylaw06.HashSpreads', WHERE WHAT IT READS IS OF BULK AT MOST 1048576: true; the input reads as it did. -/
def hashSpreadsUptoRow : OpenClaim := { program := "ytaojbpacecedmaa", sum := "a776f9d4147107de695c134dde28753110b07e944e4dbc2b7a4394d6bfd425fe", func := "callboy/callboylaw06.HashSpreads", spec := "hashSpreads", unfollowed := true, recurses := true, apart := false, narrowed := true }
def HashSpreadsUptoSaid : Prop := hashSpreadsUptoRow.holds Try.pinned (OpenSpec.upto hashSpreadsSpec)

/-- 'callboylaw06.HashParts', WHERE WHAT IT READS IS OF BULK AT MOST 1048576: true; the input reads as it did. -/
def hashPartsUptoRow : OpenClaim := { program := "ytaojbpacecedmaa", sum := "a776f9d4147107de695c134dde28753110b07e944e4dbc2b7a4394d6bfd425fe", func := "callboy/callboylaw06.HashParts", spec := "hashParts", unfollowed := true, recurses := true, apart := false, narrowed := true }
def HashPartsUptoSaid : Prop := hashPartsUptoRow.holds Try.pinned (OpenSpec.upto hashPartsSpec)

/-- 'callboylaw06.HashUnmixed', WHERE WHAT IT READS IS OF BULK AT MOST 1048576: true; the input reads as it did. -/
def hashUnmixedUptoRow : OpenClaim := { program := "ytaojbpacecedmaa", sum := "a776f9d4147107de695c134dde28753110b07e944e4dbc2b7a4394d6bfd425fe", func := "callboy/callboylaw06.HashUnmixed", spec := "hashUnmixed", unfollowed := true, recurses := true, apart := false, narrowed := true }
def HashUnmixedUptoSaid : Prop := hashUnmixedUptoRow.holds Try.pinned (OpenSpec.upto hashUnmixedSpec)

end Rows
end Go.Proofs.Ytaojbpacecedmaa
