/-
  DERIVED. GIVEN WITH THE SEED: THE CARDS: each row of YtackinamkibmlaaDoorRows.lean that lists a variable, with what it lists TIED to the program's text (the seventh form; the later family's looks); each row that meets fmt, with fmt's text TOLD by the authors' own Lean function (tested against real Go, not proved from fmt's source: count such statements apart). THE CARD IS WHAT COUNTS. Prove the row's statement (the work); the ties are given (YtackinamkibmlaaDoorTie.lean); close each card by the builder's one call (the guide's Derived/Test/ToyasCard.lean, 'card_holds'). Laid BY PROGRAM, IN A SANDBOX (cutbox-door.mjs). By AI agents, Wed Nov 11 2026. No macro, syntax, notation, axiom, sorry.
-/
import Derived.Test.YtackinamkibmlaaDoorRows
import GoSem.ClaimSeven
namespace Go.Proofs.YtackinamkibmlaaDoor
namespace Rows

/-- THE TIED CARD OF 'callboylaw12.DeframePieces'. -/
def deframePiecesCard : Claim7 := { stood := { row := deframePiecesRow, standIns := [], harness := (true, "445feee90a5b5e0d20183886c786517b2c41482b1977938f249665da8beff553"), looks := false }, kinds := [], alts := [], laidByText := true, laidKinds := [.data, .pinned], laidTests := true, laidLooks := .later }
def DeframePiecesCardSaid : Prop := Claim7.holds Tryd.pinned (.plain (OpenSpec.ofChange deframePiecesSpec)) deframePiecesCard

/-- THE TIED CARD OF 'callboylaw12.DeframeBack'. -/
def deframeBackCard : Claim7 := { stood := { row := deframeBackRow, standIns := [], harness := (true, "445feee90a5b5e0d20183886c786517b2c41482b1977938f249665da8beff553"), looks := false }, kinds := [], alts := [], laidByText := true, laidKinds := [.data, .pinned], laidTests := true, laidLooks := .later }
def DeframeBackCardSaid : Prop := Claim7.holds Tryd.pinned (.plain (OpenSpec.ofChange deframeBackSpec)) deframeBackCard

/-- THE SECOND FORM's CARD OF 'callboylaw12.DeframePieces'. -/
def deframePiecesUptoCard : Claim7 := { stood := { row := deframePiecesUptoRow, standIns := [], harness := (true, "445feee90a5b5e0d20183886c786517b2c41482b1977938f249665da8beff553"), looks := false }, kinds := [], alts := [], laidByText := true, laidKinds := [.data, .pinned], laidTests := true, laidLooks := .later }
def DeframePiecesUptoCardSaid : Prop := Claim7.holds Tryd.pinned (.plain (OpenSpec.upto deframePiecesSpec)) deframePiecesUptoCard

/-- THE SECOND FORM's CARD OF 'callboylaw12.DeframeBack'. -/
def deframeBackUptoCard : Claim7 := { stood := { row := deframeBackUptoRow, standIns := [], harness := (true, "445feee90a5b5e0d20183886c786517b2c41482b1977938f249665da8beff553"), looks := false }, kinds := [], alts := [], laidByText := true, laidKinds := [.data, .pinned], laidTests := true, laidLooks := .later }
def DeframeBackUptoCardSaid : Prop := Claim7.holds Tryd.pinned (.plain (OpenSpec.upto deframeBackSpec)) deframeBackUptoCard
end Rows
end Go.Proofs.YtackinamkibmlaaDoor
