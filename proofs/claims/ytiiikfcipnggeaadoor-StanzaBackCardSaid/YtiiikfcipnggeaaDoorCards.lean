/-
  DERIVED. GIVEN WITH THE SEED: THE CARDS: each row of YtiiikfcipnggeaaDoorRows.lean that lists a variable, with what it lists TIED to the program's text (the seventh form; the later family's looks); each row that meets fmt, with fmt's text TOLD by the authors' own Lean function (tested against real Go, not proved from fmt's source: count such statements apart). THE CARD IS WHAT COUNTS. Prove the row's statement (the work); the ties are given (YtiiikfcipnggeaaDoorTie.lean); close each card by the builder's one call (the guide's Derived/Test/ToyasCard.lean, 'card_holds'). Laid BY PROGRAM, IN A SANDBOX (cutbox-door.mjs). By AI agents, Wed Nov 11 2026. No macro, syntax, notation, axiom, sorry.
-/
import Derived.Test.YtiiikfcipnggeaaDoorRows
import GoSem.ClaimSeven
namespace Go.Proofs.YtiiikfcipnggeaaDoor
namespace Rows

/-- THE TIED CARD OF 'callboylaw10.StanzaBack'. -/
def stanzaBackCard : Claim7 := { stood := { row := stanzaBackRow, standIns := [], harness := (true, "79ffa1777a1cf4b2c5abf100e61b970a6fb9864d2d0cc6b55b1d1fc8fb91a8cc"), looks := false }, kinds := [], alts := [], laidByText := true, laidKinds := [.data, .pinned], laidTests := true, laidLooks := .later }
def StanzaBackCardSaid : Prop := Claim7.holds Tryd.pinned (.plain (OpenSpec.ofChange stanzaBackSpec)) stanzaBackCard

/-- THE TIED CARD OF 'callboylaw10.StanzaUnlike'. -/
def stanzaUnlikeCard : Claim7 := { stood := { row := stanzaUnlikeRow, standIns := [], harness := (true, "79ffa1777a1cf4b2c5abf100e61b970a6fb9864d2d0cc6b55b1d1fc8fb91a8cc"), looks := false }, kinds := [], alts := [], laidByText := true, laidKinds := [.data, .pinned], laidTests := true, laidLooks := .later }
def StanzaUnlikeCardSaid : Prop := Claim7.holds Tryd.pinned (.plain (OpenSpec.ofChange stanzaUnlikeSpec)) stanzaUnlikeCard

/-- THE SECOND FORM's CARD OF 'callboylaw10.StanzaBack'. -/
def stanzaBackUptoCard : Claim7 := { stood := { row := stanzaBackUptoRow, standIns := [], harness := (true, "79ffa1777a1cf4b2c5abf100e61b970a6fb9864d2d0cc6b55b1d1fc8fb91a8cc"), looks := false }, kinds := [], alts := [], laidByText := true, laidKinds := [.data, .pinned], laidTests := true, laidLooks := .later }
def StanzaBackUptoCardSaid : Prop := Claim7.holds Tryd.pinned (.plain (OpenSpec.upto stanzaBackSpec)) stanzaBackUptoCard

/-- THE SECOND FORM's CARD OF 'callboylaw10.StanzaUnlike'. -/
def stanzaUnlikeUptoCard : Claim7 := { stood := { row := stanzaUnlikeUptoRow, standIns := [], harness := (true, "79ffa1777a1cf4b2c5abf100e61b970a6fb9864d2d0cc6b55b1d1fc8fb91a8cc"), looks := false }, kinds := [], alts := [], laidByText := true, laidKinds := [.data, .pinned], laidTests := true, laidLooks := .later }
def StanzaUnlikeUptoCardSaid : Prop := Claim7.holds Tryd.pinned (.plain (OpenSpec.upto stanzaUnlikeSpec)) stanzaUnlikeUptoCard
end Rows
end Go.Proofs.YtiiikfcipnggeaaDoor
