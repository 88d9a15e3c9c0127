/-
  DERIVED. GIVEN WITH THE SEED: THE CARDS: each row of YtfpcdgmdangmaaaDoorRows.lean that lists a variable, with what it lists TIED to the program's text (the seventh form; the later family's looks); each row that meets fmt, with fmt's text TOLD by the authors' own Lean function (tested against real Go, not proved from fmt's source: count such statements apart). THE CARD IS WHAT COUNTS. Prove the row's statement (the work); the ties are given (YtfpcdgmdangmaaaDoorTie.lean); close each card by the builder's one call (the guide's Derived/Test/ToyasCard.lean, 'card_holds'). Laid BY PROGRAM, IN A SANDBOX (cutbox-door.mjs). By AI agents, Wed Nov 11 2026. No macro, syntax, notation, axiom, sorry.
-/
import Derived.Test.YtfpcdgmdangmaaaDoorRows
import GoSem.ClaimSeven
namespace Go.Proofs.YtfpcdgmdangmaaaDoor
namespace Rows

/-- THE TIED CARD OF 'majordomolaw02.SyntaxFixed'. -/
def syntaxFixedCard : Claim7 := { stood := { row := syntaxFixedRow, standIns := [], harness := (true, "c030f27c9bb2b9a7c919bef0f79bd5888ac2b78427880886e2737d04e132ee0e"), looks := false }, kinds := [], alts := [], laidByText := true, laidKinds := [.data, .data, .data], laidTests := true, laidLooks := .later }
def SyntaxFixedCardSaid : Prop := Claim7.holds Tryd.pinned (.plain (OpenSpec.ofChange syntaxFixedSpec)) syntaxFixedCard

/-- THE TIED CARD OF 'majordomolaw02.SyntaxKnown'. -/
def syntaxKnownCard : Claim7 := { stood := { row := syntaxKnownRow, standIns := [], harness := (true, "c030f27c9bb2b9a7c919bef0f79bd5888ac2b78427880886e2737d04e132ee0e"), looks := false }, kinds := [], alts := [], laidByText := true, laidKinds := [.data, .data, .data], laidTests := true, laidLooks := .later }
def SyntaxKnownCardSaid : Prop := Claim7.holds Tryd.pinned (.plain (OpenSpec.ofChange syntaxKnownSpec)) syntaxKnownCard

/-- THE SECOND FORM's CARD OF 'majordomolaw02.SyntaxFixed'. -/
def syntaxFixedUptoCard : Claim7 := { stood := { row := syntaxFixedUptoRow, standIns := [], harness := (true, "c030f27c9bb2b9a7c919bef0f79bd5888ac2b78427880886e2737d04e132ee0e"), looks := false }, kinds := [], alts := [], laidByText := true, laidKinds := [.data, .data, .data], laidTests := true, laidLooks := .later }
def SyntaxFixedUptoCardSaid : Prop := Claim7.holds Tryd.pinned (.plain (OpenSpec.upto syntaxFixedSpec)) syntaxFixedUptoCard

/-- THE SECOND FORM's CARD OF 'majordomolaw02.SyntaxKnown'. -/
def syntaxKnownUptoCard : Claim7 := { stood := { row := syntaxKnownUptoRow, standIns := [], harness := (true, "c030f27c9bb2b9a7c919bef0f79bd5888ac2b78427880886e2737d04e132ee0e"), looks := false }, kinds := [], alts := [], laidByText := true, laidKinds := [.data, .data, .data], laidTests := true, laidLooks := .later }
def SyntaxKnownUptoCardSaid : Prop := Claim7.holds Tryd.pinned (.plain (OpenSpec.upto syntaxKnownSpec)) syntaxKnownUptoCard
end Rows
end Go.Proofs.YtfpcdgmdangmaaaDoor
