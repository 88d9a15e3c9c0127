/-
  DERIVED. GIVEN WITH THE SEED: THE CARDS: each row of YtplnnpkohdmiaaaGreatDoorRows.lean that lists a variable, with what it lists TIED to the program's text (the seventh form; the later family's looks); each row that meets fmt, with fmt's text TOLD by the authors' own Lean function (tested against real Go, not proved from fmt's source: count such statements apart). THE CARD IS WHAT COUNTS. Prove the row's statement (the work); the ties are given (YtplnnpkohdmiaaaGreatDoorTie.lean); close each card by the builder's one call (the guide's Derived/Test/ToyasCard.lean, 'card_holds'). Laid BY PROGRAM, IN A SANDBOX (cutbox-door.mjs). By AI agents, Wed Nov 11 2026. No macro, syntax, notation, axiom, sorry.
-/
import Derived.Test.YtplnnpkohdmiaaaGreatDoorRows
import GoSem.ClaimSeven
namespace Go.Proofs.YtplnnpkohdmiaaaGreatDoor
namespace Rows

/-- THE TIED CARD OF 'majordomolaw02.SyntaxPrints'. -/
def syntaxPrintsCard : Claim7 := { stood := { row := syntaxPrintsRow, standIns := [], harness := (true, "147cf96eb60450d259c02050366ee3989f6225c3c46eca11dc2c388d1c9763ea"), looks := false }, kinds := [], alts := [], laidByText := true, laidKinds := [.data, .data, .data], laidTests := true, laidLooks := .later }
def SyntaxPrintsCardSaid : Prop := Claim7.holds Tryz.pinned (.plain (OpenSpec.ofChange syntaxPrintsSpec)) syntaxPrintsCard

/-- THE TIED CARD OF 'majordomolaw02.SyntaxRound'. -/
def syntaxRoundCard : Claim7 := { stood := { row := syntaxRoundRow, standIns := [], harness := (true, "147cf96eb60450d259c02050366ee3989f6225c3c46eca11dc2c388d1c9763ea"), looks := false }, kinds := [], alts := [], laidByText := true, laidKinds := [.data, .data, .data], laidTests := true, laidLooks := .later }
def SyntaxRoundCardSaid : Prop := Claim7.holds Tryz.pinned (.plain (OpenSpec.ofChange syntaxRoundSpec)) syntaxRoundCard

/-- THE SECOND FORM's CARD OF 'majordomolaw02.SyntaxPrints'. -/
def syntaxPrintsUptoCard : Claim7 := { stood := { row := syntaxPrintsUptoRow, standIns := [], harness := (true, "147cf96eb60450d259c02050366ee3989f6225c3c46eca11dc2c388d1c9763ea"), looks := false }, kinds := [], alts := [], laidByText := true, laidKinds := [.data, .data, .data], laidTests := true, laidLooks := .later }
def SyntaxPrintsUptoCardSaid : Prop := Claim7.holds Tryz.pinned (.plain (OpenSpec.upto syntaxPrintsSpec)) syntaxPrintsUptoCard

/-- THE SECOND FORM's CARD OF 'majordomolaw02.SyntaxRound'. -/
def syntaxRoundUptoCard : Claim7 := { stood := { row := syntaxRoundUptoRow, standIns := [], harness := (true, "147cf96eb60450d259c02050366ee3989f6225c3c46eca11dc2c388d1c9763ea"), looks := false }, kinds := [], alts := [], laidByText := true, laidKinds := [.data, .data, .data], laidTests := true, laidLooks := .later }
def SyntaxRoundUptoCardSaid : Prop := Claim7.holds Tryz.pinned (.plain (OpenSpec.upto syntaxRoundSpec)) syntaxRoundUptoCard
end Rows
end Go.Proofs.YtplnnpkohdmiaaaGreatDoor
