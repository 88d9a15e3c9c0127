/-
  No cell of these rows narrows 'for every input' (looked for: loops, veiled, ifaces, maps, wideKeys, modest, calm, conditions, laid).
  DERIVED. THE GIVEN ROWS OF THIS SEAT. 7 by the template 'for every input the law returns true; each argument reads behind the call as it read before'; 0 by the template 'total and deterministic' (their statements: YtlfjhechploioaaTotals.lean).
  GIVEN WITH THE SEED: the statements are not yours to turn. If you find one false, say at which input.
  Laid BY PROGRAM, IN A SANDBOX (cutbox-rows.mjs): the forced cells as the released guide's own fill.sh prints them over the translation 93fc683a57a1a428… (all of the seat's roots in one cut). By AI agents, Wed Nov 11 2026. No macro, syntax, notation, axiom, sorry.
-/
import Derived.Test.YtlfjhechploioaaChecked
import GoSem.Claim
import GoSem.ClaimJoined
import GoSem.ClaimMapViews
import Derived.JoinedTies
import Derived.KernelRfl
namespace Go.Proofs.Ytlfjhechploioaa
/- THE CELL 'sum', in the pinned program and in every row, IS THE sha256 OF THE DUMP (.gsa) THAT YtlfjhechploioaaProg.lean LOADS. Nothing in Lean hashes anything: it is a label: what it is worth is what the hold of that sum in a sandbox is worth. -/
noncomputable def Try.pinned : Pinned := { name := "ytlfjhechploioaa", sum := "93fc683a57a1a428a271760a88a23307d8d90a40ad851bd60a5fe2591757d541", checked := Try.checked }
namespace Rows
def none {H : Type} : Left H := { results := [], args := [] }

/-- 'majordomolaw01.LexisTokens': WHATEVER THE INPUT: true; the input reads as it did. -/
def lexisTokensSpec : ChangeSpec := { name := "lexisTokens", fn := fun _ => fun
  | [d] => { results := [.lit (.bool true)], args := [d] }
  | _ => none }
def lexisTokensRow : OpenClaim := { program := "ytlfjhechploioaa", sum := "93fc683a57a1a428a271760a88a23307d8d90a40ad851bd60a5fe2591757d541", func := "majordomo/majordomolaw01.LexisTokens", spec := "lexisTokens", inPlace := ["internal/abi.NoEscape", "internal/bytealg.MakeNoZero"], unfollowed := true, recurses := true, apart := false }
def LexisTokensSaid : Prop := lexisTokensRow.holds Try.pinned (OpenSpec.ofChange lexisTokensSpec)

/-- ITS FALSE NEIGHBOUR: 'it returns false'. Refute it at one input. -/
def lexisTokensWrong : ChangeSpec := { name := "lexisTokens", fn := fun _ => fun
  | [d] => { results := [.lit (.bool false)], args := [d] }
  | _ => none }
def LexisTokensWrongFalsely : Prop := lexisTokensRow.holds Try.pinned (OpenSpec.ofChange lexisTokensWrong)

/-- 'majordomolaw01.LexisPrints': WHATEVER THE INPUT: true; the input reads as it did. -/
def lexisPrintsSpec : ChangeSpec := { name := "lexisPrints", fn := fun _ => fun
  | [d] => { results := [.lit (.bool true)], args := [d] }
  | _ => none }
def lexisPrintsRow : OpenClaim := { program := "ytlfjhechploioaa", sum := "93fc683a57a1a428a271760a88a23307d8d90a40ad851bd60a5fe2591757d541", func := "majordomo/majordomolaw01.LexisPrints", spec := "lexisPrints", inPlace := ["internal/abi.NoEscape", "internal/bytealg.MakeNoZero"], unfollowed := true, recurses := true, apart := false }
def LexisPrintsSaid : Prop := lexisPrintsRow.holds Try.pinned (OpenSpec.ofChange lexisPrintsSpec)

/-- ITS FALSE NEIGHBOUR: 'it returns false'. Refute it at one input. -/
def lexisPrintsWrong : ChangeSpec := { name := "lexisPrints", fn := fun _ => fun
  | [d] => { results := [.lit (.bool false)], args := [d] }
  | _ => none }
def LexisPrintsWrongFalsely : Prop := lexisPrintsRow.holds Try.pinned (OpenSpec.ofChange lexisPrintsWrong)

/-- 'majordomolaw01.LexisRound': WHATEVER THE INPUT: true; the input reads as it did. -/
def lexisRoundSpec : ChangeSpec := { name := "lexisRound", fn := fun _ => fun
  | [d] => { results := [.lit (.bool true)], args := [d] }
  | _ => none }
def lexisRoundRow : OpenClaim := { program := "ytlfjhechploioaa", sum := "93fc683a57a1a428a271760a88a23307d8d90a40ad851bd60a5fe2591757d541", func := "majordomo/majordomolaw01.LexisRound", spec := "lexisRound", inPlace := ["internal/abi.NoEscape", "internal/bytealg.MakeNoZero"], unfollowed := true, recurses := true, apart := false }
def LexisRoundSaid : Prop := lexisRoundRow.holds Try.pinned (OpenSpec.ofChange lexisRoundSpec)

/-- ITS FALSE NEIGHBOUR: 'it returns false'. Refute it at one input. -/
def lexisRoundWrong : ChangeSpec := { name := "lexisRound", fn := fun _ => fun
  | [d] => { results := [.lit (.bool false)], args := [d] }
  | _ => none }
def LexisRoundWrongFalsely : Prop := lexisRoundRow.holds Try.pinned (OpenSpec.ofChange lexisRoundWrong)

/-- 'majordomolaw01.LexisStands': WHATEVER THE INPUT: true; the input reads as it did. -/
def lexisStandsSpec : ChangeSpec := { name := "lexisStands", fn := fun _ => fun
  | [d] => { results := [.lit (.bool true)], args := [d] }
  | _ => none }
def lexisStandsRow : OpenClaim := { program := "ytlfjhechploioaa", sum := "93fc683a57a1a428a271760a88a23307d8d90a40ad851bd60a5fe2591757d541", func := "majordomo/majordomolaw01.LexisStands", spec := "lexisStands", inPlace := ["internal/abi.NoEscape", "internal/bytealg.MakeNoZero"], unfollowed := true, recurses := true, apart := false }
def LexisStandsSaid : Prop := lexisStandsRow.holds Try.pinned (OpenSpec.ofChange lexisStandsSpec)

/-- ITS FALSE NEIGHBOUR: 'it returns false'. Refute it at one input. -/
def lexisStandsWrong : ChangeSpec := { name := "lexisStands", fn := fun _ => fun
  | [d] => { results := [.lit (.bool false)], args := [d] }
  | _ => none }
def LexisStandsWrongFalsely : Prop := lexisStandsRow.holds Try.pinned (OpenSpec.ofChange lexisStandsWrong)

/-- 'majordomolaw01.LexisBlanks': WHATEVER THE INPUT: true; the input reads as it did. -/
def lexisBlanksSpec : ChangeSpec := { name := "lexisBlanks", fn := fun _ => fun
  | [d1, d2] => { results := [.lit (.bool true)], args := [d1, d2] }
  | _ => none }
def lexisBlanksRow : OpenClaim := { program := "ytlfjhechploioaa", sum := "93fc683a57a1a428a271760a88a23307d8d90a40ad851bd60a5fe2591757d541", func := "majordomo/majordomolaw01.LexisBlanks", spec := "lexisBlanks", inPlace := ["internal/abi.NoEscape", "internal/bytealg.MakeNoZero"], unfollowed := true, recurses := true, apart := false }
def LexisBlanksSaid : Prop := lexisBlanksRow.holds Try.pinned (OpenSpec.ofChange lexisBlanksSpec)

/-- ITS FALSE NEIGHBOUR: 'it returns false'. Refute it at one input. -/
def lexisBlanksWrong : ChangeSpec := { name := "lexisBlanks", fn := fun _ => fun
  | [d1, d2] => { results := [.lit (.bool false)], args := [d1, d2] }
  | _ => none }
def LexisBlanksWrongFalsely : Prop := lexisBlanksRow.holds Try.pinned (OpenSpec.ofChange lexisBlanksWrong)

/-- 'majordomolaw01.LexisApart': WHATEVER THE INPUT: true; the input reads as it did. -/
def lexisApartSpec : ChangeSpec := { name := "lexisApart", fn := fun _ => fun
  | [d1, d2] => { results := [.lit (.bool true)], args := [d1, d2] }
  | _ => none }
def lexisApartRow : OpenClaim := { program := "ytlfjhechploioaa", sum := "93fc683a57a1a428a271760a88a23307d8d90a40ad851bd60a5fe2591757d541", func := "majordomo/majordomolaw01.LexisApart", spec := "lexisApart", inPlace := ["internal/abi.NoEscape", "internal/bytealg.MakeNoZero"], unfollowed := true, recurses := true, apart := false }
def LexisApartSaid : Prop := lexisApartRow.holds Try.pinned (OpenSpec.ofChange lexisApartSpec)

/-- ITS FALSE NEIGHBOUR: 'it returns false'. Refute it at one input. -/
def lexisApartWrong : ChangeSpec := { name := "lexisApart", fn := fun _ => fun
  | [d1, d2] => { results := [.lit (.bool false)], args := [d1, d2] }
  | _ => none }
def LexisApartWrongFalsely : Prop := lexisApartRow.holds Try.pinned (OpenSpec.ofChange lexisApartWrong)

/-- 'majordomolaw01.LexisKnown': WHATEVER THE INPUT: true; the input reads as it did. -/
def lexisKnownSpec : ChangeSpec := { name := "lexisKnown", fn := fun _ => fun
  | [] => { results := [.lit (.bool true)], args := [] }
  | _ => none }
def lexisKnownRow : OpenClaim := { program := "ytlfjhechploioaa", sum := "93fc683a57a1a428a271760a88a23307d8d90a40ad851bd60a5fe2591757d541", func := "majordomo/majordomolaw01.LexisKnown", spec := "lexisKnown", inPlace := ["internal/abi.NoEscape", "internal/bytealg.MakeNoZero"], unfollowed := true, recurses := true, apart := false }
def LexisKnownSaid : Prop := lexisKnownRow.holds Try.pinned (OpenSpec.ofChange lexisKnownSpec)

/-- ITS FALSE NEIGHBOUR: 'it returns false'. Refute it at one input. -/
def lexisKnownWrong : ChangeSpec := { name := "lexisKnown", fn := fun _ => fun
  | [] => { results := [.lit (.bool false)], args := [] }
  | _ => none }
def LexisKnownWrongFalsely : Prop := lexisKnownRow.holds Try.pinned (OpenSpec.ofChange lexisKnownWrong)

/- THE SECOND FORM. 'bulk': how many values and letters a reading holds, each counted each time it is reached (what is shared counts as often as it is met; a slice's spare places count too). A statement '..UptoSaid' is the law's where the arguments, and the package variables that the reading takes, are together of bulk at most 1048576: NARROWER than '..Said'. Prove '..Said' where nothing that the law and all that it calls make is longer than what came in: it says more and counts as full. Else prove '..UptoSaid'. A law counts once. -/
mutual
def uptoBulk {H : Type} : DataW H → Nat
  | .lit (.string bytes) => bytes.length + 1
  | .lit _ => 1
  | .nil => 1
  | .ptr d => uptoBulk d + 1
  | .slice elems spare => uptoBulkAll elems + uptoBulkAll spare + 1
  | .agg parts => uptoBulkAll parts + 1
  | .iface _ d => uptoBulk d + 1
  | .map entries => uptoBulkEntries entries + 1
  | .held _ => 1
def uptoBulkAll {H : Type} : List (DataW H) → Nat
  | [] => 0
  | d :: r => uptoBulk d + uptoBulkAll r
def uptoBulkEntries {H : Type} : List (Lit × DataW H) → Nat
  | [] => 0
  | x :: r => uptoBulkEntry x + uptoBulkEntries r
def uptoBulkEntry {H : Type} : Lit × DataW H → Nat
  | (.string bytes, d) => bytes.length + uptoBulk d + 1
  | (_, d) => uptoBulk d + 1
 end
def uptoSmall : (H : Type) → List (DataW H) → Bool := fun _ ds => decide (uptoBulkAll ds ≤ 1048576)
def OpenSpec.upto (s : _root_.Go.ChangeSpec) : _root_.Go.OpenSpec := { _root_.Go.OpenSpec.ofChange s with cond := some uptoSmall }

/-- 'majordomolaw01.LexisTokens', WHERE WHAT IT READS IS OF BULK AT MOST 1048576: true; the input reads as it did. -/
def lexisTokensUptoRow : OpenClaim := { program := "ytlfjhechploioaa", sum := "93fc683a57a1a428a271760a88a23307d8d90a40ad851bd60a5fe2591757d541", func := "majordomo/majordomolaw01.LexisTokens", spec := "lexisTokens", inPlace := ["internal/abi.NoEscape", "internal/bytealg.MakeNoZero"], unfollowed := true, recurses := true, apart := false, narrowed := true }
def LexisTokensUptoSaid : Prop := lexisTokensUptoRow.holds Try.pinned (OpenSpec.upto lexisTokensSpec)

/-- 'majordomolaw01.LexisPrints', WHERE WHAT IT READS IS OF BULK AT MOST 1048576: true; the input reads as it did. -/
def lexisPrintsUptoRow : OpenClaim := { program := "ytlfjhechploioaa", sum := "93fc683a57a1a428a271760a88a23307d8d90a40ad851bd60a5fe2591757d541", func := "majordomo/majordomolaw01.LexisPrints", spec := "lexisPrints", inPlace := ["internal/abi.NoEscape", "internal/bytealg.MakeNoZero"], unfollowed := true, recurses := true, apart := false, narrowed := true }
def LexisPrintsUptoSaid : Prop := lexisPrintsUptoRow.holds Try.pinned (OpenSpec.upto lexisPrintsSpec)

/-- 'majordomolaw01.LexisRound', WHERE WHAT IT READS IS OF BULK AT MOST 1048576: true; the input reads as it did. -/
def lexisRoundUptoRow : OpenClaim := { program := "ytlfjhechploioaa", sum := "93fc683a57a1a428a271760a88a23307d8d90a40ad851bd60a5fe2591757d541", func := "majordomo/majordomolaw01.LexisRound", spec := "lexisRound", inPlace := ["internal/abi.NoEscape", "internal/bytealg.MakeNoZero"], unfollowed := true, recurses := true, apart := false, narrowed := true }
def LexisRoundUptoSaid : Prop := lexisRoundUptoRow.holds Try.pinned (OpenSpec.upto lexisRoundSpec)

/-- 'majordomolaw01.LexisStands', WHERE WHAT IT READS IS OF BULK AT MOST 1048576: true; the input reads as it did. -/
def lexisStandsUptoRow : OpenClaim := { program := "ytlfjhechploioaa", sum := "93fc683a57a1a428a271760a88a23307d8d90a40ad851bd60a5fe2591757d541", func := "majordomo/majordomolaw01.LexisStands", spec := "lexisStands", inPlace := ["internal/abi.NoEscape", "internal/bytealg.MakeNoZero"], unfollowed := true, recurses := true, apart := false, narrowed := true }
def LexisStandsUptoSaid : Prop := lexisStandsUptoRow.holds Try.pinned (OpenSpec.upto lexisStandsSpec)

/-- 'majordomolaw01.LexisBlanks', WHERE WHAT IT READS IS OF BULK AT MOST 1048576: true; the input reads as it did. -/
def lexisBlanksUptoRow : OpenClaim := { program := "ytlfjhechploioaa", sum := "93fc683a57a1a428a271760a88a23307d8d90a40ad851bd60a5fe2591757d541", func := "majordomo/majordomolaw01.LexisBlanks", spec := "lexisBlanks", inPlace := ["internal/abi.NoEscape", "internal/bytealg.MakeNoZero"], unfollowed := true, recurses := true, apart := false, narrowed := true }
def LexisBlanksUptoSaid : Prop := lexisBlanksUptoRow.holds Try.pinned (OpenSpec.upto lexisBlanksSpec)

/-- 'majordomolaw01.LexisApart', WHERE WHAT IT READS IS OF BULK AT MOST 1048576: true; the input reads as it did. -/
def lexisApartUptoRow : OpenClaim := { program := "ytlfjhechploioaa", sum := "93fc683a57a1a428a271760a88a23307d8d90a40ad851bd60a5fe2591757d541", func := "majordomo/majordomolaw01.LexisApart", spec := "lexisApart", inPlace := ["internal/abi.NoEscape", "internal/bytealg.MakeNoZero"], unfollowed := true, recurses := true, apart := false, narrowed := true }
def LexisApartUptoSaid : Prop := lexisApartUptoRow.holds Try.pinned (OpenSpec.upto lexisApartSpec)

/-- 'majordomolaw01.LexisKnown', WHERE WHAT IT READS IS OF BULK AT MOST 1048576: true; the input reads as it did. -/
def lexisKnownUptoRow : OpenClaim := { program := "ytlfjhechploioaa", sum := "93fc683a57a1a428a271760a88a23307d8d90a40ad851bd60a5fe2591757d541", func := "majordomo/majordomolaw01.LexisKnown", spec := "lexisKnown", inPlace := ["internal/abi.NoEscape", "internal/bytealg.MakeNoZero"], unfollowed := true, recurses := true, apart := false, narrowed := true }
def LexisKnownUptoSaid : Prop := lexisKnownUptoRow.holds Try.pinned (OpenSpec.upto lexisKnownSpec)

end Rows
end Go.Proofs.Ytlfjhechploioaa
