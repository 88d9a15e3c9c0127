/-
  No cell of these rows narrows 'for every input' (looked for: loops, veiled, ifaces, maps, wideKeys, modest, calm, conditions, laid).
  DERIVED. THE GIVEN ROWS OF THIS SEAT. 7 by the template 'for every input the law returns true; each argument reads behind the call as it read before'; 0 by the template 'total and deterministic' (their statements: YtplncglgolhfaaaTotals.lean).
  GIVEN WITH THE SEED: the statements are not yours to turn. If you find one false, say at which input.
  Laid BY PROGRAM, IN A SANDBOX (cutbox-rows.mjs): the forced cells as the released guide's own fill.sh prints them over the translation 846c6f264079cd02… (all of the seat's roots in one cut). By AI agents, Wed Nov 11 2026. No macro, syntax, notation, axiom, sorry.
-/
import Derived.Test.YtplncglgolhfaaaChecked
import GoSem.Claim
import GoSem.ClaimJoined
import GoSem.ClaimMapViews
import Derived.JoinedTies
import Derived.KernelRfl
namespace Go.Proofs.Ytplncglgolhfaaa
/- THE CELL 'sum', in the pinned program and in every row, IS THE sha256 OF THE DUMP (.gsa) THAT YtplncglgolhfaaaProg.lean LOADS. Nothing in Lean hashes anything: it is a label: what it is worth is what the hold of that sum in a sandbox is worth. -/
noncomputable def Try.pinned : Pinned := { name := "ytplncglgolhfaaa", sum := "846c6f264079cd02eb23c82ccf4ac1e81cbad58d8c246f5938a9e84ec245c17e", checked := Try.checked }
namespace Rows
def none {H : Type} : Left H := { results := [], args := [] }

/-- 'majordomolaw13.WorldValid': WHATEVER THE INPUT: true; the input reads as it did. -/
def worldValidSpec : ChangeSpec := { name := "worldValid", fn := fun _ => fun
  | [d1, d2, d3] => { results := [.lit (.bool true)], args := [d1, d2, d3] }
  | _ => none }
def worldValidRow : OpenClaim := { program := "ytplncglgolhfaaa", sum := "846c6f264079cd02eb23c82ccf4ac1e81cbad58d8c246f5938a9e84ec245c17e", func := "majordomo/majordomolaw13.WorldValid", spec := "worldValid", unfollowed := true, recurses := true, apart := false }
def WorldValidSaid : Prop := worldValidRow.holds Try.pinned (OpenSpec.ofChange worldValidSpec)

/-- ITS FALSE NEIGHBOUR: 'it returns false'. Refute it at one input. -/
def worldValidWrong : ChangeSpec := { name := "worldValid", fn := fun _ => fun
  | [d1, d2, d3] => { results := [.lit (.bool false)], args := [d1, d2, d3] }
  | _ => none }
def WorldValidWrongFalsely : Prop := worldValidRow.holds Try.pinned (OpenSpec.ofChange worldValidWrong)

/-- 'majordomolaw13.WorldCounts': WHATEVER THE INPUT: true; the input reads as it did. -/
def worldCountsSpec : ChangeSpec := { name := "worldCounts", fn := fun _ => fun
  | [d1, d2, d3, d4] => { results := [.lit (.bool true)], args := [d1, d2, d3, d4] }
  | _ => none }
def worldCountsRow : OpenClaim := { program := "ytplncglgolhfaaa", sum := "846c6f264079cd02eb23c82ccf4ac1e81cbad58d8c246f5938a9e84ec245c17e", func := "majordomo/majordomolaw13.WorldCounts", spec := "worldCounts", unfollowed := true, recurses := true, apart := false }
def WorldCountsSaid : Prop := worldCountsRow.holds Try.pinned (OpenSpec.ofChange worldCountsSpec)

/-- ITS FALSE NEIGHBOUR: 'it returns false'. Refute it at one input. -/
def worldCountsWrong : ChangeSpec := { name := "worldCounts", fn := fun _ => fun
  | [d1, d2, d3, d4] => { results := [.lit (.bool false)], args := [d1, d2, d3, d4] }
  | _ => none }
def WorldCountsWrongFalsely : Prop := worldCountsRow.holds Try.pinned (OpenSpec.ofChange worldCountsWrong)

/-- 'majordomolaw13.WorldChanges': WHATEVER THE INPUT: true; the input reads as it did. -/
def worldChangesSpec : ChangeSpec := { name := "worldChanges", fn := fun _ => fun
  | [d1, d2, d3, d4] => { results := [.lit (.bool true)], args := [d1, d2, d3, d4] }
  | _ => none }
def worldChangesRow : OpenClaim := { program := "ytplncglgolhfaaa", sum := "846c6f264079cd02eb23c82ccf4ac1e81cbad58d8c246f5938a9e84ec245c17e", func := "majordomo/majordomolaw13.WorldChanges", spec := "worldChanges", unfollowed := true, recurses := true, apart := false }
def WorldChangesSaid : Prop := worldChangesRow.holds Try.pinned (OpenSpec.ofChange worldChangesSpec)

/-- ITS FALSE NEIGHBOUR: 'it returns false'. Refute it at one input. -/
def worldChangesWrong : ChangeSpec := { name := "worldChanges", fn := fun _ => fun
  | [d1, d2, d3, d4] => { results := [.lit (.bool false)], args := [d1, d2, d3, d4] }
  | _ => none }
def WorldChangesWrongFalsely : Prop := worldChangesRow.holds Try.pinned (OpenSpec.ofChange worldChangesWrong)

/-- 'majordomolaw13.WorldUndoes': WHATEVER THE INPUT: true; the input reads as it did. -/
def worldUndoesSpec : ChangeSpec := { name := "worldUndoes", fn := fun _ => fun
  | [d1, d2] => { results := [.lit (.bool true)], args := [d1, d2] }
  | _ => none }
def worldUndoesRow : OpenClaim := { program := "ytplncglgolhfaaa", sum := "846c6f264079cd02eb23c82ccf4ac1e81cbad58d8c246f5938a9e84ec245c17e", func := "majordomo/majordomolaw13.WorldUndoes", spec := "worldUndoes", unfollowed := true, recurses := true, apart := false }
def WorldUndoesSaid : Prop := worldUndoesRow.holds Try.pinned (OpenSpec.ofChange worldUndoesSpec)

/-- ITS FALSE NEIGHBOUR: 'it returns false'. Refute it at one input. -/
def worldUndoesWrong : ChangeSpec := { name := "worldUndoes", fn := fun _ => fun
  | [d1, d2] => { results := [.lit (.bool false)], args := [d1, d2] }
  | _ => none }
def WorldUndoesWrongFalsely : Prop := worldUndoesRow.holds Try.pinned (OpenSpec.ofChange worldUndoesWrong)

/-- 'majordomolaw13.WorldCommutes': WHATEVER THE INPUT: true; the input reads as it did. -/
def worldCommutesSpec : ChangeSpec := { name := "worldCommutes", fn := fun _ => fun
  | [d1, d2, d3, d4] => { results := [.lit (.bool true)], args := [d1, d2, d3, d4] }
  | _ => none }
def worldCommutesRow : OpenClaim := { program := "ytplncglgolhfaaa", sum := "846c6f264079cd02eb23c82ccf4ac1e81cbad58d8c246f5938a9e84ec245c17e", func := "majordomo/majordomolaw13.WorldCommutes", spec := "worldCommutes", unfollowed := true, recurses := true, apart := false }
def WorldCommutesSaid : Prop := worldCommutesRow.holds Try.pinned (OpenSpec.ofChange worldCommutesSpec)

/-- ITS FALSE NEIGHBOUR: 'it returns false'. Refute it at one input. -/
def worldCommutesWrong : ChangeSpec := { name := "worldCommutes", fn := fun _ => fun
  | [d1, d2, d3, d4] => { results := [.lit (.bool false)], args := [d1, d2, d3, d4] }
  | _ => none }
def WorldCommutesWrongFalsely : Prop := worldCommutesRow.holds Try.pinned (OpenSpec.ofChange worldCommutesWrong)

/-- 'majordomolaw13.WorldSums': WHATEVER THE INPUT: true; the input reads as it did. -/
def worldSumsSpec : ChangeSpec := { name := "worldSums", fn := fun _ => fun
  | [d1, d2, d3] => { results := [.lit (.bool true)], args := [d1, d2, d3] }
  | _ => none }
def worldSumsRow : OpenClaim := { program := "ytplncglgolhfaaa", sum := "846c6f264079cd02eb23c82ccf4ac1e81cbad58d8c246f5938a9e84ec245c17e", func := "majordomo/majordomolaw13.WorldSums", spec := "worldSums", unfollowed := true, recurses := true, apart := false }
def WorldSumsSaid : Prop := worldSumsRow.holds Try.pinned (OpenSpec.ofChange worldSumsSpec)

/-- ITS FALSE NEIGHBOUR: 'it returns false'. Refute it at one input. -/
def worldSumsWrong : ChangeSpec := { name := "worldSums", fn := fun _ => fun
  | [d1, d2, d3] => { results := [.lit (.bool false)], args := [d1, d2, d3] }
  | _ => none }
def WorldSumsWrongFalsely : Prop := worldSumsRow.holds Try.pinned (OpenSpec.ofChange worldSumsWrong)

/-- 'majordomolaw13.WorldKnown': WHATEVER THE INPUT: true; the input reads as it did. -/
def worldKnownSpec : ChangeSpec := { name := "worldKnown", fn := fun _ => fun
  | [] => { results := [.lit (.bool true)], args := [] }
  | _ => none }
def worldKnownRow : OpenClaim := { program := "ytplncglgolhfaaa", sum := "846c6f264079cd02eb23c82ccf4ac1e81cbad58d8c246f5938a9e84ec245c17e", func := "majordomo/majordomolaw13.WorldKnown", spec := "worldKnown", unfollowed := true, recurses := true, apart := false }
def WorldKnownSaid : Prop := worldKnownRow.holds Try.pinned (OpenSpec.ofChange worldKnownSpec)

/-- ITS FALSE NEIGHBOUR: 'it returns false'. Refute it at one input. -/
def worldKnownWrong : ChangeSpec := { name := "worldKnown", fn := fun _ => fun
  | [] => { results := [.lit (.bool false)], args := [] }
  | _ => none }
def WorldKnownWrongFalsely : Prop := worldKnownRow.holds Try.pinned (OpenSpec.ofChange worldKnownWrong)

/- THE SECOND FORM. 'bulk': how many values and letters a reading holds, each counted each time it is reached (what is shared counts as often as it is met; a slice's spare places count too). A statement '..UptoSaid' is the law's where the arguments, and the package variables that the reading takes, are together of bulk at most 1048576: NARROWER than '..Said'. Prove '..Said' where nothing that the law and all that it calls make is longer than what came in: it says more and counts as full. Else prove '..UptoSaid'. A law counts once. -/
mutual
def uptoBulk {H : Type} : DataW H → Nat
  | .lit (.string bytes) => bytes.length + 1
  | .lit _ => 1
  | .nil => 1
  | .ptr d => uptoBulk d + 1
  | .slice elems spare => uptoBulkAll elems + uptoBulkAll spare + 1
  | .agg parts => uptoBulkAll parts + 1
  | .iface _ d => uptoBulk d + 1
  | .map entries => uptoBulkEntries entries + 1
  | .held _ => 1
def uptoBulkAll {H : Type} : List (DataW H) → Nat
  | [] => 0
  | d :: r => uptoBulk d + uptoBulkAll r
def uptoBulkEntries {H : Type} : List (Lit × DataW H) → Nat
  | [] => 0
  | x :: r => uptoBulkEntry x + uptoBulkEntries r
def uptoBulkEntry {H : Type} : Lit × DataW H → Nat
  | (.string bytes, d) => bytes.length + uptoBulk d + 1
  | (_, d) => uptoBulk d + 1
 end
def uptoSmall : (H : Type) → List (DataW H) → Bool := fun _ ds => decide (uptoBulkAll ds ≤ 1048576)
def OpenSpec.upto (s : _root_.Go.ChangeSpec) : _root_.Go.OpenSpec := { _root_.Go.OpenSpec.ofChange s with cond := some uptoSmall }

/-- 'majordomolaw13.WorldValid', WHERE WHAT IT READS IS OF BULK AT MOST 1048576: true; the input reads as it did. -/
def worldValidUptoRow : OpenClaim := { program := "ytplncglgolhfaaa", sum := "846c6f264079cd02eb23c82ccf4ac1e81cbad58d8c246f5938a9e84ec245c17e", func := "majordomo/majordomolaw13.WorldValid", spec := "worldValid", unfollowed := true, recurses := true, apart := false, narrowed := true }
def WorldValidUptoSaid : Prop := worldValidUptoRow.holds Try.pinned (OpenSpec.upto worldValidSpec)

/-- 'majordomolaw13.WorldCounts', WHERE WHAT IT READS IS OF BULK AT MOST 1048576: true; the input reads as it did. -/
def worldCountsUptoRow : OpenClaim := { program := "ytplncglgolhfaaa", sum := "846c6f264079cd02eb23c82ccf4ac1e81cbad58d8c246f5938a9e84ec245c17e", func := "majordomo/majordomolaw13.WorldCounts", spec := "worldCounts", unfollowed := true, recurses := true, apart := false, narrowed := true }
def WorldCountsUptoSaid : Prop := worldCountsUptoRow.holds Try.pinned (OpenSpec.upto worldCountsSpec)

/-- 'majordomolaw13.WorldChanges', WHERE WHAT IT READS IS OF BULK AT MOST 1048576: true; the input reads as it did. -/
def worldChangesUptoRow : OpenClaim := { program := "ytplncglgolhfaaa", sum := "846c6f264079cd02eb23c82ccf4ac1e81cbad58d8c246f5938a9e84ec245c17e", func := "majordomo/majordomolaw13.WorldChanges", spec := "worldChanges", unfollowed := true, recurses := true, apart := false, narrowed := true }
def WorldChangesUptoSaid : Prop := worldChangesUptoRow.holds Try.pinned (OpenSpec.upto worldChangesSpec)

/-- 'majordomolaw13.WorldUndoes', WHERE WHAT IT READS IS OF BULK AT MOST 1048576: true; the input reads as it did. -/
def worldUndoesUptoRow : OpenClaim := { program := "ytplncglgolhfaaa", sum := "846c6f264079cd02eb23c82ccf4ac1e81cbad58d8c246f5938a9e84ec245c17e", func := "majordomo/majordomolaw13.WorldUndoes", spec := "worldUndoes", unfollowed := true, recurses := true, apart := false, narrowed := true }
def WorldUndoesUptoSaid : Prop := worldUndoesUptoRow.holds Try.pinned (OpenSpec.upto worldUndoesSpec)

/-- 'majordomolaw13.WorldCommutes', WHERE WHAT IT READS IS OF BULK AT MOST 1048576: true; the input reads as it did. -/
def worldCommutesUptoRow : OpenClaim := { program := "ytplncglgolhfaaa", sum := "846c6f264079cd02eb23c82ccf4ac1e81cbad58d8c246f5938a9e84ec245c17e", func := "majordomo/majordomolaw13.WorldCommutes", spec := "worldCommutes", unfollowed := true, recurses := true, apart := false, narrowed := true }
def WorldCommutesUptoSaid : Prop := worldCommutesUptoRow.holds Try.pinned (OpenSpec.upto worldCommutesSpec)

/-- 'majordomolaw13.WorldSums', WHERE WHAT IT READS IS OF BULK AT MOST 1048576: true; the input reads as it did. -/
def worldSumsUptoRow : OpenClaim := { program := "ytplncglgolhfaaa", sum := "846c6f264079cd02eb23c82ccf4ac1e81cbad58d8c246f5938a9e84ec245c17e", func := "majordomo/majordomolaw13.WorldSums", spec := "worldSums", unfollowed := true, recurses := true, apart := false, narrowed := true }
def WorldSumsUptoSaid : Prop := worldSumsUptoRow.holds Try.pinned (OpenSpec.upto worldSumsSpec)

/-- 'majordomolaw13.WorldKnown', WHERE WHAT IT READS IS OF BULK AT MOST 1048576: true; the input reads as it did. -/
def worldKnownUptoRow : OpenClaim := { program := "ytplncglgolhfaaa", sum := "846c6f264079cd02eb23c82ccf4ac1e81cbad58d8c246f5938a9e84ec245c17e", func := "majordomo/majordomolaw13.WorldKnown", spec := "worldKnown", unfollowed := true, recurses := true, apart := false, narrowed := true }
def WorldKnownUptoSaid : Prop := worldKnownUptoRow.holds Try.pinned (OpenSpec.upto worldKnownSpec)

end Rows
end Go.Proofs.Ytplncglgolhfaaa
