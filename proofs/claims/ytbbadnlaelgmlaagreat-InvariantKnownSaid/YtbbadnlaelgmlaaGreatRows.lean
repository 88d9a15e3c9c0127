/-
  No cell of these rows narrows 'for every input' (looked for: loops, veiled, ifaces, maps, wideKeys, modest, calm, conditions, laid).
  DERIVED. THE GIVEN ROWS OF THIS SEAT. 7 by the template 'for every input the law returns true; each argument reads behind the call as it read before'; 0 by the template 'total and deterministic' (their statements: YtbbadnlaelgmlaaGreatTotals.lean).
  GIVEN WITH THE SEED: the statements are not yours to turn. If you find one false, say at which input.
  Laid BY PROGRAM, IN A SANDBOX (cutbox-rows.mjs): the forced cells as the released guide's own fill.sh prints them over the translation 7ee5e83a5e59e070… (all of the seat's roots in one cut). By AI agents, Wed Nov 11 2026. No macro, syntax, notation, axiom, sorry.
-/
import Derived.Test.YtbbadnlaelgmlaaGreatChecked
import GoSem.Claim
import GoSem.ClaimJoined
import GoSem.ClaimMapViews
import Derived.JoinedTies
import Derived.KernelRfl
namespace Go.Proofs.YtbbadnlaelgmlaaGreat
/- THE CELL 'sum', in the pinned program and in every row, IS THE sha256 OF THE DUMP (.gsa) THAT YtbbadnlaelgmlaaGreatProg.lean LOADS. Nothing in Lean hashes anything: it is a label: what it is worth is what the hold of that sum in a sandbox is worth. -/
noncomputable def Tryz.pinned : Pinned := { name := "ytbbadnlaelgmlaagreat", sum := "7ee5e83a5e59e0709a88baaf181f66dc60cc2fe79060f2428d3b8002907bca55", checked := Tryz.checked }
namespace Rows
def none {H : Type} : Left H := { results := [], args := [] }

/-- 'majordomolaw17.InvariantBroken': WHATEVER THE INPUT: true; the input reads as it did. -/
def invariantBrokenSpec : ChangeSpec := { name := "invariantBroken", fn := fun _ => fun
  | [d1, d2, d3] => { results := [.lit (.bool true)], args := [d1, d2, d3] }
  | _ => none }
def invariantBrokenRow : OpenClaim := { program := "ytbbadnlaelgmlaagreat", sum := "7ee5e83a5e59e0709a88baaf181f66dc60cc2fe79060f2428d3b8002907bca55", func := "majordomo/majordomolaw17.InvariantBroken", spec := "invariantBroken", unfollowed := true, recurses := true, plainKeys := false, apart := false }
def InvariantBrokenSaid : Prop := invariantBrokenRow.holds Tryz.pinned (OpenSpec.ofChange invariantBrokenSpec)

/-- ITS FALSE NEIGHBOUR: 'it returns false'. Refute it at one input. -/
def invariantBrokenWrong : ChangeSpec := { name := "invariantBroken", fn := fun _ => fun
  | [d1, d2, d3] => { results := [.lit (.bool false)], args := [d1, d2, d3] }
  | _ => none }
def InvariantBrokenWrongFalsely : Prop := invariantBrokenRow.holds Tryz.pinned (OpenSpec.ofChange invariantBrokenWrong)

/-- 'majordomolaw17.InvariantLists': WHATEVER THE INPUT: true; the input reads as it did. -/
def invariantListsSpec : ChangeSpec := { name := "invariantLists", fn := fun _ => fun
  | [d1, d2, d3] => { results := [.lit (.bool true)], args := [d1, d2, d3] }
  | _ => none }
def invariantListsRow : OpenClaim := { program := "ytbbadnlaelgmlaagreat", sum := "7ee5e83a5e59e0709a88baaf181f66dc60cc2fe79060f2428d3b8002907bca55", func := "majordomo/majordomolaw17.InvariantLists", spec := "invariantLists", unfollowed := true, recurses := true, plainKeys := false, apart := false }
def InvariantListsSaid : Prop := invariantListsRow.holds Tryz.pinned (OpenSpec.ofChange invariantListsSpec)

/-- ITS FALSE NEIGHBOUR: 'it returns false'. Refute it at one input. -/
def invariantListsWrong : ChangeSpec := { name := "invariantLists", fn := fun _ => fun
  | [d1, d2, d3] => { results := [.lit (.bool false)], args := [d1, d2, d3] }
  | _ => none }
def InvariantListsWrongFalsely : Prop := invariantListsRow.holds Tryz.pinned (OpenSpec.ofChange invariantListsWrong)

/-- 'majordomolaw17.InvariantOrder': WHATEVER THE INPUT: true; the input reads as it did. -/
def invariantOrderSpec : ChangeSpec := { name := "invariantOrder", fn := fun _ => fun
  | [d1, d2, d3] => { results := [.lit (.bool true)], args := [d1, d2, d3] }
  | _ => none }
def invariantOrderRow : OpenClaim := { program := "ytbbadnlaelgmlaagreat", sum := "7ee5e83a5e59e0709a88baaf181f66dc60cc2fe79060f2428d3b8002907bca55", func := "majordomo/majordomolaw17.InvariantOrder", spec := "invariantOrder", unfollowed := true, recurses := true, plainKeys := false, apart := false }
def InvariantOrderSaid : Prop := invariantOrderRow.holds Tryz.pinned (OpenSpec.ofChange invariantOrderSpec)

/-- ITS FALSE NEIGHBOUR: 'it returns false'. Refute it at one input. -/
def invariantOrderWrong : ChangeSpec := { name := "invariantOrder", fn := fun _ => fun
  | [d1, d2, d3] => { results := [.lit (.bool false)], args := [d1, d2, d3] }
  | _ => none }
def InvariantOrderWrongFalsely : Prop := invariantOrderRow.holds Tryz.pinned (OpenSpec.ofChange invariantOrderWrong)

/-- 'majordomolaw17.InvariantStops': WHATEVER THE INPUT: true; the input reads as it did. -/
def invariantStopsSpec : ChangeSpec := { name := "invariantStops", fn := fun _ => fun
  | [d1, d2, d3, d4] => { results := [.lit (.bool true)], args := [d1, d2, d3, d4] }
  | _ => none }
def invariantStopsRow : OpenClaim := { program := "ytbbadnlaelgmlaagreat", sum := "7ee5e83a5e59e0709a88baaf181f66dc60cc2fe79060f2428d3b8002907bca55", func := "majordomo/majordomolaw17.InvariantStops", spec := "invariantStops", unfollowed := true, recurses := true, plainKeys := false, apart := false }
def InvariantStopsSaid : Prop := invariantStopsRow.holds Tryz.pinned (OpenSpec.ofChange invariantStopsSpec)

/-- ITS FALSE NEIGHBOUR: 'it returns false'. Refute it at one input. -/
def invariantStopsWrong : ChangeSpec := { name := "invariantStops", fn := fun _ => fun
  | [d1, d2, d3, d4] => { results := [.lit (.bool false)], args := [d1, d2, d3, d4] }
  | _ => none }
def InvariantStopsWrongFalsely : Prop := invariantStopsRow.holds Tryz.pinned (OpenSpec.ofChange invariantStopsWrong)

/-- 'majordomolaw17.InvariantStarts': WHATEVER THE INPUT: true; the input reads as it did. -/
def invariantStartsSpec : ChangeSpec := { name := "invariantStarts", fn := fun _ => fun
  | [d1, d2, d3, d4] => { results := [.lit (.bool true)], args := [d1, d2, d3, d4] }
  | _ => none }
def invariantStartsRow : OpenClaim := { program := "ytbbadnlaelgmlaagreat", sum := "7ee5e83a5e59e0709a88baaf181f66dc60cc2fe79060f2428d3b8002907bca55", func := "majordomo/majordomolaw17.InvariantStarts", spec := "invariantStarts", unfollowed := true, recurses := true, plainKeys := false, apart := false }
def InvariantStartsSaid : Prop := invariantStartsRow.holds Tryz.pinned (OpenSpec.ofChange invariantStartsSpec)

/-- ITS FALSE NEIGHBOUR: 'it returns false'. Refute it at one input. -/
def invariantStartsWrong : ChangeSpec := { name := "invariantStarts", fn := fun _ => fun
  | [d1, d2, d3, d4] => { results := [.lit (.bool false)], args := [d1, d2, d3, d4] }
  | _ => none }
def InvariantStartsWrongFalsely : Prop := invariantStartsRow.holds Tryz.pinned (OpenSpec.ofChange invariantStartsWrong)

/-- 'majordomolaw17.InvariantChains': WHATEVER THE INPUT: true; the input reads as it did. -/
def invariantChainsSpec : ChangeSpec := { name := "invariantChains", fn := fun _ => fun
  | [d1, d2, d3] => { results := [.lit (.bool true)], args := [d1, d2, d3] }
  | _ => none }
def invariantChainsRow : OpenClaim := { program := "ytbbadnlaelgmlaagreat", sum := "7ee5e83a5e59e0709a88baaf181f66dc60cc2fe79060f2428d3b8002907bca55", func := "majordomo/majordomolaw17.InvariantChains", spec := "invariantChains", unfollowed := true, recurses := true, plainKeys := false, apart := false }
def InvariantChainsSaid : Prop := invariantChainsRow.holds Tryz.pinned (OpenSpec.ofChange invariantChainsSpec)

/-- ITS FALSE NEIGHBOUR: 'it returns false'. Refute it at one input. -/
def invariantChainsWrong : ChangeSpec := { name := "invariantChains", fn := fun _ => fun
  | [d1, d2, d3] => { results := [.lit (.bool false)], args := [d1, d2, d3] }
  | _ => none }
def InvariantChainsWrongFalsely : Prop := invariantChainsRow.holds Tryz.pinned (OpenSpec.ofChange invariantChainsWrong)

/-- 'majordomolaw17.InvariantKnown': WHATEVER THE INPUT: true; the input reads as it did. -/
def invariantKnownSpec : ChangeSpec := { name := "invariantKnown", fn := fun _ => fun
  | [] => { results := [.lit (.bool true)], args := [] }
  | _ => none }
def invariantKnownRow : OpenClaim := { program := "ytbbadnlaelgmlaagreat", sum := "7ee5e83a5e59e0709a88baaf181f66dc60cc2fe79060f2428d3b8002907bca55", func := "majordomo/majordomolaw17.InvariantKnown", spec := "invariantKnown", unfollowed := true, recurses := true, plainKeys := false, apart := false }
def InvariantKnownSaid : Prop := invariantKnownRow.holds Tryz.pinned (OpenSpec.ofChange invariantKnownSpec)

/-- ITS FALSE NEIGHBOUR: 'it returns false'. Refute it at one input. -/
def invariantKnownWrong : ChangeSpec := { name := "invariantKnown", fn := fun _ => fun
  | [] => { results := [.lit (.bool false)], args := [] }
  | _ => none }
def InvariantKnownWrongFalsely : Prop := invariantKnownRow.holds Tryz.pinned (OpenSpec.ofChange invariantKnownWrong)

/- THE SECOND FORM. 'bulk': how many values and letters a reading holds, each counted each time it is reached (what is shared counts as often as it is met; a slice's spare places count too). A statement '..UptoSaid' is the law's where the arguments, and the package variables that the reading takes, are together of bulk at most 1048576: NARROWER than '..Said'. Prove '..Said' where nothing that the law and all that it calls make is longer than what came in: it says more and counts as full. Else prove '..UptoSaid'. A law counts once. -/
mutual
def uptoBulk {H : Type} : DataW H → Nat
  | .lit (.string bytes) => bytes.length + 1
  | .lit _ => 1
  | .nil => 1
  | .ptr d => uptoBulk d + 1
  | .slice elems spare => uptoBulkAll elems + uptoBulkAll spare + 1
  | .agg parts => uptoBulkAll parts + 1
  | .iface _ d => uptoBulk d + 1
  | .map entries => uptoBulkEntries entries + 1
  | .held _ => 1
def uptoBulkAll {H : Type} : List (DataW H) → Nat
  | [] => 0
  | d :: r => uptoBulk d + uptoBulkAll r
def uptoBulkEntries {H : Type} : List (Lit × DataW H) → Nat
  | [] => 0
  | x :: r => uptoBulkEntry x + uptoBulkEntries r
def uptoBulkEntry {H : Type} : Lit × DataW H → Nat
  | (.string bytes, d) => bytes.length + uptoBulk d + 1
  | (_, d) => uptoBulk d + 1
 end
def uptoSmall : (H : Type) → List (DataW H) → Bool := fun _ ds => decide (uptoBulkAll ds ≤ 1048576)
def OpenSpec.upto (s : _root_.Go.ChangeSpec) : _root_.Go.OpenSpec := { _root_.Go.OpenSpec.ofChange s with cond := some uptoSmall }

/-- 'majordomolaw17.InvariantBroken', WHERE WHAT IT READS IS OF BULK AT MOST 1048576: true; the input reads as it did. -/
def invariantBrokenUptoRow : OpenClaim := { program := "ytbbadnlaelgmlaagreat", sum := "7ee5e83a5e59e0709a88baaf181f66dc60cc2fe79060f2428d3b8002907bca55", func := "majordomo/majordomolaw17.InvariantBroken", spec := "invariantBroken", unfollowed := true, recurses := true, plainKeys := false, apart := false, narrowed := true }
def InvariantBrokenUptoSaid : Prop := invariantBrokenUptoRow.holds Tryz.pinned (OpenSpec.upto invariantBrokenSpec)

/-- 'majordomolaw17.InvariantLists', WHERE WHAT IT READS IS OF BULK AT MOST 1048576: true; the input reads as it did. -/
def invariantListsUptoRow : OpenClaim := { program := "ytbbadnlaelgmlaagreat", sum := "7ee5e83a5e59e0709a88baaf181f66dc60cc2fe79060f2428d3b8002907bca55", func := "majordomo/majordomolaw17.InvariantLists", spec := "invariantLists", unfollowed := true, recurses := true, plainKeys := false, apart := false, narrowed := true }
def InvariantListsUptoSaid : Prop := invariantListsUptoRow.holds Tryz.pinned (OpenSpec.upto invariantListsSpec)

/-- 'majordomolaw17.InvariantOrder', WHERE WHAT IT READS IS OF BULK AT MOST 1048576: true; the input reads as it did. -/
def invariantOrderUptoRow : OpenClaim := { program := "ytbbadnlaelgmlaagreat", sum := "7ee5e83a5e59e0709a88baaf181f66dc60cc2fe79060f2428d3b8002907bca55", func := "majordomo/majordomolaw17.InvariantOrder", spec := "invariantOrder", unfollowed := true, recurses := true, plainKeys := false, apart := false, narrowed := true }
def InvariantOrderUptoSaid : Prop := invariantOrderUptoRow.holds Tryz.pinned (OpenSpec.upto invariantOrderSpec)

/-- 'majordomolaw17.InvariantStops', WHERE WHAT IT READS IS OF BULK AT MOST 1048576: true; the input reads as it did. -/
def invariantStopsUptoRow : OpenClaim := { program := "ytbbadnlaelgmlaagreat", sum := "7ee5e83a5e59e0709a88baaf181f66dc60cc2fe79060f2428d3b8002907bca55", func := "majordomo/majordomolaw17.InvariantStops", spec := "invariantStops", unfollowed := true, recurses := true, plainKeys := false, apart := false, narrowed := true }
def InvariantStopsUptoSaid : Prop := invariantStopsUptoRow.holds Tryz.pinned (OpenSpec.upto invariantStopsSpec)

/-- 'majordomolaw17.InvariantStarts', WHERE WHAT IT READS IS OF BULK AT MOST 1048576: true; the input reads as it did. -/
def invariantStartsUptoRow : OpenClaim := { program := "ytbbadnlaelgmlaagreat", sum := "7ee5e83a5e59e0709a88baaf181f66dc60cc2fe79060f2428d3b8002907bca55", func := "majordomo/majordomolaw17.InvariantStarts", spec := "invariantStarts", unfollowed := true, recurses := true, plainKeys := false, apart := false, narrowed := true }
def InvariantStartsUptoSaid : Prop := invariantStartsUptoRow.holds Tryz.pinned (OpenSpec.upto invariantStartsSpec)

/-- 'majordomolaw17.InvariantChains', WHERE WHAT IT READS IS OF BULK AT MOST 1048576: true; the input reads as it did. -/
def invariantChainsUptoRow : OpenClaim := { program := "ytbbadnlaelgmlaagreat", sum := "7ee5e83a5e59e0709a88baaf181f66dc60cc2fe79060f2428d3b8002907bca55", func := "majordomo/majordomolaw17.InvariantChains", spec := "invariantChains", unfollowed := true, recurses := true, plainKeys := false, apart := false, narrowed := true }
def InvariantChainsUptoSaid : Prop := invariantChainsUptoRow.holds Tryz.pinned (OpenSpec.upto invariantChainsSpec)

/-- 'majordomolaw17.InvariantKnown', WHERE WHAT IT READS IS OF BULK AT MOST 1048576: true; the input reads as it did. -/
def invariantKnownUptoRow : OpenClaim := { program := "ytbbadnlaelgmlaagreat", sum := "7ee5e83a5e59e0709a88baaf181f66dc60cc2fe79060f2428d3b8002907bca55", func := "majordomo/majordomolaw17.InvariantKnown", spec := "invariantKnown", unfollowed := true, recurses := true, plainKeys := false, apart := false, narrowed := true }
def InvariantKnownUptoSaid : Prop := invariantKnownUptoRow.holds Tryz.pinned (OpenSpec.upto invariantKnownSpec)

end Rows
end Go.Proofs.YtbbadnlaelgmlaaGreat
