/-
  No cell of these rows narrows 'for every input' (looked for: loops, veiled, ifaces, maps, wideKeys, modest, calm, conditions, laid).
  DERIVED. THE GIVEN ROWS OF THIS SEAT. 5 by the template 'for every input the law returns true; each argument reads behind the call as it read before'; 0 by the template 'total and deterministic' (their statements: YtacdpklgnibkeaaTotals.lean).
  GIVEN WITH THE SEED: the statements are not yours to turn. If you find one false, say at which input.
  Laid BY PROGRAM, IN A SANDBOX (cutbox-rows.mjs): the forced cells as the released guide's own fill.sh prints them over the translation 6223e99b01e38eb9… (all of the seat's roots in one cut). By AI agents, Wed Nov 11 2026. No macro, syntax, notation, axiom, sorry.
-/
import Derived.Test.YtacdpklgnibkeaaChecked
import GoSem.Claim
import GoSem.ClaimJoined
import GoSem.ClaimMapViews
import Derived.JoinedTies
import Derived.KernelRfl
namespace Go.Proofs.Ytacdpklgnibkeaa
/- THE CELL 'sum', in the pinned program and in every row, IS THE sha256 OF THE DUMP (.gsa) THAT YtacdpklgnibkeaaProg.lean LOADS. Nothing in Lean hashes anything: it is a label: what it is worth is what the hold of that sum in a sandbox is worth. -/
noncomputable def Try.pinned : Pinned := { name := "ytacdpklgnibkeaa", sum := "6223e99b01e38eb92afee82fa1600b70937fa26ac3db03c8ed911754f59742b2", checked := Try.checked }
namespace Rows
def none {H : Type} : Left H := { results := [], args := [] }

/-- 'majordomolaw16.NetworkDistances': WHATEVER THE INPUT: true; the input reads as it did. -/
def networkDistancesSpec : ChangeSpec := { name := "networkDistances", fn := fun _ => fun
  | [d1, d2, d3] => { results := [.lit (.bool true)], args := [d1, d2, d3] }
  | _ => none }
def networkDistancesRow : OpenClaim := { program := "ytacdpklgnibkeaa", sum := "6223e99b01e38eb92afee82fa1600b70937fa26ac3db03c8ed911754f59742b2", func := "majordomo/majordomolaw16.NetworkDistances", spec := "networkDistances", unfollowed := true, recurses := true, apart := false }
def NetworkDistancesSaid : Prop := networkDistancesRow.holds Try.pinned (OpenSpec.ofChange networkDistancesSpec)

/-- ITS FALSE NEIGHBOUR: 'it returns false'. Refute it at one input. -/
def networkDistancesWrong : ChangeSpec := { name := "networkDistances", fn := fun _ => fun
  | [d1, d2, d3] => { results := [.lit (.bool false)], args := [d1, d2, d3] }
  | _ => none }
def NetworkDistancesWrongFalsely : Prop := networkDistancesRow.holds Try.pinned (OpenSpec.ofChange networkDistancesWrong)

/-- 'majordomolaw16.NetworkWithin': WHATEVER THE INPUT: true; the input reads as it did. -/
def networkWithinSpec : ChangeSpec := { name := "networkWithin", fn := fun _ => fun
  | [d1, d2, d3] => { results := [.lit (.bool true)], args := [d1, d2, d3] }
  | _ => none }
def networkWithinRow : OpenClaim := { program := "ytacdpklgnibkeaa", sum := "6223e99b01e38eb92afee82fa1600b70937fa26ac3db03c8ed911754f59742b2", func := "majordomo/majordomolaw16.NetworkWithin", spec := "networkWithin", unfollowed := true, recurses := true, apart := false }
def NetworkWithinSaid : Prop := networkWithinRow.holds Try.pinned (OpenSpec.ofChange networkWithinSpec)

/-- ITS FALSE NEIGHBOUR: 'it returns false'. Refute it at one input. -/
def networkWithinWrong : ChangeSpec := { name := "networkWithin", fn := fun _ => fun
  | [d1, d2, d3] => { results := [.lit (.bool false)], args := [d1, d2, d3] }
  | _ => none }
def NetworkWithinWrongFalsely : Prop := networkWithinRow.holds Try.pinned (OpenSpec.ofChange networkWithinWrong)

/-- 'majordomolaw16.NetworkMetric': WHATEVER THE INPUT: true; the input reads as it did. -/
def networkMetricSpec : ChangeSpec := { name := "networkMetric", fn := fun _ => fun
  | [d1, d2, d3, d4] => { results := [.lit (.bool true)], args := [d1, d2, d3, d4] }
  | _ => none }
def networkMetricRow : OpenClaim := { program := "ytacdpklgnibkeaa", sum := "6223e99b01e38eb92afee82fa1600b70937fa26ac3db03c8ed911754f59742b2", func := "majordomo/majordomolaw16.NetworkMetric", spec := "networkMetric", unfollowed := true, recurses := true, apart := false }
def NetworkMetricSaid : Prop := networkMetricRow.holds Try.pinned (OpenSpec.ofChange networkMetricSpec)

/-- ITS FALSE NEIGHBOUR: 'it returns false'. Refute it at one input. -/
def networkMetricWrong : ChangeSpec := { name := "networkMetric", fn := fun _ => fun
  | [d1, d2, d3, d4] => { results := [.lit (.bool false)], args := [d1, d2, d3, d4] }
  | _ => none }
def NetworkMetricWrongFalsely : Prop := networkMetricRow.holds Try.pinned (OpenSpec.ofChange networkMetricWrong)

/-- 'majordomolaw16.NetworkWays': WHATEVER THE INPUT: true; the input reads as it did. -/
def networkWaysSpec : ChangeSpec := { name := "networkWays", fn := fun _ => fun
  | [d1, d2, d3] => { results := [.lit (.bool true)], args := [d1, d2, d3] }
  | _ => none }
def networkWaysRow : OpenClaim := { program := "ytacdpklgnibkeaa", sum := "6223e99b01e38eb92afee82fa1600b70937fa26ac3db03c8ed911754f59742b2", func := "majordomo/majordomolaw16.NetworkWays", spec := "networkWays", unfollowed := true, recurses := true, apart := false }
def NetworkWaysSaid : Prop := networkWaysRow.holds Try.pinned (OpenSpec.ofChange networkWaysSpec)

/-- ITS FALSE NEIGHBOUR: 'it returns false'. Refute it at one input. -/
def networkWaysWrong : ChangeSpec := { name := "networkWays", fn := fun _ => fun
  | [d1, d2, d3] => { results := [.lit (.bool false)], args := [d1, d2, d3] }
  | _ => none }
def NetworkWaysWrongFalsely : Prop := networkWaysRow.holds Try.pinned (OpenSpec.ofChange networkWaysWrong)

/-- 'majordomolaw16.NetworkKnown': WHATEVER THE INPUT: true; the input reads as it did. -/
def networkKnownSpec : ChangeSpec := { name := "networkKnown", fn := fun _ => fun
  | [] => { results := [.lit (.bool true)], args := [] }
  | _ => none }
def networkKnownRow : OpenClaim := { program := "ytacdpklgnibkeaa", sum := "6223e99b01e38eb92afee82fa1600b70937fa26ac3db03c8ed911754f59742b2", func := "majordomo/majordomolaw16.NetworkKnown", spec := "networkKnown", unfollowed := true, recurses := true, apart := false }
def NetworkKnownSaid : Prop := networkKnownRow.holds Try.pinned (OpenSpec.ofChange networkKnownSpec)

/-- ITS FALSE NEIGHBOUR: 'it returns false'. Refute it at one input. -/
def networkKnownWrong : ChangeSpec := { name := "networkKnown", fn := fun _ => fun
  | [] => { results := [.lit (.bool false)], args := [] }
  | _ => none }
def NetworkKnownWrongFalsely : Prop := networkKnownRow.holds Try.pinned (OpenSpec.ofChange networkKnownWrong)

/- THE SECOND FORM. 'bulk': how many values and letters a reading holds, each counted each time it is reached (what is shared counts as often as it is met; a slice's spare places count too). A statement '..UptoSaid' is the law's where the arguments, and the package variables that the reading takes, are together of bulk at most 1048576: NARROWER than '..Said'. Prove '..Said' where nothing that the law and all that it calls make is longer than what came in: it says more and counts as full. Else prove '..UptoSaid'. A law counts once. -/
mutual
def uptoBulk {H : Type} : DataW H → Nat
  | .lit (.string bytes) => bytes.length + 1
  | .lit _ => 1
  | .nil => 1
  | .ptr d => uptoBulk d + 1
  | .slice elems spare => uptoBulkAll elems + uptoBulkAll spare + 1
  | .agg parts => uptoBulkAll parts + 1
  | .iface _ d => uptoBulk d + 1
  | .map entries => uptoBulkEntries entries + 1
  | .held _ => 1
def uptoBulkAll {H : Type} : List (DataW H) → Nat
  | [] => 0
  | d :: r => uptoBulk d + uptoBulkAll r
def uptoBulkEntries {H : Type} : List (Lit × DataW H) → Nat
  | [] => 0
  | x :: r => uptoBulkEntry x + uptoBulkEntries r
def uptoBulkEntry {H : Type} : Lit × DataW H → Nat
  | (.string bytes, d) => bytes.length + uptoBulk d + 1
  | (_, d) => uptoBulk d + 1
 end
def uptoSmall : (H : Type) → List (DataW H) → Bool := fun _ ds => decide (uptoBulkAll ds ≤ 1048576)
def OpenSpec.upto (s : _root_.Go.ChangeSpec) : _root_.Go.OpenSpec := { _root_.Go.OpenSpec.ofChange s with cond := some uptoSmall }

/-- 'majordomolaw16.NetworkDistances', WHERE WHAT IT READS IS OF BULK AT MOST 1048576: true; the input reads as it did. -/
def networkDistancesUptoRow : OpenClaim := { program := "ytacdpklgnibkeaa", sum := "6223e99b01e38eb92afee82fa1600b70937fa26ac3db03c8ed911754f59742b2", func := "majordomo/majordomolaw16.NetworkDistances", spec := "networkDistances", unfollowed := true, recurses := true, apart := false, narrowed := true }
def NetworkDistancesUptoSaid : Prop := networkDistancesUptoRow.holds Try.pinned (OpenSpec.upto networkDistancesSpec)

/-- 'majordomolaw16.NetworkWithin', WHERE WHAT IT READS IS OF BULK AT MOST 1048576: true; the input reads as it did. -/
def networkWithinUptoRow : OpenClaim := { program := "ytacdpklgnibkeaa", sum := "6223e99b01e38eb92afee82fa1600b70937fa26ac3db03c8ed911754f59742b2", func := "majordomo/majordomolaw16.NetworkWithin", spec := "networkWithin", unfollowed := true, recurses := true, apart := false, narrowed := true }
def NetworkWithinUptoSaid : Prop := networkWithinUptoRow.holds Try.pinned (OpenSpec.upto networkWithinSpec)

/-- 'majordomolaw16.NetworkMetric', WHERE WHAT IT READS IS OF BULK AT MOST 1048576: true; the input reads as it did. -/
def networkMetricUptoRow : OpenClaim := { program := "ytacdpklgnibkeaa", sum := "6223e99b01e38eb92afee82fa1600b70937fa26ac3db03c8ed911754f59742b2", func := "majordomo/majordomolaw16.NetworkMetric", spec := "networkMetric", unfollowed := true, recurses := true, apart := false, narrowed := true }
def NetworkMetricUptoSaid : Prop := networkMetricUptoRow.holds Try.pinned (OpenSpec.upto networkMetricSpec)

/-- 'majordomolaw16.NetworkWays', WHERE WHAT IT READS IS OF BULK AT MOST 1048576: true; the input reads as it did. -/
def networkWaysUptoRow : OpenClaim := { program := "ytacdpklgnibkeaa", sum := "6223e99b01e38eb92afee82fa1600b70937fa26ac3db03c8ed911754f59742b2", func := "majordomo/majordomolaw16.NetworkWays", spec := "networkWays", unfollowed := true, recurses := true, apart := false, narrowed := true }
def NetworkWaysUptoSaid : Prop := networkWaysUptoRow.holds Try.pinned (OpenSpec.upto networkWaysSpec)

/-- 'majordomolaw16.NetworkKnown', WHERE WHAT IT READS IS OF BULK AT MOST 1048576: true; the input reads as it did. -/
def networkKnownUptoRow : OpenClaim := { program := "ytacdpklgnibkeaa", sum := "6223e99b01e38eb92afee82fa1600b70937fa26ac3db03c8ed911754f59742b2", func := "majordomo/majordomolaw16.NetworkKnown", spec := "networkKnown", unfollowed := true, recurses := true, apart := false, narrowed := true }
def NetworkKnownUptoSaid : Prop := networkKnownUptoRow.holds Try.pinned (OpenSpec.upto networkKnownSpec)

end Rows
end Go.Proofs.Ytacdpklgnibkeaa
