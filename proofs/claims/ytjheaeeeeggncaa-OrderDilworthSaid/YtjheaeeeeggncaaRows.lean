/-
  No cell of these rows narrows 'for every input' (looked for: loops, veiled, ifaces, maps, wideKeys, modest, calm, conditions, laid).
  DERIVED. THE GIVEN ROWS OF THIS SEAT. 9 by the template 'for every input the law returns true; each argument reads behind the call as it read before'; 0 by the template 'total and deterministic' (their statements: YtjheaeeeeggncaaTotals.lean).
  GIVEN WITH THE SEED: the statements are not yours to turn. If you find one false, say at which input.
  Laid BY PROGRAM, IN A SANDBOX (cutbox-rows.mjs): the forced cells as the released guide's own fill.sh prints them over the translation 7dd371b6a7752e79… (all of the seat's roots in one cut). By AI agents, Wed Nov 11 2026. No macro, syntax, notation, axiom, sorry.
-/
import Derived.Test.YtjheaeeeeggncaaChecked
import GoSem.Claim
import GoSem.ClaimJoined
import GoSem.ClaimMapViews
import Derived.JoinedTies
import Derived.KernelRfl
namespace Go.Proofs.Ytjheaeeeeggncaa
/- THE CELL 'sum', in the pinned program and in every row, IS THE sha256 OF THE DUMP (.gsa) THAT YtjheaeeeeggncaaProg.lean LOADS. Nothing in Lean hashes anything: it is a label: what it is worth is what the hold of that sum in a sandbox is worth. -/
noncomputable def Try.pinned : Pinned := { name := "ytjheaeeeeggncaa", sum := "7dd371b6a7752e79e0988c373fbb1de3d18357e095915e2e525fbedc2ab89d00", checked := Try.checked }
namespace Rows
def none {H : Type} : Left H := { results := [], args := [] }

/-- 'majordomolaw10.OrderShapes': WHATEVER THE INPUT: true; the input reads as it did. -/
def orderShapesSpec : ChangeSpec := { name := "orderShapes", fn := fun _ => fun
  | [d] => { results := [.lit (.bool true)], args := [d] }
  | _ => none }
def orderShapesRow : OpenClaim := { program := "ytjheaeeeeggncaa", sum := "7dd371b6a7752e79e0988c373fbb1de3d18357e095915e2e525fbedc2ab89d00", func := "majordomo/majordomolaw10.OrderShapes", spec := "orderShapes", unfollowed := true, recurses := true, apart := false }
def OrderShapesSaid : Prop := orderShapesRow.holds Try.pinned (OpenSpec.ofChange orderShapesSpec)

/-- ITS FALSE NEIGHBOUR: 'it returns false'. Refute it at one input. -/
def orderShapesWrong : ChangeSpec := { name := "orderShapes", fn := fun _ => fun
  | [d] => { results := [.lit (.bool false)], args := [d] }
  | _ => none }
def OrderShapesWrongFalsely : Prop := orderShapesRow.holds Try.pinned (OpenSpec.ofChange orderShapesWrong)

/-- 'majordomolaw10.OrderIdeals': WHATEVER THE INPUT: true; the input reads as it did. -/
def orderIdealsSpec : ChangeSpec := { name := "orderIdeals", fn := fun _ => fun
  | [d1, d2] => { results := [.lit (.bool true)], args := [d1, d2] }
  | _ => none }
def orderIdealsRow : OpenClaim := { program := "ytjheaeeeeggncaa", sum := "7dd371b6a7752e79e0988c373fbb1de3d18357e095915e2e525fbedc2ab89d00", func := "majordomo/majordomolaw10.OrderIdeals", spec := "orderIdeals", unfollowed := true, recurses := true, apart := false }
def OrderIdealsSaid : Prop := orderIdealsRow.holds Try.pinned (OpenSpec.ofChange orderIdealsSpec)

/-- ITS FALSE NEIGHBOUR: 'it returns false'. Refute it at one input. -/
def orderIdealsWrong : ChangeSpec := { name := "orderIdeals", fn := fun _ => fun
  | [d1, d2] => { results := [.lit (.bool false)], args := [d1, d2] }
  | _ => none }
def OrderIdealsWrongFalsely : Prop := orderIdealsRow.holds Try.pinned (OpenSpec.ofChange orderIdealsWrong)

/-- 'majordomolaw10.OrderLines': WHATEVER THE INPUT: true; the input reads as it did. -/
def orderLinesSpec : ChangeSpec := { name := "orderLines", fn := fun _ => fun
  | [d1, d2, d3] => { results := [.lit (.bool true)], args := [d1, d2, d3] }
  | _ => none }
def orderLinesRow : OpenClaim := { program := "ytjheaeeeeggncaa", sum := "7dd371b6a7752e79e0988c373fbb1de3d18357e095915e2e525fbedc2ab89d00", func := "majordomo/majordomolaw10.OrderLines", spec := "orderLines", unfollowed := true, recurses := true, apart := false }
def OrderLinesSaid : Prop := orderLinesRow.holds Try.pinned (OpenSpec.ofChange orderLinesSpec)

/-- ITS FALSE NEIGHBOUR: 'it returns false'. Refute it at one input. -/
def orderLinesWrong : ChangeSpec := { name := "orderLines", fn := fun _ => fun
  | [d1, d2, d3] => { results := [.lit (.bool false)], args := [d1, d2, d3] }
  | _ => none }
def OrderLinesWrongFalsely : Prop := orderLinesRow.holds Try.pinned (OpenSpec.ofChange orderLinesWrong)

/-- 'majordomolaw10.OrderSizes': WHATEVER THE INPUT: true; the input reads as it did. -/
def orderSizesSpec : ChangeSpec := { name := "orderSizes", fn := fun _ => fun
  | [d] => { results := [.lit (.bool true)], args := [d] }
  | _ => none }
def orderSizesRow : OpenClaim := { program := "ytjheaeeeeggncaa", sum := "7dd371b6a7752e79e0988c373fbb1de3d18357e095915e2e525fbedc2ab89d00", func := "majordomo/majordomolaw10.OrderSizes", spec := "orderSizes", unfollowed := true, recurses := true, apart := false }
def OrderSizesSaid : Prop := orderSizesRow.holds Try.pinned (OpenSpec.ofChange orderSizesSpec)

/-- ITS FALSE NEIGHBOUR: 'it returns false'. Refute it at one input. -/
def orderSizesWrong : ChangeSpec := { name := "orderSizes", fn := fun _ => fun
  | [d] => { results := [.lit (.bool false)], args := [d] }
  | _ => none }
def OrderSizesWrongFalsely : Prop := orderSizesRow.holds Try.pinned (OpenSpec.ofChange orderSizesWrong)

/-- 'majordomolaw10.OrderReduced': WHATEVER THE INPUT: true; the input reads as it did. -/
def orderReducedSpec : ChangeSpec := { name := "orderReduced", fn := fun _ => fun
  | [d1, d2, d3] => { results := [.lit (.bool true)], args := [d1, d2, d3] }
  | _ => none }
def orderReducedRow : OpenClaim := { program := "ytjheaeeeeggncaa", sum := "7dd371b6a7752e79e0988c373fbb1de3d18357e095915e2e525fbedc2ab89d00", func := "majordomo/majordomolaw10.OrderReduced", spec := "orderReduced", unfollowed := true, recurses := true, apart := false }
def OrderReducedSaid : Prop := orderReducedRow.holds Try.pinned (OpenSpec.ofChange orderReducedSpec)

/-- ITS FALSE NEIGHBOUR: 'it returns false'. Refute it at one input. -/
def orderReducedWrong : ChangeSpec := { name := "orderReduced", fn := fun _ => fun
  | [d1, d2, d3] => { results := [.lit (.bool false)], args := [d1, d2, d3] }
  | _ => none }
def OrderReducedWrongFalsely : Prop := orderReducedRow.holds Try.pinned (OpenSpec.ofChange orderReducedWrong)

/-- 'majordomolaw10.OrderBegins': WHATEVER THE INPUT: true; the input reads as it did. -/
def orderBeginsSpec : ChangeSpec := { name := "orderBegins", fn := fun _ => fun
  | [d1, d2, d3, d4] => { results := [.lit (.bool true)], args := [d1, d2, d3, d4] }
  | _ => none }
def orderBeginsRow : OpenClaim := { program := "ytjheaeeeeggncaa", sum := "7dd371b6a7752e79e0988c373fbb1de3d18357e095915e2e525fbedc2ab89d00", func := "majordomo/majordomolaw10.OrderBegins", spec := "orderBegins", unfollowed := true, recurses := true, apart := false }
def OrderBeginsSaid : Prop := orderBeginsRow.holds Try.pinned (OpenSpec.ofChange orderBeginsSpec)

/-- ITS FALSE NEIGHBOUR: 'it returns false'. Refute it at one input. -/
def orderBeginsWrong : ChangeSpec := { name := "orderBegins", fn := fun _ => fun
  | [d1, d2, d3, d4] => { results := [.lit (.bool false)], args := [d1, d2, d3, d4] }
  | _ => none }
def OrderBeginsWrongFalsely : Prop := orderBeginsRow.holds Try.pinned (OpenSpec.ofChange orderBeginsWrong)

/-- 'majordomolaw10.OrderNumbers': WHATEVER THE INPUT: true; the input reads as it did. -/
def orderNumbersSpec : ChangeSpec := { name := "orderNumbers", fn := fun _ => fun
  | [d1, d2, d3, d4, d5] => { results := [.lit (.bool true)], args := [d1, d2, d3, d4, d5] }
  | _ => none }
def orderNumbersRow : OpenClaim := { program := "ytjheaeeeeggncaa", sum := "7dd371b6a7752e79e0988c373fbb1de3d18357e095915e2e525fbedc2ab89d00", func := "majordomo/majordomolaw10.OrderNumbers", spec := "orderNumbers", unfollowed := true, recurses := true, apart := false }
def OrderNumbersSaid : Prop := orderNumbersRow.holds Try.pinned (OpenSpec.ofChange orderNumbersSpec)

/-- ITS FALSE NEIGHBOUR: 'it returns false'. Refute it at one input. -/
def orderNumbersWrong : ChangeSpec := { name := "orderNumbers", fn := fun _ => fun
  | [d1, d2, d3, d4, d5] => { results := [.lit (.bool false)], args := [d1, d2, d3, d4, d5] }
  | _ => none }
def OrderNumbersWrongFalsely : Prop := orderNumbersRow.holds Try.pinned (OpenSpec.ofChange orderNumbersWrong)

/-- 'majordomolaw10.OrderDilworth': WHATEVER THE INPUT: true; the input reads as it did. -/
def orderDilworthSpec : ChangeSpec := { name := "orderDilworth", fn := fun _ => fun
  | [d1, d2, d3, d4] => { results := [.lit (.bool true)], args := [d1, d2, d3, d4] }
  | _ => none }
def orderDilworthRow : OpenClaim := { program := "ytjheaeeeeggncaa", sum := "7dd371b6a7752e79e0988c373fbb1de3d18357e095915e2e525fbedc2ab89d00", func := "majordomo/majordomolaw10.OrderDilworth", spec := "orderDilworth", unfollowed := true, recurses := true, apart := false }
def OrderDilworthSaid : Prop := orderDilworthRow.holds Try.pinned (OpenSpec.ofChange orderDilworthSpec)

/-- ITS FALSE NEIGHBOUR: 'it returns false'. Refute it at one input. -/
def orderDilworthWrong : ChangeSpec := { name := "orderDilworth", fn := fun _ => fun
  | [d1, d2, d3, d4] => { results := [.lit (.bool false)], args := [d1, d2, d3, d4] }
  | _ => none }
def OrderDilworthWrongFalsely : Prop := orderDilworthRow.holds Try.pinned (OpenSpec.ofChange orderDilworthWrong)

/-- 'majordomolaw10.OrderKnown': WHATEVER THE INPUT: true; the input reads as it did. -/
def orderKnownSpec : ChangeSpec := { name := "orderKnown", fn := fun _ => fun
  | [] => { results := [.lit (.bool true)], args := [] }
  | _ => none }
def orderKnownRow : OpenClaim := { program := "ytjheaeeeeggncaa", sum := "7dd371b6a7752e79e0988c373fbb1de3d18357e095915e2e525fbedc2ab89d00", func := "majordomo/majordomolaw10.OrderKnown", spec := "orderKnown", unfollowed := true, recurses := true, apart := false }
def OrderKnownSaid : Prop := orderKnownRow.holds Try.pinned (OpenSpec.ofChange orderKnownSpec)

/-- ITS FALSE NEIGHBOUR: 'it returns false'. Refute it at one input. -/
def orderKnownWrong : ChangeSpec := { name := "orderKnown", fn := fun _ => fun
  | [] => { results := [.lit (.bool false)], args := [] }
  | _ => none }
def OrderKnownWrongFalsely : Prop := orderKnownRow.holds Try.pinned (OpenSpec.ofChange orderKnownWrong)

/- THE SECOND FORM. 'bulk': how many values and letters a reading holds, each counted each time it is reached (what is shared counts as often as it is met; a slice's spare places count too). A statement '..UptoSaid' is the law's where the arguments, and the package variables that the reading takes, are together of bulk at most 1048576: NARROWER than '..Said'. Prove '..Said' where nothing that the law and all that it calls make is longer than what came in: it says more and counts as full. Else prove '..UptoSaid'. A law counts once. -/
mutual
def uptoBulk {H : Type} : DataW H → Nat
  | .lit (.string bytes) => bytes.length + 1
  | .lit _ => 1
  | .nil => 1
  | .ptr d => uptoBulk d + 1
  | .slice elems spare => uptoBulkAll elems + uptoBulkAll spare + 1
  | .agg parts => uptoBulkAll parts + 1
  | .iface _ d => uptoBulk d + 1
  | .map entries => uptoBulkEntries entries + 1
  | .held _ => 1
def uptoBulkAll {H : Type} : List (DataW H) → Nat
  | [] => 0
  | d :: r => uptoBulk d + uptoBulkAll r
def uptoBulkEntries {H : Type} : List (Lit × DataW H) → Nat
  | [] => 0
  | x :: r => uptoBulkEntry x + uptoBulkEntries r
def uptoBulkEntry {H : Type} : Lit × DataW H → Nat
  | (.string bytes, d) => bytes.length + uptoBulk d + 1
  | (_, d) => uptoBulk d + 1
 end
def uptoSmall : (H : Type) → List (DataW H) → Bool := fun _ ds => decide (uptoBulkAll ds ≤ 1048576)
def OpenSpec.upto (s : _root_.Go.ChangeSpec) : _root_.Go.OpenSpec := { _root_.Go.OpenSpec.ofChange s with cond := some uptoSmall }

/-- 'majordomolaw10.OrderShapes', WHERE WHAT IT READS IS OF BULK AT MOST 1048576: true; the input reads as it did. -/
def orderShapesUptoRow : OpenClaim := { program := "ytjheaeeeeggncaa", sum := "7dd371b6a7752e79e0988c373fbb1de3d18357e095915e2e525fbedc2ab89d00", func := "majordomo/majordomolaw10.OrderShapes", spec := "orderShapes", unfollowed := true, recurses := true, apart := false, narrowed := true }
def OrderShapesUptoSaid : Prop := orderShapesUptoRow.holds Try.pinned (OpenSpec.upto orderShapesSpec)

/-- 'majordomolaw10.OrderIdeals', WHERE WHAT IT READS IS OF BULK AT MOST 1048576: true; the input reads as it did. -/
def orderIdealsUptoRow : OpenClaim := { program := "ytjheaeeeeggncaa", sum := "7dd371b6a7752e79e0988c373fbb1de3d18357e095915e2e525fbedc2ab89d00", func := "majordomo/majordomolaw10.OrderIdeals", spec := "orderIdeals", unfollowed := true, recurses := true, apart := false, narrowed := true }
def OrderIdealsUptoSaid : Prop := orderIdealsUptoRow.holds Try.pinned (OpenSpec.upto orderIdealsSpec)

/-- 'majordomolaw10.OrderLines', WHERE WHAT IT READS IS OF BULK AT MOST 1048576: true; the input reads as it did. -/
def orderLinesUptoRow : OpenClaim := { program := "ytjheaeeeeggncaa", sum := "7dd371b6a7752e79e0988c373fbb1de3d18357e095915e2e525fbedc2ab89d00", func := "majordomo/majordomolaw10.OrderLines", spec := "orderLines", unfollowed := true, recurses := true, apart := false, narrowed := true }
def OrderLinesUptoSaid : Prop := orderLinesUptoRow.holds Try.pinned (OpenSpec.upto orderLinesSpec)

/-- 'majordomolaw10.OrderSizes', WHERE WHAT IT READS IS OF BULK AT MOST 1048576: true; the input reads as it did. -/
def orderSizesUptoRow : OpenClaim := { program := "ytjheaeeeeggncaa", sum := "7dd371b6a7752e79e0988c373fbb1de3d18357e095915e2e525fbedc2ab89d00", func := "majordomo/majordomolaw10.OrderSizes", spec := "orderSizes", unfollowed := true, recurses := true, apart := false, narrowed := true }
def OrderSizesUptoSaid : Prop := orderSizesUptoRow.holds Try.pinned (OpenSpec.upto orderSizesSpec)

/-- 'majordomolaw10.OrderReduced', WHERE WHAT IT READS IS OF BULK AT MOST 1048576: true; the input reads as it did. -/
def orderReducedUptoRow : OpenClaim := { program := "ytjheaeeeeggncaa", sum := "7dd371b6a7752e79e0988c373fbb1de3d18357e095915e2e525fbedc2ab89d00", func := "majordomo/majordomolaw10.OrderReduced", spec := "orderReduced", unfollowed := true, recurses := true, apart := false, narrowed := true }
def OrderReducedUptoSaid : Prop := orderReducedUptoRow.holds Try.pinned (OpenSpec.upto orderReducedSpec)

/-- 'majordomolaw10.OrderBegins', WHERE WHAT IT READS IS OF BULK AT MOST 1048576: true; the input reads as it did. -/
def orderBeginsUptoRow : OpenClaim := { program := "ytjheaeeeeggncaa", sum := "7dd371b6a7752e79e0988c373fbb1de3d18357e095915e2e525fbedc2ab89d00", func := "majordomo/majordomolaw10.OrderBegins", spec := "orderBegins", unfollowed := true, recurses := true, apart := false, narrowed := true }
def OrderBeginsUptoSaid : Prop := orderBeginsUptoRow.holds Try.pinned (OpenSpec.upto orderBeginsSpec)

/-- 'majordomolaw10.OrderNumbers', WHERE WHAT IT READS IS OF BULK AT MOST 1048576: true; the input reads as it did. -/
def orderNumbersUptoRow : OpenClaim := { program := "ytjheaeeeeggncaa", sum := "7dd371b6a7752e79e0988c373fbb1de3d18357e095915e2e525fbedc2ab89d00", func := "majordomo/majordomolaw10.OrderNumbers", spec := "orderNumbers", unfollowed := true, recurses := true, apart := false, narrowed := true }
def OrderNumbersUptoSaid : Prop := orderNumbersUptoRow.holds Try.pinned (OpenSpec.upto orderNumbersSpec)

/-- 'majordomolaw10.OrderDilworth', WHERE WHAT IT READS IS OF BULK AT MOST 1048576: true; the input reads as it did. -/
def orderDilworthUptoRow : OpenClaim := { program := "ytjheaeeeeggncaa", sum := "7dd371b6a7752e79e0988c373fbb1de3d18357e095915e2e525fbedc2ab89d00", func := "majordomo/majordomolaw10.OrderDilworth", spec := "orderDilworth", unfollowed := true, recurses := true, apart := false, narrowed := true }
def OrderDilworthUptoSaid : Prop := orderDilworthUptoRow.holds Try.pinned (OpenSpec.upto orderDilworthSpec)

/-- 'majordomolaw10.OrderKnown', WHERE WHAT IT READS IS OF BULK AT MOST 1048576: true; the input reads as it did. -/
def orderKnownUptoRow : OpenClaim := { program := "ytjheaeeeeggncaa", sum := "7dd371b6a7752e79e0988c373fbb1de3d18357e095915e2e525fbedc2ab89d00", func := "majordomo/majordomolaw10.OrderKnown", spec := "orderKnown", unfollowed := true, recurses := true, apart := false, narrowed := true }
def OrderKnownUptoSaid : Prop := orderKnownUptoRow.holds Try.pinned (OpenSpec.upto orderKnownSpec)

end Rows
end Go.Proofs.Ytjheaeeeeggncaa
