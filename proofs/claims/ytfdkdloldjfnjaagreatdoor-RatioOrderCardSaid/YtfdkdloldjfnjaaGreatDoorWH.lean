/-
  DERIVED. Three small fractions made in one statement, in whatever order: RatioOrder. (Written by gen/genWF.py.)
-/
import Derived.Test.YtfdkdloldjfnjaaGreatDoorWF
set_option linter.unusedVariables false
set_option linter.unusedSimpArgs false
namespace Go.Proofs.YtfdkdloldjfnjaaGreatDoor
open Go.RowKit
set_option maxRecDepth 100000
set_option linter.unusedSimpArgs false
set_option linter.unusedVariables false

def opsO : Array Oper := #[{ dst := some 21, op := Go.Op.fieldAddr 47 (Go.Operand.tmp 1) 0, type := 0, pos := "outright.go:73", after := #[], guard := none }, { dst := some 22, op := Go.Op.load 45 (Go.Operand.tmp 21), type := 45, pos := "outright.go:73", after := #[{ on := 0, ground := Go.Ground.data }], guard := none }, { dst := some 23, op := Go.Op.fieldAddr 47 (Go.Operand.tmp 1) 1, type := 0, pos := "outright.go:73", after := #[], guard := none }, { dst := some 24, op := Go.Op.load 45 (Go.Operand.tmp 23), type := 45, pos := "outright.go:73", after := #[{ on := 2, ground := Go.Ground.data }], guard := none }, { dst := some 25, op := Go.Op.call { callee := Go.Callee.value (Go.Operand.func 42), args := #[Go.Operand.tmp 22, Go.Operand.tmp 24], argTypes := #[45, 45] }, type := 25, pos := "outright.go:73", after := #[{ on := 1, ground := Go.Ground.data }, { on := 3, ground := Go.Ground.data }], guard := none }, { dst := some 26, op := Go.Op.fieldAddr 47 (Go.Operand.tmp 1) 2, type := 0, pos := "outright.go:73", after := #[], guard := none }, { dst := some 27, op := Go.Op.load 45 (Go.Operand.tmp 26), type := 45, pos := "outright.go:73", after := #[{ on := 5, ground := Go.Ground.data }], guard := none }, { dst := some 28, op := Go.Op.fieldAddr 47 (Go.Operand.tmp 1) 3, type := 0, pos := "outright.go:73", after := #[], guard := none }, { dst := some 29, op := Go.Op.load 45 (Go.Operand.tmp 28), type := 45, pos := "outright.go:73", after := #[{ on := 7, ground := Go.Ground.data }], guard := none }, { dst := some 30, op := Go.Op.call { callee := Go.Callee.value (Go.Operand.func 42), args := #[Go.Operand.tmp 27, Go.Operand.tmp 29], argTypes := #[45, 45] }, type := 25, pos := "outright.go:73", after := #[{ on := 6, ground := Go.Ground.data }, { on := 8, ground := Go.Ground.data }, { on := 4, ground := Go.Ground.chain }], guard := none }, { dst := some 31, op := Go.Op.fieldAddr 47 (Go.Operand.tmp 1) 4, type := 0, pos := "outright.go:73", after := #[], guard := none }, { dst := some 32, op := Go.Op.load 45 (Go.Operand.tmp 31), type := 45, pos := "outright.go:73", after := #[{ on := 10, ground := Go.Ground.data }], guard := none }, { dst := some 33, op := Go.Op.fieldAddr 47 (Go.Operand.tmp 1) 5, type := 0, pos := "outright.go:73", after := #[], guard := none }, { dst := some 34, op := Go.Op.load 45 (Go.Operand.tmp 33), type := 45, pos := "outright.go:73", after := #[{ on := 12, ground := Go.Ground.data }], guard := none }, { dst := some 35, op := Go.Op.call { callee := Go.Callee.value (Go.Operand.func 42), args := #[Go.Operand.tmp 32, Go.Operand.tmp 34], argTypes := #[45, 45] }, type := 25, pos := "outright.go:73", after := #[{ on := 11, ground := Go.Ground.data }, { on := 13, ground := Go.Ground.data }, { on := 9, ground := Go.Ground.chain }], guard := none }, { dst := some 3, op := Go.Op.alloc 25, type := 0, pos := "outright.go:73", after := #[], guard := none }, { dst := some 4, op := Go.Op.alloc 25, type := 0, pos := "outright.go:73", after := #[], guard := none }, { dst := some 5, op := Go.Op.alloc 25, type := 0, pos := "outright.go:73", after := #[], guard := none }, { dst := none, op := Go.Op.store 25 (Go.Operand.tmp 3) (Go.Operand.tmp 25), type := 0, pos := "outright.go:73", after := #[{ on := 15, ground := Go.Ground.data }, { on := 4, ground := Go.Ground.data }, { on := 14, ground := Go.Ground.chain }, { on := 0, ground := Go.Ground.phase }, { on := 1, ground := Go.Ground.phase }, { on := 2, ground := Go.Ground.phase }, { on := 3, ground := Go.Ground.phase }, { on := 4, ground := Go.Ground.phase }, { on := 5, ground := Go.Ground.textOnly Go.Departure.lateStores }, { on := 6, ground := Go.Ground.textOnly Go.Departure.lateStores }, { on := 7, ground := Go.Ground.textOnly Go.Departure.lateStores }, { on := 8, ground := Go.Ground.textOnly Go.Departure.lateStores }, { on := 9, ground := Go.Ground.textOnly Go.Departure.lateStoresUnsure }, { on := 10, ground := Go.Ground.textOnly Go.Departure.lateStores }, { on := 11, ground := Go.Ground.textOnly Go.Departure.lateStores }, { on := 12, ground := Go.Ground.textOnly Go.Departure.lateStores }, { on := 13, ground := Go.Ground.textOnly Go.Departure.lateStores }, { on := 14, ground := Go.Ground.textOnly Go.Departure.lateStoresUnsure }, { on := 15, ground := Go.Ground.phase }, { on := 16, ground := Go.Ground.phase }, { on := 17, ground := Go.Ground.phase }], guard := none }, { dst := none, op := Go.Op.store 25 (Go.Operand.tmp 4) (Go.Operand.tmp 30), type := 0, pos := "outright.go:73", after := #[{ on := 16, ground := Go.Ground.data }, { on := 9, ground := Go.Ground.data }, { on := 18, ground := Go.Ground.chain }, { on := 0, ground := Go.Ground.phase }, { on := 1, ground := Go.Ground.phase }, { on := 2, ground := Go.Ground.phase }, { on := 3, ground := Go.Ground.phase }, { on := 4, ground := Go.Ground.phase }, { on := 5, ground := Go.Ground.phase }, { on := 6, ground := Go.Ground.phase }, { on := 7, ground := Go.Ground.phase }, { on := 8, ground := Go.Ground.phase }, { on := 9, ground := Go.Ground.phase }, { on := 10, ground := Go.Ground.textOnly Go.Departure.lateStores }, { on := 11, ground := Go.Ground.textOnly Go.Departure.lateStores }, { on := 12, ground := Go.Ground.textOnly Go.Departure.lateStores }, { on := 13, ground := Go.Ground.textOnly Go.Departure.lateStores }, { on := 14, ground := Go.Ground.textOnly Go.Departure.lateStoresUnsure }, { on := 15, ground := Go.Ground.phase }, { on := 16, ground := Go.Ground.phase }, { on := 17, ground := Go.Ground.phase }, { on := 18, ground := Go.Ground.phase }], guard := none }, { dst := none, op := Go.Op.store 25 (Go.Operand.tmp 5) (Go.Operand.tmp 35), type := 0, pos := "outright.go:73", after := #[{ on := 17, ground := Go.Ground.data }, { on := 14, ground := Go.Ground.data }, { on := 19, ground := Go.Ground.chain }, { on := 0, ground := Go.Ground.phase }, { on := 1, ground := Go.Ground.phase }, { on := 2, ground := Go.Ground.phase }, { on := 3, ground := Go.Ground.phase }, { on := 4, ground := Go.Ground.phase }, { on := 5, ground := Go.Ground.phase }, { on := 6, ground := Go.Ground.phase }, { on := 7, ground := Go.Ground.phase }, { on := 8, ground := Go.Ground.phase }, { on := 9, ground := Go.Ground.phase }, { on := 10, ground := Go.Ground.phase }, { on := 11, ground := Go.Ground.phase }, { on := 12, ground := Go.Ground.phase }, { on := 13, ground := Go.Ground.phase }, { on := 14, ground := Go.Ground.phase }, { on := 15, ground := Go.Ground.phase }, { on := 16, ground := Go.Ground.phase }, { on := 17, ground := Go.Ground.phase }, { on := 18, ground := Go.Ground.phase }, { on := 19, ground := Go.Ground.phase }], guard := none }]
theorem stpO4 {Q : Exit → Act → World → Prop} {K : Act → World → Prop} {a : Act} {w : World} {y1 y2 : Int} {q : Rat} (e1 : a.eval (.tmp 22) = .int .i16 y1) (e2 : a.eval (.tmp 24) = .int .i16 y2) (h : Calls Tryz.prog 42 #[.int .i16 y1, .int .i16 y2] w (SmallPost q w)) (hK : ∀ v w', Rv w' v q → Below w.heap.size w w' → K (a.put (some 25) v) w') :
    if Region.wanted ({ dst := some 25, op := Go.Op.call { callee := Go.Callee.value (Go.Operand.func 42), args := #[Go.Operand.tmp 22, Go.Operand.tmp 24], argTypes := #[45, 45] }, type := 25, pos := "outright.go:73", after := #[{ on := 1, ground := Go.Ground.data }, { on := 3, ground := Go.Ground.data }], guard := none } : Oper) (yielded opsO a.tmps) = true then Oper.wp Tryz.prog ({ dst := some 25, op := Go.Op.call { callee := Go.Callee.value (Go.Operand.func 42), args := #[Go.Operand.tmp 22, Go.Operand.tmp 24], argTypes := #[45, 45] }, type := 25, pos := "outright.go:73", after := #[{ on := 1, ground := Go.Ground.data }, { on := 3, ground := Go.Ground.data }], guard := none } : Oper) a w K Q else K (a.put (some 25) undef) w := by
  have g1 := ev_get e1
  have g2 := ev_get e2
  go_simp
  go_at_call 42
  refine h.mono ?_
  rintro e w' ⟨v, rfl, hv, hb⟩
  exact hK v w' hv hb
theorem stpO9 {Q : Exit → Act → World → Prop} {K : Act → World → Prop} {a : Act} {w : World} {y1 y2 : Int} {q : Rat} (e1 : a.eval (.tmp 27) = .int .i16 y1) (e2 : a.eval (.tmp 29) = .int .i16 y2) (h : Calls Tryz.prog 42 #[.int .i16 y1, .int .i16 y2] w (SmallPost q w)) (hK : ∀ v w', Rv w' v q → Below w.heap.size w w' → K (a.put (some 30) v) w') :
    if Region.wanted ({ dst := some 30, op := Go.Op.call { callee := Go.Callee.value (Go.Operand.func 42), args := #[Go.Operand.tmp 27, Go.Operand.tmp 29], argTypes := #[45, 45] }, type := 25, pos := "outright.go:73", after := #[{ on := 6, ground := Go.Ground.data }, { on := 8, ground := Go.Ground.data }, { on := 4, ground := Go.Ground.chain }], guard := none } : Oper) (yielded opsO a.tmps) = true then Oper.wp Tryz.prog ({ dst := some 30, op := Go.Op.call { callee := Go.Callee.value (Go.Operand.func 42), args := #[Go.Operand.tmp 27, Go.Operand.tmp 29], argTypes := #[45, 45] }, type := 25, pos := "outright.go:73", after := #[{ on := 6, ground := Go.Ground.data }, { on := 8, ground := Go.Ground.data }, { on := 4, ground := Go.Ground.chain }], guard := none } : Oper) a w K Q else K (a.put (some 30) undef) w := by
  have g1 := ev_get e1
  have g2 := ev_get e2
  go_simp
  go_at_call 42
  refine h.mono ?_
  rintro e w' ⟨v, rfl, hv, hb⟩
  exact hK v w' hv hb
theorem stpO14 {Q : Exit → Act → World → Prop} {K : Act → World → Prop} {a : Act} {w : World} {y1 y2 : Int} {q : Rat} (e1 : a.eval (.tmp 32) = .int .i16 y1) (e2 : a.eval (.tmp 34) = .int .i16 y2) (h : Calls Tryz.prog 42 #[.int .i16 y1, .int .i16 y2] w (SmallPost q w)) (hK : ∀ v w', Rv w' v q → Below w.heap.size w w' → K (a.put (some 35) v) w') :
    if Region.wanted ({ dst := some 35, op := Go.Op.call { callee := Go.Callee.value (Go.Operand.func 42), args := #[Go.Operand.tmp 32, Go.Operand.tmp 34], argTypes := #[45, 45] }, type := 25, pos := "outright.go:73", after := #[{ on := 11, ground := Go.Ground.data }, { on := 13, ground := Go.Ground.data }, { on := 9, ground := Go.Ground.chain }], guard := none } : Oper) (yielded opsO a.tmps) = true then Oper.wp Tryz.prog ({ dst := some 35, op := Go.Op.call { callee := Go.Callee.value (Go.Operand.func 42), args := #[Go.Operand.tmp 32, Go.Operand.tmp 34], argTypes := #[45, 45] }, type := 25, pos := "outright.go:73", after := #[{ on := 11, ground := Go.Ground.data }, { on := 13, ground := Go.Ground.data }, { on := 9, ground := Go.Ground.chain }], guard := none } : Oper) a w K Q else K (a.put (some 35) undef) w := by
  have g1 := ev_get e1
  have g2 := ev_get e2
  go_simp
  go_at_call 42
  refine h.mono ?_
  rintro e w' ⟨v, rfl, hv, hb⟩
  exact hK v w' hv hb
theorem stpO15 {Q : Exit → Act → World → Prop} {K : Act → World → Prop} {a : Act} {w : World} (hK : K (a.put (some 3) (.pointer (some ⟨w.heap.size, 0, none⟩))) (w.alloc (.cells #[.bool false, .slice none 0 0, .slice none 0 0] 25))) :
    if Region.wanted ({ dst := some 3, op := Go.Op.alloc 25, type := 0, pos := "outright.go:73", after := #[], guard := none } : Oper) (yielded opsO a.tmps) = true then Oper.wp Tryz.prog ({ dst := some 3, op := Go.Op.alloc 25, type := 0, pos := "outright.go:73", after := #[], guard := none } : Oper) a w K Q else K (a.put (some 3) undef) w := by
  go_simp
  exact hK
theorem stpO16 {Q : Exit → Act → World → Prop} {K : Act → World → Prop} {a : Act} {w : World} (hK : K (a.put (some 4) (.pointer (some ⟨w.heap.size, 0, none⟩))) (w.alloc (.cells #[.bool false, .slice none 0 0, .slice none 0 0] 25))) :
    if Region.wanted ({ dst := some 4, op := Go.Op.alloc 25, type := 0, pos := "outright.go:73", after := #[], guard := none } : Oper) (yielded opsO a.tmps) = true then Oper.wp Tryz.prog ({ dst := some 4, op := Go.Op.alloc 25, type := 0, pos := "outright.go:73", after := #[], guard := none } : Oper) a w K Q else K (a.put (some 4) undef) w := by
  go_simp
  exact hK
theorem stpO17 {Q : Exit → Act → World → Prop} {K : Act → World → Prop} {a : Act} {w : World} (hK : K (a.put (some 5) (.pointer (some ⟨w.heap.size, 0, none⟩))) (w.alloc (.cells #[.bool false, .slice none 0 0, .slice none 0 0] 25))) :
    if Region.wanted ({ dst := some 5, op := Go.Op.alloc 25, type := 0, pos := "outright.go:73", after := #[], guard := none } : Oper) (yielded opsO a.tmps) = true then Oper.wp Tryz.prog ({ dst := some 5, op := Go.Op.alloc 25, type := 0, pos := "outright.go:73", after := #[], guard := none } : Oper) a w K Q else K (a.put (some 5) undef) w := by
  go_simp
  exact hK
theorem stpO18 {Q : Exit → Act → World → Prop} {K : Act → World → Prop} {a : Act} {w : World} {x : Nat} {s : Bool} {A : Option Addr} {m c : Nat} {B : Option Addr} {k d : Nat} (e1 : a.eval (.tmp 3) = .pointer (some ⟨x, 0, none⟩)) (e2 : a.eval (.tmp 25) = .agg #[.bool s, .slice A m c, .slice B k d]) (h : ResZ x w)
    (hK : K a (((w.setCell ⟨x, 0, none⟩ (.bool s)).setCell ⟨x, 1, none⟩ (.slice A m c)).setCell ⟨x, 2, none⟩ (.slice B k d))) :
    if Region.wanted ({ dst := none, op := Go.Op.store 25 (Go.Operand.tmp 3) (Go.Operand.tmp 25), type := 0, pos := "outright.go:73", after := #[{ on := 15, ground := Go.Ground.data }, { on := 4, ground := Go.Ground.data }, { on := 14, ground := Go.Ground.chain }, { on := 0, ground := Go.Ground.phase }, { on := 1, ground := Go.Ground.phase }, { on := 2, ground := Go.Ground.phase }, { on := 3, ground := Go.Ground.phase }, { on := 4, ground := Go.Ground.phase }, { on := 5, ground := Go.Ground.textOnly Go.Departure.lateStores }, { on := 6, ground := Go.Ground.textOnly Go.Departure.lateStores }, { on := 7, ground := Go.Ground.textOnly Go.Departure.lateStores }, { on := 8, ground := Go.Ground.textOnly Go.Departure.lateStores }, { on := 9, ground := Go.Ground.textOnly Go.Departure.lateStoresUnsure }, { on := 10, ground := Go.Ground.textOnly Go.Departure.lateStores }, { on := 11, ground := Go.Ground.textOnly Go.Departure.lateStores }, { on := 12, ground := Go.Ground.textOnly Go.Departure.lateStores }, { on := 13, ground := Go.Ground.textOnly Go.Departure.lateStores }, { on := 14, ground := Go.Ground.textOnly Go.Departure.lateStoresUnsure }, { on := 15, ground := Go.Ground.phase }, { on := 16, ground := Go.Ground.phase }, { on := 17, ground := Go.Ground.phase }], guard := none } : Oper) (yielded opsO a.tmps) = true then Oper.wp Tryz.prog ({ dst := none, op := Go.Op.store 25 (Go.Operand.tmp 3) (Go.Operand.tmp 25), type := 0, pos := "outright.go:73", after := #[{ on := 15, ground := Go.Ground.data }, { on := 4, ground := Go.Ground.data }, { on := 14, ground := Go.Ground.chain }, { on := 0, ground := Go.Ground.phase }, { on := 1, ground := Go.Ground.phase }, { on := 2, ground := Go.Ground.phase }, { on := 3, ground := Go.Ground.phase }, { on := 4, ground := Go.Ground.phase }, { on := 5, ground := Go.Ground.textOnly Go.Departure.lateStores }, { on := 6, ground := Go.Ground.textOnly Go.Departure.lateStores }, { on := 7, ground := Go.Ground.textOnly Go.Departure.lateStores }, { on := 8, ground := Go.Ground.textOnly Go.Departure.lateStores }, { on := 9, ground := Go.Ground.textOnly Go.Departure.lateStoresUnsure }, { on := 10, ground := Go.Ground.textOnly Go.Departure.lateStores }, { on := 11, ground := Go.Ground.textOnly Go.Departure.lateStores }, { on := 12, ground := Go.Ground.textOnly Go.Departure.lateStores }, { on := 13, ground := Go.Ground.textOnly Go.Departure.lateStores }, { on := 14, ground := Go.Ground.textOnly Go.Departure.lateStoresUnsure }, { on := 15, ground := Go.Ground.phase }, { on := 16, ground := Go.Ground.phase }, { on := 17, ground := Go.Ground.phase }], guard := none } : Oper) a w K Q else K (a.put none undef) w := by
  have g1 := ev_get e1
  have g2 := ev_get e2
  obtain ⟨c0, c1, c2⟩ := Rt.cells h
  obtain ⟨f0, f1, f2⟩ := Rt.frozen h
  go_simp
  exact hK
theorem atO18 : opsO[18]? = some { dst := none, op := Go.Op.store 25 (Go.Operand.tmp 3) (Go.Operand.tmp 25), type := 0, pos := "outright.go:73", after := #[{ on := 15, ground := Go.Ground.data }, { on := 4, ground := Go.Ground.data }, { on := 14, ground := Go.Ground.chain }, { on := 0, ground := Go.Ground.phase }, { on := 1, ground := Go.Ground.phase }, { on := 2, ground := Go.Ground.phase }, { on := 3, ground := Go.Ground.phase }, { on := 4, ground := Go.Ground.phase }, { on := 5, ground := Go.Ground.textOnly Go.Departure.lateStores }, { on := 6, ground := Go.Ground.textOnly Go.Departure.lateStores }, { on := 7, ground := Go.Ground.textOnly Go.Departure.lateStores }, { on := 8, ground := Go.Ground.textOnly Go.Departure.lateStores }, { on := 9, ground := Go.Ground.textOnly Go.Departure.lateStoresUnsure }, { on := 10, ground := Go.Ground.textOnly Go.Departure.lateStores }, { on := 11, ground := Go.Ground.textOnly Go.Departure.lateStores }, { on := 12, ground := Go.Ground.textOnly Go.Departure.lateStores }, { on := 13, ground := Go.Ground.textOnly Go.Departure.lateStores }, { on := 14, ground := Go.Ground.textOnly Go.Departure.lateStoresUnsure }, { on := 15, ground := Go.Ground.phase }, { on := 16, ground := Go.Ground.phase }, { on := 17, ground := Go.Ground.phase }], guard := none } := rfl
theorem rdyO18 {Q : Exit → Act → World → Prop} {S : World → Prop} {fuel : Nat} {listed : Array Bool} {a : Act} {w W : World} {x : Nat} {s : Bool} {A : Option Addr} {m c : Nat} {B : Option Addr} {k d : Nat} (e1 : a.eval (.tmp 3) = .pointer (some ⟨x, 0, none⟩)) (e2 : a.eval (.tmp 25) = .agg #[.bool s, .slice A m c, .slice B k d]) (h : ResZ x w)
    (hW : W = ((w.setCell ⟨x, 0, none⟩ (.bool s)).setCell ⟨x, 1, none⟩ (.slice A m c)).setCell ⟨x, 2, none⟩ (.slice B k d)) (hS : S W) (hK : wpAnyH Tryz.prog .any opsO Q S fuel (listed.setIfInBounds 18 true) a W) : AllReadyH Tryz.prog .any opsO Q S fuel listed a w [18] :=
  AllReadyH.cons atO18 (fun K hK' => stpO18 e1 e2 h (by rw [← hW]; exact hK'.out _ _ hS (fun _ => hK))) AllReadyH.nil
theorem stpO19 {Q : Exit → Act → World → Prop} {K : Act → World → Prop} {a : Act} {w : World} {x : Nat} {s : Bool} {A : Option Addr} {m c : Nat} {B : Option Addr} {k d : Nat} (e1 : a.eval (.tmp 4) = .pointer (some ⟨x, 0, none⟩)) (e2 : a.eval (.tmp 30) = .agg #[.bool s, .slice A m c, .slice B k d]) (h : ResZ x w)
    (hK : K a (((w.setCell ⟨x, 0, none⟩ (.bool s)).setCell ⟨x, 1, none⟩ (.slice A m c)).setCell ⟨x, 2, none⟩ (.slice B k d))) :
    if Region.wanted ({ dst := none, op := Go.Op.store 25 (Go.Operand.tmp 4) (Go.Operand.tmp 30), type := 0, pos := "outright.go:73", after := #[{ on := 16, ground := Go.Ground.data }, { on := 9, ground := Go.Ground.data }, { on := 18, ground := Go.Ground.chain }, { on := 0, ground := Go.Ground.phase }, { on := 1, ground := Go.Ground.phase }, { on := 2, ground := Go.Ground.phase }, { on := 3, ground := Go.Ground.phase }, { on := 4, ground := Go.Ground.phase }, { on := 5, ground := Go.Ground.phase }, { on := 6, ground := Go.Ground.phase }, { on := 7, ground := Go.Ground.phase }, { on := 8, ground := Go.Ground.phase }, { on := 9, ground := Go.Ground.phase }, { on := 10, ground := Go.Ground.textOnly Go.Departure.lateStores }, { on := 11, ground := Go.Ground.textOnly Go.Departure.lateStores }, { on := 12, ground := Go.Ground.textOnly Go.Departure.lateStores }, { on := 13, ground := Go.Ground.textOnly Go.Departure.lateStores }, { on := 14, ground := Go.Ground.textOnly Go.Departure.lateStoresUnsure }, { on := 15, ground := Go.Ground.phase }, { on := 16, ground := Go.Ground.phase }, { on := 17, ground := Go.Ground.phase }, { on := 18, ground := Go.Ground.phase }], guard := none } : Oper) (yielded opsO a.tmps) = true then Oper.wp Tryz.prog ({ dst := none, op := Go.Op.store 25 (Go.Operand.tmp 4) (Go.Operand.tmp 30), type := 0, pos := "outright.go:73", after := #[{ on := 16, ground := Go.Ground.data }, { on := 9, ground := Go.Ground.data }, { on := 18, ground := Go.Ground.chain }, { on := 0, ground := Go.Ground.phase }, { on := 1, ground := Go.Ground.phase }, { on := 2, ground := Go.Ground.phase }, { on := 3, ground := Go.Ground.phase }, { on := 4, ground := Go.Ground.phase }, { on := 5, ground := Go.Ground.phase }, { on := 6, ground := Go.Ground.phase }, { on := 7, ground := Go.Ground.phase }, { on := 8, ground := Go.Ground.phase }, { on := 9, ground := Go.Ground.phase }, { on := 10, ground := Go.Ground.textOnly Go.Departure.lateStores }, { on := 11, ground := Go.Ground.textOnly Go.Departure.lateStores }, { on := 12, ground := Go.Ground.textOnly Go.Departure.lateStores }, { on := 13, ground := Go.Ground.textOnly Go.Departure.lateStores }, { on := 14, ground := Go.Ground.textOnly Go.Departure.lateStoresUnsure }, { on := 15, ground := Go.Ground.phase }, { on := 16, ground := Go.Ground.phase }, { on := 17, ground := Go.Ground.phase }, { on := 18, ground := Go.Ground.phase }], guard := none } : Oper) a w K Q else K (a.put none undef) w := by
  have g1 := ev_get e1
  have g2 := ev_get e2
  obtain ⟨c0, c1, c2⟩ := Rt.cells h
  obtain ⟨f0, f1, f2⟩ := Rt.frozen h
  go_simp
  exact hK
theorem atO19 : opsO[19]? = some { dst := none, op := Go.Op.store 25 (Go.Operand.tmp 4) (Go.Operand.tmp 30), type := 0, pos := "outright.go:73", after := #[{ on := 16, ground := Go.Ground.data }, { on := 9, ground := Go.Ground.data }, { on := 18, ground := Go.Ground.chain }, { on := 0, ground := Go.Ground.phase }, { on := 1, ground := Go.Ground.phase }, { on := 2, ground := Go.Ground.phase }, { on := 3, ground := Go.Ground.phase }, { on := 4, ground := Go.Ground.phase }, { on := 5, ground := Go.Ground.phase }, { on := 6, ground := Go.Ground.phase }, { on := 7, ground := Go.Ground.phase }, { on := 8, ground := Go.Ground.phase }, { on := 9, ground := Go.Ground.phase }, { on := 10, ground := Go.Ground.textOnly Go.Departure.lateStores }, { on := 11, ground := Go.Ground.textOnly Go.Departure.lateStores }, { on := 12, ground := Go.Ground.textOnly Go.Departure.lateStores }, { on := 13, ground := Go.Ground.textOnly Go.Departure.lateStores }, { on := 14, ground := Go.Ground.textOnly Go.Departure.lateStoresUnsure }, { on := 15, ground := Go.Ground.phase }, { on := 16, ground := Go.Ground.phase }, { on := 17, ground := Go.Ground.phase }, { on := 18, ground := Go.Ground.phase }], guard := none } := rfl
theorem rdyO19 {Q : Exit → Act → World → Prop} {S : World → Prop} {fuel : Nat} {listed : Array Bool} {a : Act} {w W : World} {x : Nat} {s : Bool} {A : Option Addr} {m c : Nat} {B : Option Addr} {k d : Nat} (e1 : a.eval (.tmp 4) = .pointer (some ⟨x, 0, none⟩)) (e2 : a.eval (.tmp 30) = .agg #[.bool s, .slice A m c, .slice B k d]) (h : ResZ x w)
    (hW : W = ((w.setCell ⟨x, 0, none⟩ (.bool s)).setCell ⟨x, 1, none⟩ (.slice A m c)).setCell ⟨x, 2, none⟩ (.slice B k d)) (hS : S W) (hK : wpAnyH Tryz.prog .any opsO Q S fuel (listed.setIfInBounds 19 true) a W) : AllReadyH Tryz.prog .any opsO Q S fuel listed a w [19] :=
  AllReadyH.cons atO19 (fun K hK' => stpO19 e1 e2 h (by rw [← hW]; exact hK'.out _ _ hS (fun _ => hK))) AllReadyH.nil
theorem stpO20 {Q : Exit → Act → World → Prop} {K : Act → World → Prop} {a : Act} {w : World} {x : Nat} {s : Bool} {A : Option Addr} {m c : Nat} {B : Option Addr} {k d : Nat} (e1 : a.eval (.tmp 5) = .pointer (some ⟨x, 0, none⟩)) (e2 : a.eval (.tmp 35) = .agg #[.bool s, .slice A m c, .slice B k d]) (h : ResZ x w)
    (hK : K a (((w.setCell ⟨x, 0, none⟩ (.bool s)).setCell ⟨x, 1, none⟩ (.slice A m c)).setCell ⟨x, 2, none⟩ (.slice B k d))) :
    if Region.wanted ({ dst := none, op := Go.Op.store 25 (Go.Operand.tmp 5) (Go.Operand.tmp 35), type := 0, pos := "outright.go:73", after := #[{ on := 17, ground := Go.Ground.data }, { on := 14, ground := Go.Ground.data }, { on := 19, ground := Go.Ground.chain }, { on := 0, ground := Go.Ground.phase }, { on := 1, ground := Go.Ground.phase }, { on := 2, ground := Go.Ground.phase }, { on := 3, ground := Go.Ground.phase }, { on := 4, ground := Go.Ground.phase }, { on := 5, ground := Go.Ground.phase }, { on := 6, ground := Go.Ground.phase }, { on := 7, ground := Go.Ground.phase }, { on := 8, ground := Go.Ground.phase }, { on := 9, ground := Go.Ground.phase }, { on := 10, ground := Go.Ground.phase }, { on := 11, ground := Go.Ground.phase }, { on := 12, ground := Go.Ground.phase }, { on := 13, ground := Go.Ground.phase }, { on := 14, ground := Go.Ground.phase }, { on := 15, ground := Go.Ground.phase }, { on := 16, ground := Go.Ground.phase }, { on := 17, ground := Go.Ground.phase }, { on := 18, ground := Go.Ground.phase }, { on := 19, ground := Go.Ground.phase }], guard := none } : Oper) (yielded opsO a.tmps) = true then Oper.wp Tryz.prog ({ dst := none, op := Go.Op.store 25 (Go.Operand.tmp 5) (Go.Operand.tmp 35), type := 0, pos := "outright.go:73", after := #[{ on := 17, ground := Go.Ground.data }, { on := 14, ground := Go.Ground.data }, { on := 19, ground := Go.Ground.chain }, { on := 0, ground := Go.Ground.phase }, { on := 1, ground := Go.Ground.phase }, { on := 2, ground := Go.Ground.phase }, { on := 3, ground := Go.Ground.phase }, { on := 4, ground := Go.Ground.phase }, { on := 5, ground := Go.Ground.phase }, { on := 6, ground := Go.Ground.phase }, { on := 7, ground := Go.Ground.phase }, { on := 8, ground := Go.Ground.phase }, { on := 9, ground := Go.Ground.phase }, { on := 10, ground := Go.Ground.phase }, { on := 11, ground := Go.Ground.phase }, { on := 12, ground := Go.Ground.phase }, { on := 13, ground := Go.Ground.phase }, { on := 14, ground := Go.Ground.phase }, { on := 15, ground := Go.Ground.phase }, { on := 16, ground := Go.Ground.phase }, { on := 17, ground := Go.Ground.phase }, { on := 18, ground := Go.Ground.phase }, { on := 19, ground := Go.Ground.phase }], guard := none } : Oper) a w K Q else K (a.put none undef) w := by
  have g1 := ev_get e1
  have g2 := ev_get e2
  obtain ⟨c0, c1, c2⟩ := Rt.cells h
  obtain ⟨f0, f1, f2⟩ := Rt.frozen h
  go_simp
  exact hK
theorem atO20 : opsO[20]? = some { dst := none, op := Go.Op.store 25 (Go.Operand.tmp 5) (Go.Operand.tmp 35), type := 0, pos := "outright.go:73", after := #[{ on := 17, ground := Go.Ground.data }, { on := 14, ground := Go.Ground.data }, { on := 19, ground := Go.Ground.chain }, { on := 0, ground := Go.Ground.phase }, { on := 1, ground := Go.Ground.phase }, { on := 2, ground := Go.Ground.phase }, { on := 3, ground := Go.Ground.phase }, { on := 4, ground := Go.Ground.phase }, { on := 5, ground := Go.Ground.phase }, { on := 6, ground := Go.Ground.phase }, { on := 7, ground := Go.Ground.phase }, { on := 8, ground := Go.Ground.phase }, { on := 9, ground := Go.Ground.phase }, { on := 10, ground := Go.Ground.phase }, { on := 11, ground := Go.Ground.phase }, { on := 12, ground := Go.Ground.phase }, { on := 13, ground := Go.Ground.phase }, { on := 14, ground := Go.Ground.phase }, { on := 15, ground := Go.Ground.phase }, { on := 16, ground := Go.Ground.phase }, { on := 17, ground := Go.Ground.phase }, { on := 18, ground := Go.Ground.phase }, { on := 19, ground := Go.Ground.phase }], guard := none } := rfl
theorem rdyO20 {Q : Exit → Act → World → Prop} {S : World → Prop} {fuel : Nat} {listed : Array Bool} {a : Act} {w W : World} {x : Nat} {s : Bool} {A : Option Addr} {m c : Nat} {B : Option Addr} {k d : Nat} (e1 : a.eval (.tmp 5) = .pointer (some ⟨x, 0, none⟩)) (e2 : a.eval (.tmp 35) = .agg #[.bool s, .slice A m c, .slice B k d]) (h : ResZ x w)
    (hW : W = ((w.setCell ⟨x, 0, none⟩ (.bool s)).setCell ⟨x, 1, none⟩ (.slice A m c)).setCell ⟨x, 2, none⟩ (.slice B k d)) (hS : S W) (hK : wpAnyH Tryz.prog .any opsO Q S fuel (listed.setIfInBounds 20 true) a W) : AllReadyH Tryz.prog .any opsO Q S fuel listed a w [20] :=
  AllReadyH.cons atO20 (fun K hK' => stpO20 e1 e2 h (by rw [← hW]; exact hK'.out _ _ hS (fun _ => hK))) AllReadyH.nil
theorem ylO0 {a : Act} {g : Nat} {S : World → Prop} (e : a.eval (.tmp 1) = .pointer (some ⟨g, 0, none⟩)) : YieldsIf Tryz.prog opsO S ({ dst := some 21, op := Go.Op.fieldAddr 47 (Go.Operand.tmp 1) 0, type := 0, pos := "outright.go:73", after := #[], guard := none } : Oper) (.pointer (some ⟨g, 0, none⟩)) a := by
  have g1 := ev_get e
  refine Or.inl ⟨rfl, fun w _ => ?_⟩
  go_simp
theorem ylO1 {a : Act} {g : Nat} {z0 z1 z2 z3 z4 z5 : Int} (e : a.eval (.tmp 21) = .pointer (some ⟨g, 0, none⟩)) : YieldsIf Tryz.prog opsO (SixC g z0 z1 z2 z3 z4 z5) ({ dst := some 22, op := Go.Op.load 45 (Go.Operand.tmp 21), type := 45, pos := "outright.go:73", after := #[{ on := 0, ground := Go.Ground.data }], guard := none } : Oper) (.int .i16 z0) a := by
  have g1 := ev_get e
  refine Or.inl ⟨rfl, fun w hS => ?_⟩
  obtain ⟨-, h0, h1, h2, h3, h4, h5⟩ := hS
  go_simp
theorem ylO2 {a : Act} {g : Nat} {S : World → Prop} (e : a.eval (.tmp 1) = .pointer (some ⟨g, 0, none⟩)) : YieldsIf Tryz.prog opsO S ({ dst := some 23, op := Go.Op.fieldAddr 47 (Go.Operand.tmp 1) 1, type := 0, pos := "outright.go:73", after := #[], guard := none } : Oper) (.pointer (some ⟨g, 1, none⟩)) a := by
  have g1 := ev_get e
  refine Or.inl ⟨rfl, fun w _ => ?_⟩
  go_simp
theorem ylO3 {a : Act} {g : Nat} {z0 z1 z2 z3 z4 z5 : Int} (e : a.eval (.tmp 23) = .pointer (some ⟨g, 1, none⟩)) : YieldsIf Tryz.prog opsO (SixC g z0 z1 z2 z3 z4 z5) ({ dst := some 24, op := Go.Op.load 45 (Go.Operand.tmp 23), type := 45, pos := "outright.go:73", after := #[{ on := 2, ground := Go.Ground.data }], guard := none } : Oper) (.int .i16 z1) a := by
  have g1 := ev_get e
  refine Or.inl ⟨rfl, fun w hS => ?_⟩
  obtain ⟨-, h0, h1, h2, h3, h4, h5⟩ := hS
  go_simp
theorem ylO5 {a : Act} {g : Nat} {S : World → Prop} (e : a.eval (.tmp 1) = .pointer (some ⟨g, 0, none⟩)) : YieldsIf Tryz.prog opsO S ({ dst := some 26, op := Go.Op.fieldAddr 47 (Go.Operand.tmp 1) 2, type := 0, pos := "outright.go:73", after := #[], guard := none } : Oper) (.pointer (some ⟨g, 2, none⟩)) a := by
  have g1 := ev_get e
  refine Or.inl ⟨rfl, fun w _ => ?_⟩
  go_simp
theorem ylO6 {a : Act} {g : Nat} {z0 z1 z2 z3 z4 z5 : Int} (e : a.eval (.tmp 26) = .pointer (some ⟨g, 2, none⟩)) : YieldsIf Tryz.prog opsO (SixC g z0 z1 z2 z3 z4 z5) ({ dst := some 27, op := Go.Op.load 45 (Go.Operand.tmp 26), type := 45, pos := "outright.go:73", after := #[{ on := 5, ground := Go.Ground.data }], guard := none } : Oper) (.int .i16 z2) a := by
  have g1 := ev_get e
  refine Or.inl ⟨rfl, fun w hS => ?_⟩
  obtain ⟨-, h0, h1, h2, h3, h4, h5⟩ := hS
  go_simp
theorem ylO7 {a : Act} {g : Nat} {S : World → Prop} (e : a.eval (.tmp 1) = .pointer (some ⟨g, 0, none⟩)) : YieldsIf Tryz.prog opsO S ({ dst := some 28, op := Go.Op.fieldAddr 47 (Go.Operand.tmp 1) 3, type := 0, pos := "outright.go:73", after := #[], guard := none } : Oper) (.pointer (some ⟨g, 3, none⟩)) a := by
  have g1 := ev_get e
  refine Or.inl ⟨rfl, fun w _ => ?_⟩
  go_simp
theorem ylO8 {a : Act} {g : Nat} {z0 z1 z2 z3 z4 z5 : Int} (e : a.eval (.tmp 28) = .pointer (some ⟨g, 3, none⟩)) : YieldsIf Tryz.prog opsO (SixC g z0 z1 z2 z3 z4 z5) ({ dst := some 29, op := Go.Op.load 45 (Go.Operand.tmp 28), type := 45, pos := "outright.go:73", after := #[{ on := 7, ground := Go.Ground.data }], guard := none } : Oper) (.int .i16 z3) a := by
  have g1 := ev_get e
  refine Or.inl ⟨rfl, fun w hS => ?_⟩
  obtain ⟨-, h0, h1, h2, h3, h4, h5⟩ := hS
  go_simp
theorem ylO10 {a : Act} {g : Nat} {S : World → Prop} (e : a.eval (.tmp 1) = .pointer (some ⟨g, 0, none⟩)) : YieldsIf Tryz.prog opsO S ({ dst := some 31, op := Go.Op.fieldAddr 47 (Go.Operand.tmp 1) 4, type := 0, pos := "outright.go:73", after := #[], guard := none } : Oper) (.pointer (some ⟨g, 4, none⟩)) a := by
  have g1 := ev_get e
  refine Or.inl ⟨rfl, fun w _ => ?_⟩
  go_simp
theorem ylO11 {a : Act} {g : Nat} {z0 z1 z2 z3 z4 z5 : Int} (e : a.eval (.tmp 31) = .pointer (some ⟨g, 4, none⟩)) : YieldsIf Tryz.prog opsO (SixC g z0 z1 z2 z3 z4 z5) ({ dst := some 32, op := Go.Op.load 45 (Go.Operand.tmp 31), type := 45, pos := "outright.go:73", after := #[{ on := 10, ground := Go.Ground.data }], guard := none } : Oper) (.int .i16 z4) a := by
  have g1 := ev_get e
  refine Or.inl ⟨rfl, fun w hS => ?_⟩
  obtain ⟨-, h0, h1, h2, h3, h4, h5⟩ := hS
  go_simp
theorem ylO12 {a : Act} {g : Nat} {S : World → Prop} (e : a.eval (.tmp 1) = .pointer (some ⟨g, 0, none⟩)) : YieldsIf Tryz.prog opsO S ({ dst := some 33, op := Go.Op.fieldAddr 47 (Go.Operand.tmp 1) 5, type := 0, pos := "outright.go:73", after := #[], guard := none } : Oper) (.pointer (some ⟨g, 5, none⟩)) a := by
  have g1 := ev_get e
  refine Or.inl ⟨rfl, fun w _ => ?_⟩
  go_simp
theorem ylO13 {a : Act} {g : Nat} {z0 z1 z2 z3 z4 z5 : Int} (e : a.eval (.tmp 33) = .pointer (some ⟨g, 5, none⟩)) : YieldsIf Tryz.prog opsO (SixC g z0 z1 z2 z3 z4 z5) ({ dst := some 34, op := Go.Op.load 45 (Go.Operand.tmp 33), type := 45, pos := "outright.go:73", after := #[{ on := 12, ground := Go.Ground.data }], guard := none } : Oper) (.int .i16 z5) a := by
  have g1 := ev_get e
  refine Or.inl ⟨rfl, fun w hS => ?_⟩
  obtain ⟨-, h0, h1, h2, h3, h4, h5⟩ := hS
  go_simp
def sqO (g : Nat) (z0 z1 z2 z3 z4 z5 : Int) (a : Act) : Act := ((((((((((((a.put (some 21) (.pointer (some ⟨g, 0, none⟩))).put (some 22) (.int .i16 z0)).put (some 23) (.pointer (some ⟨g, 1, none⟩))).put (some 24) (.int .i16 z1)).put (some 26) (.pointer (some ⟨g, 2, none⟩))).put (some 27) (.int .i16 z2)).put (some 28) (.pointer (some ⟨g, 3, none⟩))).put (some 29) (.int .i16 z3)).put (some 31) (.pointer (some ⟨g, 4, none⟩))).put (some 32) (.int .i16 z4)).put (some 33) (.pointer (some ⟨g, 5, none⟩))).put (some 34) (.int .i16 z5))
def wpO15 (x : Nat) (a : Act) : Act := a.put (some 3) (.pointer (some ⟨x, 0, none⟩))
def wpO16 (x : Nat) (a : Act) : Act := a.put (some 4) (.pointer (some ⟨x, 0, none⟩))
def wpO17 (x : Nat) (a : Act) : Act := a.put (some 5) (.pointer (some ⟨x, 0, none⟩))
def wpO4 (v : Value) (a : Act) : Act := a.put (some 25) v
def wpO9 (v : Value) (a : Act) : Act := a.put (some 30) v
def wpO14 (v : Value) (a : Act) : Act := a.put (some 35) v
theorem wsO15_16 (x : Nat) (y : Nat) (a : Act) : wpO15 x (wpO16 y a) = wpO16 y (wpO15 x a) := put_lt (by decide) _ _ _
theorem wsO15_17 (x : Nat) (y : Nat) (a : Act) : wpO15 x (wpO17 y a) = wpO17 y (wpO15 x a) := put_lt (by decide) _ _ _
theorem wsO15_4 (x : Nat) (y : Value) (a : Act) : wpO15 x (wpO4 y a) = wpO4 y (wpO15 x a) := put_lt (by decide) _ _ _
theorem wsO15_9 (x : Nat) (y : Value) (a : Act) : wpO15 x (wpO9 y a) = wpO9 y (wpO15 x a) := put_lt (by decide) _ _ _
theorem wsO15_14 (x : Nat) (y : Value) (a : Act) : wpO15 x (wpO14 y a) = wpO14 y (wpO15 x a) := put_lt (by decide) _ _ _
theorem wsO16_17 (x : Nat) (y : Nat) (a : Act) : wpO16 x (wpO17 y a) = wpO17 y (wpO16 x a) := put_lt (by decide) _ _ _
theorem wsO16_4 (x : Nat) (y : Value) (a : Act) : wpO16 x (wpO4 y a) = wpO4 y (wpO16 x a) := put_lt (by decide) _ _ _
theorem wsO16_9 (x : Nat) (y : Value) (a : Act) : wpO16 x (wpO9 y a) = wpO9 y (wpO16 x a) := put_lt (by decide) _ _ _
theorem wsO16_14 (x : Nat) (y : Value) (a : Act) : wpO16 x (wpO14 y a) = wpO14 y (wpO16 x a) := put_lt (by decide) _ _ _
theorem wsO17_4 (x : Nat) (y : Value) (a : Act) : wpO17 x (wpO4 y a) = wpO4 y (wpO17 x a) := put_lt (by decide) _ _ _
theorem wsO17_9 (x : Nat) (y : Value) (a : Act) : wpO17 x (wpO9 y a) = wpO9 y (wpO17 x a) := put_lt (by decide) _ _ _
theorem wsO17_14 (x : Nat) (y : Value) (a : Act) : wpO17 x (wpO14 y a) = wpO14 y (wpO17 x a) := put_lt (by decide) _ _ _
theorem wsO4_9 (x : Value) (y : Value) (a : Act) : wpO4 x (wpO9 y a) = wpO9 y (wpO4 x a) := put_lt (by decide) _ _ _
theorem wsO4_14 (x : Value) (y : Value) (a : Act) : wpO4 x (wpO14 y a) = wpO14 y (wpO4 x a) := put_lt (by decide) _ _ _
theorem wsO9_14 (x : Value) (y : Value) (a : Act) : wpO9 x (wpO14 y a) = wpO14 y (wpO9 x a) := put_lt (by decide) _ _ _
section
variable (Q : Exit → Act → World → Prop) (w0 : World) (a : Act) (g : Nat) (z0 z1 z2 z3 z4 z5 : Int) (q1 q2 q3 : Rat) (ha : a.tmps.size = 155) (hg : a.eval (.tmp 1) = .pointer (some ⟨g, 0, none⟩)) (hgl : g < w0.heap.size) (hp : ∀ (d : Nat) v c b w, Q (.panic c) (Act.put b (some d) v) w → Q (.panic c) b w)
  (h1 : ∀ X, Calls Tryz.prog 42 #[.int .i16 z0, .int .i16 z1] X (SmallPost q1 X)) (h2 : ∀ X, Calls Tryz.prog 42 #[.int .i16 z2, .int .i16 z3] X (SmallPost q2 X)) (h3 : ∀ X, Calls Tryz.prog 42 #[.int .i16 z4, .int .i16 z5] X (SmallPost q3 X))
  (hQ : ∀ (w : World) (x1 x2 x3 : Nat) (v1 v2 v3 : Value), Below w0.heap.size w0 w → FB w x1 v1 q1 → FB w x2 v2 q2 → FB w x3 v3 q3 → (w0.heap.size ≤ x1 ∧ w0.heap.size ≤ x2 ∧ w0.heap.size ≤ x3 ∧ x1 ≠ x2 ∧ x1 ≠ x3 ∧ x2 ≠ x3) → Q .normal (wpO14 v3 (wpO9 v2 (wpO4 v1 (wpO17 x3 (wpO16 x2 (wpO15 x1 (sqO g z0 z1 z2 z3 z4 z5 a))))))) w)
include ha hg hgl hp h1 h2 h3 hQ
set_option maxHeartbeats 4000000 in
theorem stO3111 (w : World) (x1 x2 x3 : Nat) (v1 v2 v3 : Value) (hS : SixC g z0 z1 z2 z3 z4 z5 w) (hb : Below w0.heap.size w0 w) (r1 : ResZ x1 w) (k1 : w0.heap.size ≤ x1) (r2 : ResZ x2 w) (k2 : w0.heap.size ≤ x2) (r3 : ResZ x3 w) (k3 : w0.heap.size ≤ x3) (n12 : x1 ≠ x2) (n13 : x1 ≠ x3) (n23 : x2 ≠ x3) (f1 : Rv w v1 q1) (f2 : Rv w v2 q2) (f3 : Rv w v3 q3) :
    wpAnyH Tryz.prog .any opsO Q (SixC g z0 z1 z2 z3 z4 z5) 3 #[true, true, true, true, true, true, true, true, true, true, true, true, true, true, true, true, true, true, false, false, false] (wpO14 v3 (wpO9 v2 (wpO4 v1 (wpO17 x3 (wpO16 x2 (wpO15 x1 (sqO g z0 z1 z2 z3 z4 z5 a))))))) w := by
  have _hp := hp
  have _u1 := hg
  have _u2 := h1
  have _u3 := h2
  have _u4 := h3
  have _u5 := hgl
  obtain ⟨A1, c1, B1, d1, rfl⟩ := f1.open
  obtain ⟨A2, c2, B2, d2, rfl⟩ := f2.open
  obtain ⟨A3, c3, B3, d3, rfl⟩ := f3.open
  have g1 : g ≠ x1 := by omega
  have g2 : g ≠ x2 := by omega
  have g3 : g ≠ x3 := by omega
  obtain ⟨W1, hW1⟩ : ∃ W, W = ((w.setCell ⟨x1, 0, none⟩ (.bool (qneg q1))).setCell ⟨x1, 1, none⟩ (.slice A1 (nat q1.num.natAbs).length c1)).setCell ⟨x1, 2, none⟩ (.slice B1 (nat q1.den).length d1) := ⟨_, rfl⟩
  have hS1 : SixC g z0 z1 z2 z3 z4 z5 W1 := by subst hW1; exact hS.store3 g1 _ _ _
  refine wpAnyH_ready (rs := [18]) (by kernel_rfl) (by simp) (rdyO18 (by simp [wpO15, wpO16, wpO17, wpO4, wpO9, wpO14, sqO, eval_put, put_size, ha, hg]) (by simp [wpO15, wpO16, wpO17, wpO4, wpO9, wpO14, sqO, eval_put, put_size, ha, hg]) r1 hW1 hS1 ?_)
  have hb1 : Below w0.heap.size w0 W1 := by subst hW1; exact below_store3 hb k1 _ _ _
  have b1 : FB W1 x1 (.agg #[.bool (qneg q1), .slice A1 (nat q1.num.natAbs).length c1, .slice B1 (nat q1.den).length d1]) q1 := by subst hW1; exact ⟨_, _, rfl, Bq.storeS f1 r1.rt⟩
  replace f2 : Rv W1 (.agg #[.bool (qneg q2), .slice A2 (nat q2.num.natAbs).length c2, .slice B2 (nat q2.den).length d2]) q2 := by subst hW1; exact f2.storeR r1.rt _ _ _
  replace r2 : ResZ x2 W1 := by subst hW1; exact resz_keep r2 (by omega) _ _ _
  replace f3 : Rv W1 (.agg #[.bool (qneg q3), .slice A3 (nat q3.num.natAbs).length c3, .slice B3 (nat q3.den).length d3]) q3 := by subst hW1; exact f3.storeR r1.rt _ _ _
  replace r3 : ResZ x3 W1 := by subst hW1; exact resz_keep r3 (by omega) _ _ _
  clear hW1
  obtain ⟨W2, hW2⟩ : ∃ W, W = ((W1.setCell ⟨x2, 0, none⟩ (.bool (qneg q2))).setCell ⟨x2, 1, none⟩ (.slice A2 (nat q2.num.natAbs).length c2)).setCell ⟨x2, 2, none⟩ (.slice B2 (nat q2.den).length d2) := ⟨_, rfl⟩
  have hS2 : SixC g z0 z1 z2 z3 z4 z5 W2 := by subst hW2; exact hS1.store3 g2 _ _ _
  refine wpAnyH_ready (rs := [19]) (by kernel_rfl) (by simp) (rdyO19 (by simp [wpO15, wpO16, wpO17, wpO4, wpO9, wpO14, sqO, eval_put, put_size, ha, hg]) (by simp [wpO15, wpO16, wpO17, wpO4, wpO9, wpO14, sqO, eval_put, put_size, ha, hg]) r2 hW2 hS2 ?_)
  have hb2 : Below w0.heap.size w0 W2 := by subst hW2; exact below_store3 hb1 k2 _ _ _
  have b2 : FB W2 x2 (.agg #[.bool (qneg q2), .slice A2 (nat q2.num.natAbs).length c2, .slice B2 (nat q2.den).length d2]) q2 := by subst hW2; exact ⟨_, _, rfl, Bq.storeS f2 r2.rt⟩
  replace b1 : FB W2 x1 (.agg #[.bool (qneg q1), .slice A1 (nat q1.num.natAbs).length c1, .slice B1 (nat q1.den).length d1]) q1 := by subst hW2; exact b1.storeO r2.rt (by omega) _ _ _
  replace f3 : Rv W2 (.agg #[.bool (qneg q3), .slice A3 (nat q3.num.natAbs).length c3, .slice B3 (nat q3.den).length d3]) q3 := by subst hW2; exact f3.storeR r2.rt _ _ _
  replace r3 : ResZ x3 W2 := by subst hW2; exact resz_keep r3 (by omega) _ _ _
  clear hW2
  obtain ⟨W3, hW3⟩ : ∃ W, W = ((W2.setCell ⟨x3, 0, none⟩ (.bool (qneg q3))).setCell ⟨x3, 1, none⟩ (.slice A3 (nat q3.num.natAbs).length c3)).setCell ⟨x3, 2, none⟩ (.slice B3 (nat q3.den).length d3) := ⟨_, rfl⟩
  have hS3 : SixC g z0 z1 z2 z3 z4 z5 W3 := by subst hW3; exact hS2.store3 g3 _ _ _
  refine wpAnyH_ready (rs := [20]) (by kernel_rfl) (by simp) (rdyO20 (by simp [wpO15, wpO16, wpO17, wpO4, wpO9, wpO14, sqO, eval_put, put_size, ha, hg]) (by simp [wpO15, wpO16, wpO17, wpO4, wpO9, wpO14, sqO, eval_put, put_size, ha, hg]) r3 hW3 hS3 ?_)
  have hb3 : Below w0.heap.size w0 W3 := by subst hW3; exact below_store3 hb2 k3 _ _ _
  have b3 : FB W3 x3 (.agg #[.bool (qneg q3), .slice A3 (nat q3.num.natAbs).length c3, .slice B3 (nat q3.den).length d3]) q3 := by subst hW3; exact ⟨_, _, rfl, Bq.storeS f3 r3.rt⟩
  replace b1 : FB W3 x1 (.agg #[.bool (qneg q1), .slice A1 (nat q1.num.natAbs).length c1, .slice B1 (nat q1.den).length d1]) q1 := by subst hW3; exact b1.storeO r3.rt (by omega) _ _ _
  replace b2 : FB W3 x2 (.agg #[.bool (qneg q2), .slice A2 (nat q2.num.natAbs).length c2, .slice B2 (nat q2.den).length d2]) q2 := by subst hW3; exact b2.storeO r3.rt (by omega) _ _ _
  clear hW3
  exact wpAnyH_done (by kernel_rfl) (hQ _ _ _ _ _ _ _ hb3 b1 b2 b3 ⟨k1, k2, k3, n12, n13, n23⟩) _
theorem stO2111 (w : World) (x1 x2 x3 : Nat) (v1 v2 : Value) (hS : SixC g z0 z1 z2 z3 z4 z5 w) (hb : Below w0.heap.size w0 w) (r1 : ResZ x1 w) (k1 : w0.heap.size ≤ x1) (r2 : ResZ x2 w) (k2 : w0.heap.size ≤ x2) (r3 : ResZ x3 w) (k3 : w0.heap.size ≤ x3) (n12 : x1 ≠ x2) (n13 : x1 ≠ x3) (n23 : x2 ≠ x3) (f1 : Rv w v1 q1) (f2 : Rv w v2 q2) :
    wpAnyH Tryz.prog .any opsO Q (SixC g z0 z1 z2 z3 z4 z5) 4 #[true, true, true, true, true, true, true, true, true, true, true, true, true, true, false, true, true, true, false, false, false] (wpO9 v2 (wpO4 v1 (wpO17 x3 (wpO16 x2 (wpO15 x1 (sqO g z0 z1 z2 z3 z4 z5 a)))))) w := by
  have _hp := hp
  have _u1 := hg
  have _u2 := h1
  have _u3 := h2
  have _u4 := h3
  have _u5 := hgl
  refine wpAnyH_ready (rs := [14]) (by kernel_rfl) (by simp) (AllReadyH.cons rfl (fun K hK => ?_) AllReadyH.nil)
  · refine stpO14 (by simp [wpO15, wpO16, wpO17, wpO4, wpO9, wpO14, sqO, eval_put, put_size, ha, hg]) (by simp [wpO15, wpO16, wpO17, wpO4, wpO9, wpO14, sqO, eval_put, put_size, ha, hg]) (h3 w) (fun v3 w' hv hb' => ?_)
    refine hK.out _ _ (hS.on hb') (fun _ => ?_)
    change wpAnyH _ _ _ _ _ _ _ (wpO14 v3 (wpO9 v2 (wpO4 v1 (wpO17 x3 (wpO16 x2 (wpO15 x1 (sqO g z0 z1 z2 z3 z4 z5 a))))))) _
    exact stO3111 Q w0 a g z0 z1 z2 z3 z4 z5 q1 q2 q3 ha hg hgl hp h1 h2 h3 hQ w' x1 x2 x3 v1 v2 v3 (hS.on hb') (below_join hb hb' hb.size) (r1.on hb' r1.lt) k1 (r2.on hb' r2.lt) k2 (r3.on hb' r3.lt) k3 n12 n13 n23 (f1.on hb') (f2.on hb') hv
theorem stO3011 (w : World) (x2 x3 : Nat) (v1 v2 v3 : Value) (hS : SixC g z0 z1 z2 z3 z4 z5 w) (hb : Below w0.heap.size w0 w) (r2 : ResZ x2 w) (k2 : w0.heap.size ≤ x2) (r3 : ResZ x3 w) (k3 : w0.heap.size ≤ x3) (n23 : x2 ≠ x3) (f1 : Rv w v1 q1) (f2 : Rv w v2 q2) (f3 : Rv w v3 q3) :
    wpAnyH Tryz.prog .any opsO Q (SixC g z0 z1 z2 z3 z4 z5) 4 #[true, true, true, true, true, true, true, true, true, true, true, true, true, true, true, false, true, true, false, false, false] (wpO14 v3 (wpO9 v2 (wpO4 v1 (wpO17 x3 (wpO16 x2 (sqO g z0 z1 z2 z3 z4 z5 a)))))) w := by
  have _hp := hp
  have _u1 := hg
  have _u2 := h1
  have _u3 := h2
  have _u4 := h3
  have _u5 := hgl
  refine wpAnyH_ready (rs := [15]) (by kernel_rfl) (by simp) (AllReadyH.cons rfl (fun K hK => ?_) AllReadyH.nil)
  · refine stpO15 ?_
    refine hK.out _ _ (hS.on (alloc_below w _)) (fun _ => ?_)
    change wpAnyH _ _ _ _ _ _ _ (wpO15 w.heap.size (wpO14 v3 (wpO9 v2 (wpO4 v1 (wpO17 x3 (wpO16 x2 (sqO g z0 z1 z2 z3 z4 z5 a))))))) _
    rw [wsO15_14, wsO15_9, wsO15_4, wsO15_17, wsO15_16]
    exact stO3111 Q w0 a g z0 z1 z2 z3 z4 z5 q1 q2 q3 ha hg hgl hp h1 h2 h3 hQ (w.alloc (.cells #[.bool false, .slice none 0 0, .slice none 0 0] 25)) w.heap.size x2 x3 v1 v2 v3 (hS.on (alloc_below w _)) (below_join hb (alloc_below w _) hb.size) (resz_mk w) hb.size (r2.on (alloc_below w _) r2.lt) k2 (r3.on (alloc_below w _) r3.lt) k3 (Nat.ne_of_gt r2.lt) (Nat.ne_of_gt r3.lt) n23 (f1.on (alloc_below w _)) (f2.on (alloc_below w _)) (f3.on (alloc_below w _))
theorem stO3101 (w : World) (x1 x3 : Nat) (v1 v2 v3 : Value) (hS : SixC g z0 z1 z2 z3 z4 z5 w) (hb : Below w0.heap.size w0 w) (r1 : ResZ x1 w) (k1 : w0.heap.size ≤ x1) (r3 : ResZ x3 w) (k3 : w0.heap.size ≤ x3) (n13 : x1 ≠ x3) (f1 : Rv w v1 q1) (f2 : Rv w v2 q2) (f3 : Rv w v3 q3) :
    wpAnyH Tryz.prog .any opsO Q (SixC g z0 z1 z2 z3 z4 z5) 4 #[true, true, true, true, true, true, true, true, true, true, true, true, true, true, true, true, false, true, false, false, false] (wpO14 v3 (wpO9 v2 (wpO4 v1 (wpO17 x3 (wpO15 x1 (sqO g z0 z1 z2 z3 z4 z5 a)))))) w := by
  have _hp := hp
  have _u1 := hg
  have _u2 := h1
  have _u3 := h2
  have _u4 := h3
  have _u5 := hgl
  refine wpAnyH_ready (rs := [16]) (by kernel_rfl) (by simp) (AllReadyH.cons rfl (fun K hK => ?_) AllReadyH.nil)
  · refine stpO16 ?_
    refine hK.out _ _ (hS.on (alloc_below w _)) (fun _ => ?_)
    change wpAnyH _ _ _ _ _ _ _ (wpO16 w.heap.size (wpO14 v3 (wpO9 v2 (wpO4 v1 (wpO17 x3 (wpO15 x1 (sqO g z0 z1 z2 z3 z4 z5 a))))))) _
    rw [wsO16_14, wsO16_9, wsO16_4, wsO16_17]
    exact stO3111 Q w0 a g z0 z1 z2 z3 z4 z5 q1 q2 q3 ha hg hgl hp h1 h2 h3 hQ (w.alloc (.cells #[.bool false, .slice none 0 0, .slice none 0 0] 25)) x1 w.heap.size x3 v1 v2 v3 (hS.on (alloc_below w _)) (below_join hb (alloc_below w _) hb.size) (r1.on (alloc_below w _) r1.lt) k1 (resz_mk w) hb.size (r3.on (alloc_below w _) r3.lt) k3 (Nat.ne_of_lt r1.lt) n13 (Nat.ne_of_gt r3.lt) (f1.on (alloc_below w _)) (f2.on (alloc_below w _)) (f3.on (alloc_below w _))
theorem stO3110 (w : World) (x1 x2 : Nat) (v1 v2 v3 : Value) (hS : SixC g z0 z1 z2 z3 z4 z5 w) (hb : Below w0.heap.size w0 w) (r1 : ResZ x1 w) (k1 : w0.heap.size ≤ x1) (r2 : ResZ x2 w) (k2 : w0.heap.size ≤ x2) (n12 : x1 ≠ x2) (f1 : Rv w v1 q1) (f2 : Rv w v2 q2) (f3 : Rv w v3 q3) :
    wpAnyH Tryz.prog .any opsO Q (SixC g z0 z1 z2 z3 z4 z5) 4 #[true, true, true, true, true, true, true, true, true, true, true, true, true, true, true, true, true, false, false, false, false] (wpO14 v3 (wpO9 v2 (wpO4 v1 (wpO16 x2 (wpO15 x1 (sqO g z0 z1 z2 z3 z4 z5 a)))))) w := by
  have _hp := hp
  have _u1 := hg
  have _u2 := h1
  have _u3 := h2
  have _u4 := h3
  have _u5 := hgl
  refine wpAnyH_ready (rs := [17]) (by kernel_rfl) (by simp) (AllReadyH.cons rfl (fun K hK => ?_) AllReadyH.nil)
  · refine stpO17 ?_
    refine hK.out _ _ (hS.on (alloc_below w _)) (fun _ => ?_)
    change wpAnyH _ _ _ _ _ _ _ (wpO17 w.heap.size (wpO14 v3 (wpO9 v2 (wpO4 v1 (wpO16 x2 (wpO15 x1 (sqO g z0 z1 z2 z3 z4 z5 a))))))) _
    rw [wsO17_14, wsO17_9, wsO17_4]
    exact stO3111 Q w0 a g z0 z1 z2 z3 z4 z5 q1 q2 q3 ha hg hgl hp h1 h2 h3 hQ (w.alloc (.cells #[.bool false, .slice none 0 0, .slice none 0 0] 25)) x1 x2 w.heap.size v1 v2 v3 (hS.on (alloc_below w _)) (below_join hb (alloc_below w _) hb.size) (r1.on (alloc_below w _) r1.lt) k1 (r2.on (alloc_below w _) r2.lt) k2 (resz_mk w) hb.size n12 (Nat.ne_of_lt r1.lt) (Nat.ne_of_lt r2.lt) (f1.on (alloc_below w _)) (f2.on (alloc_below w _)) (f3.on (alloc_below w _))
theorem stO1111 (w : World) (x1 x2 x3 : Nat) (v1 : Value) (hS : SixC g z0 z1 z2 z3 z4 z5 w) (hb : Below w0.heap.size w0 w) (r1 : ResZ x1 w) (k1 : w0.heap.size ≤ x1) (r2 : ResZ x2 w) (k2 : w0.heap.size ≤ x2) (r3 : ResZ x3 w) (k3 : w0.heap.size ≤ x3) (n12 : x1 ≠ x2) (n13 : x1 ≠ x3) (n23 : x2 ≠ x3) (f1 : Rv w v1 q1) :
    wpAnyH Tryz.prog .any opsO Q (SixC g z0 z1 z2 z3 z4 z5) 5 #[true, true, true, true, true, true, true, true, true, false, true, true, true, true, false, true, true, true, false, false, false] (wpO4 v1 (wpO17 x3 (wpO16 x2 (wpO15 x1 (sqO g z0 z1 z2 z3 z4 z5 a))))) w := by
  have _hp := hp
  have _u1 := hg
  have _u2 := h1
  have _u3 := h2
  have _u4 := h3
  have _u5 := hgl
  refine wpAnyH_ready (rs := [9]) (by kernel_rfl) (by simp) (AllReadyH.cons rfl (fun K hK => ?_) AllReadyH.nil)
  · refine stpO9 (by simp [wpO15, wpO16, wpO17, wpO4, wpO9, wpO14, sqO, eval_put, put_size, ha, hg]) (by simp [wpO15, wpO16, wpO17, wpO4, wpO9, wpO14, sqO, eval_put, put_size, ha, hg]) (h2 w) (fun v2 w' hv hb' => ?_)
    refine hK.out _ _ (hS.on hb') (fun _ => ?_)
    change wpAnyH _ _ _ _ _ _ _ (wpO9 v2 (wpO4 v1 (wpO17 x3 (wpO16 x2 (wpO15 x1 (sqO g z0 z1 z2 z3 z4 z5 a)))))) _
    exact stO2111 Q w0 a g z0 z1 z2 z3 z4 z5 q1 q2 q3 ha hg hgl hp h1 h2 h3 hQ w' x1 x2 x3 v1 v2 (hS.on hb') (below_join hb hb' hb.size) (r1.on hb' r1.lt) k1 (r2.on hb' r2.lt) k2 (r3.on hb' r3.lt) k3 n12 n13 n23 (f1.on hb') hv
theorem stO2011 (w : World) (x2 x3 : Nat) (v1 v2 : Value) (hS : SixC g z0 z1 z2 z3 z4 z5 w) (hb : Below w0.heap.size w0 w) (r2 : ResZ x2 w) (k2 : w0.heap.size ≤ x2) (r3 : ResZ x3 w) (k3 : w0.heap.size ≤ x3) (n23 : x2 ≠ x3) (f1 : Rv w v1 q1) (f2 : Rv w v2 q2) :
    wpAnyH Tryz.prog .any opsO Q (SixC g z0 z1 z2 z3 z4 z5) 5 #[true, true, true, true, true, true, true, true, true, true, true, true, true, true, false, false, true, true, false, false, false] (wpO9 v2 (wpO4 v1 (wpO17 x3 (wpO16 x2 (sqO g z0 z1 z2 z3 z4 z5 a))))) w := by
  have _hp := hp
  have _u1 := hg
  have _u2 := h1
  have _u3 := h2
  have _u4 := h3
  have _u5 := hgl
  refine wpAnyH_ready (rs := [14, 15]) (by kernel_rfl) (by simp) (AllReadyH.cons rfl (fun K hK => ?_) (AllReadyH.cons rfl (fun K hK => ?_) AllReadyH.nil))
  · refine stpO14 (by simp [wpO15, wpO16, wpO17, wpO4, wpO9, wpO14, sqO, eval_put, put_size, ha, hg]) (by simp [wpO15, wpO16, wpO17, wpO4, wpO9, wpO14, sqO, eval_put, put_size, ha, hg]) (h3 w) (fun v3 w' hv hb' => ?_)
    refine hK.out _ _ (hS.on hb') (fun _ => ?_)
    change wpAnyH _ _ _ _ _ _ _ (wpO14 v3 (wpO9 v2 (wpO4 v1 (wpO17 x3 (wpO16 x2 (sqO g z0 z1 z2 z3 z4 z5 a)))))) _
    exact stO3011 Q w0 a g z0 z1 z2 z3 z4 z5 q1 q2 q3 ha hg hgl hp h1 h2 h3 hQ w' x2 x3 v1 v2 v3 (hS.on hb') (below_join hb hb' hb.size) (r2.on hb' r2.lt) k2 (r3.on hb' r3.lt) k3 n23 (f1.on hb') (f2.on hb') hv
  · refine stpO15 ?_
    refine hK.out _ _ (hS.on (alloc_below w _)) (fun _ => ?_)
    change wpAnyH _ _ _ _ _ _ _ (wpO15 w.heap.size (wpO9 v2 (wpO4 v1 (wpO17 x3 (wpO16 x2 (sqO g z0 z1 z2 z3 z4 z5 a)))))) _
    rw [wsO15_9, wsO15_4, wsO15_17, wsO15_16]
    exact stO2111 Q w0 a g z0 z1 z2 z3 z4 z5 q1 q2 q3 ha hg hgl hp h1 h2 h3 hQ (w.alloc (.cells #[.bool false, .slice none 0 0, .slice none 0 0] 25)) w.heap.size x2 x3 v1 v2 (hS.on (alloc_below w _)) (below_join hb (alloc_below w _) hb.size) (resz_mk w) hb.size (r2.on (alloc_below w _) r2.lt) k2 (r3.on (alloc_below w _) r3.lt) k3 (Nat.ne_of_gt r2.lt) (Nat.ne_of_gt r3.lt) n23 (f1.on (alloc_below w _)) (f2.on (alloc_below w _))
theorem stO2101 (w : World) (x1 x3 : Nat) (v1 v2 : Value) (hS : SixC g z0 z1 z2 z3 z4 z5 w) (hb : Below w0.heap.size w0 w) (r1 : ResZ x1 w) (k1 : w0.heap.size ≤ x1) (r3 : ResZ x3 w) (k3 : w0.heap.size ≤ x3) (n13 : x1 ≠ x3) (f1 : Rv w v1 q1) (f2 : Rv w v2 q2) :
    wpAnyH Tryz.prog .any opsO Q (SixC g z0 z1 z2 z3 z4 z5) 5 #[true, true, true, true, true, true, true, true, true, true, true, true, true, true, false, true, false, true, false, false, false] (wpO9 v2 (wpO4 v1 (wpO17 x3 (wpO15 x1 (sqO g z0 z1 z2 z3 z4 z5 a))))) w := by
  have _hp := hp
  have _u1 := hg
  have _u2 := h1
  have _u3 := h2
  have _u4 := h3
  have _u5 := hgl
  refine wpAnyH_ready (rs := [14, 16]) (by kernel_rfl) (by simp) (AllReadyH.cons rfl (fun K hK => ?_) (AllReadyH.cons rfl (fun K hK => ?_) AllReadyH.nil))
  · refine stpO14 (by simp [wpO15, wpO16, wpO17, wpO4, wpO9, wpO14, sqO, eval_put, put_size, ha, hg]) (by simp [wpO15, wpO16, wpO17, wpO4, wpO9, wpO14, sqO, eval_put, put_size, ha, hg]) (h3 w) (fun v3 w' hv hb' => ?_)
    refine hK.out _ _ (hS.on hb') (fun _ => ?_)
    change wpAnyH _ _ _ _ _ _ _ (wpO14 v3 (wpO9 v2 (wpO4 v1 (wpO17 x3 (wpO15 x1 (sqO g z0 z1 z2 z3 z4 z5 a)))))) _
    exact stO3101 Q w0 a g z0 z1 z2 z3 z4 z5 q1 q2 q3 ha hg hgl hp h1 h2 h3 hQ w' x1 x3 v1 v2 v3 (hS.on hb') (below_join hb hb' hb.size) (r1.on hb' r1.lt) k1 (r3.on hb' r3.lt) k3 n13 (f1.on hb') (f2.on hb') hv
  · refine stpO16 ?_
    refine hK.out _ _ (hS.on (alloc_below w _)) (fun _ => ?_)
    change wpAnyH _ _ _ _ _ _ _ (wpO16 w.heap.size (wpO9 v2 (wpO4 v1 (wpO17 x3 (wpO15 x1 (sqO g z0 z1 z2 z3 z4 z5 a)))))) _
    rw [wsO16_9, wsO16_4, wsO16_17]
    exact stO2111 Q w0 a g z0 z1 z2 z3 z4 z5 q1 q2 q3 ha hg hgl hp h1 h2 h3 hQ (w.alloc (.cells #[.bool false, .slice none 0 0, .slice none 0 0] 25)) x1 w.heap.size x3 v1 v2 (hS.on (alloc_below w _)) (below_join hb (alloc_below w _) hb.size) (r1.on (alloc_below w _) r1.lt) k1 (resz_mk w) hb.size (r3.on (alloc_below w _) r3.lt) k3 (Nat.ne_of_lt r1.lt) n13 (Nat.ne_of_gt r3.lt) (f1.on (alloc_below w _)) (f2.on (alloc_below w _))
theorem stO2110 (w : World) (x1 x2 : Nat) (v1 v2 : Value) (hS : SixC g z0 z1 z2 z3 z4 z5 w) (hb : Below w0.heap.size w0 w) (r1 : ResZ x1 w) (k1 : w0.heap.size ≤ x1) (r2 : ResZ x2 w) (k2 : w0.heap.size ≤ x2) (n12 : x1 ≠ x2) (f1 : Rv w v1 q1) (f2 : Rv w v2 q2) :
    wpAnyH Tryz.prog .any opsO Q (SixC g z0 z1 z2 z3 z4 z5) 5 #[true, true, true, true, true, true, true, true, true, true, true, true, true, true, false, true, true, false, false, false, false] (wpO9 v2 (wpO4 v1 (wpO16 x2 (wpO15 x1 (sqO g z0 z1 z2 z3 z4 z5 a))))) w := by
  have _hp := hp
  have _u1 := hg
  have _u2 := h1
  have _u3 := h2
  have _u4 := h3
  have _u5 := hgl
  refine wpAnyH_ready (rs := [14, 17]) (by kernel_rfl) (by simp) (AllReadyH.cons rfl (fun K hK => ?_) (AllReadyH.cons rfl (fun K hK => ?_) AllReadyH.nil))
  · refine stpO14 (by simp [wpO15, wpO16, wpO17, wpO4, wpO9, wpO14, sqO, eval_put, put_size, ha, hg]) (by simp [wpO15, wpO16, wpO17, wpO4, wpO9, wpO14, sqO, eval_put, put_size, ha, hg]) (h3 w) (fun v3 w' hv hb' => ?_)
    refine hK.out _ _ (hS.on hb') (fun _ => ?_)
    change wpAnyH _ _ _ _ _ _ _ (wpO14 v3 (wpO9 v2 (wpO4 v1 (wpO16 x2 (wpO15 x1 (sqO g z0 z1 z2 z3 z4 z5 a)))))) _
    exact stO3110 Q w0 a g z0 z1 z2 z3 z4 z5 q1 q2 q3 ha hg hgl hp h1 h2 h3 hQ w' x1 x2 v1 v2 v3 (hS.on hb') (below_join hb hb' hb.size) (r1.on hb' r1.lt) k1 (r2.on hb' r2.lt) k2 n12 (f1.on hb') (f2.on hb') hv
  · refine stpO17 ?_
    refine hK.out _ _ (hS.on (alloc_below w _)) (fun _ => ?_)
    change wpAnyH _ _ _ _ _ _ _ (wpO17 w.heap.size (wpO9 v2 (wpO4 v1 (wpO16 x2 (wpO15 x1 (sqO g z0 z1 z2 z3 z4 z5 a)))))) _
    rw [wsO17_9, wsO17_4]
    exact stO2111 Q w0 a g z0 z1 z2 z3 z4 z5 q1 q2 q3 ha hg hgl hp h1 h2 h3 hQ (w.alloc (.cells #[.bool false, .slice none 0 0, .slice none 0 0] 25)) x1 x2 w.heap.size v1 v2 (hS.on (alloc_below w _)) (below_join hb (alloc_below w _) hb.size) (r1.on (alloc_below w _) r1.lt) k1 (r2.on (alloc_below w _) r2.lt) k2 (resz_mk w) hb.size n12 (Nat.ne_of_lt r1.lt) (Nat.ne_of_lt r2.lt) (f1.on (alloc_below w _)) (f2.on (alloc_below w _))
theorem stO3001 (w : World) (x3 : Nat) (v1 v2 v3 : Value) (hS : SixC g z0 z1 z2 z3 z4 z5 w) (hb : Below w0.heap.size w0 w) (r3 : ResZ x3 w) (k3 : w0.heap.size ≤ x3) (f1 : Rv w v1 q1) (f2 : Rv w v2 q2) (f3 : Rv w v3 q3) :
    wpAnyH Tryz.prog .any opsO Q (SixC g z0 z1 z2 z3 z4 z5) 5 #[true, true, true, true, true, true, true, true, true, true, true, true, true, true, true, false, false, true, false, false, false] (wpO14 v3 (wpO9 v2 (wpO4 v1 (wpO17 x3 (sqO g z0 z1 z2 z3 z4 z5 a))))) w := by
  have _hp := hp
  have _u1 := hg
  have _u2 := h1
  have _u3 := h2
  have _u4 := h3
  have _u5 := hgl
  refine wpAnyH_ready (rs := [15, 16]) (by kernel_rfl) (by simp) (AllReadyH.cons rfl (fun K hK => ?_) (AllReadyH.cons rfl (fun K hK => ?_) AllReadyH.nil))
  · refine stpO15 ?_
    refine hK.out _ _ (hS.on (alloc_below w _)) (fun _ => ?_)
    change wpAnyH _ _ _ _ _ _ _ (wpO15 w.heap.size (wpO14 v3 (wpO9 v2 (wpO4 v1 (wpO17 x3 (sqO g z0 z1 z2 z3 z4 z5 a)))))) _
    rw [wsO15_14, wsO15_9, wsO15_4, wsO15_17]
    exact stO3101 Q w0 a g z0 z1 z2 z3 z4 z5 q1 q2 q3 ha hg hgl hp h1 h2 h3 hQ (w.alloc (.cells #[.bool false, .slice none 0 0, .slice none 0 0] 25)) w.heap.size x3 v1 v2 v3 (hS.on (alloc_below w _)) (below_join hb (alloc_below w _) hb.size) (resz_mk w) hb.size (r3.on (alloc_below w _) r3.lt) k3 (Nat.ne_of_gt r3.lt) (f1.on (alloc_below w _)) (f2.on (alloc_below w _)) (f3.on (alloc_below w _))
  · refine stpO16 ?_
    refine hK.out _ _ (hS.on (alloc_below w _)) (fun _ => ?_)
    change wpAnyH _ _ _ _ _ _ _ (wpO16 w.heap.size (wpO14 v3 (wpO9 v2 (wpO4 v1 (wpO17 x3 (sqO g z0 z1 z2 z3 z4 z5 a)))))) _
    rw [wsO16_14, wsO16_9, wsO16_4, wsO16_17]
    exact stO3011 Q w0 a g z0 z1 z2 z3 z4 z5 q1 q2 q3 ha hg hgl hp h1 h2 h3 hQ (w.alloc (.cells #[.bool false, .slice none 0 0, .slice none 0 0] 25)) w.heap.size x3 v1 v2 v3 (hS.on (alloc_below w _)) (below_join hb (alloc_below w _) hb.size) (resz_mk w) hb.size (r3.on (alloc_below w _) r3.lt) k3 (Nat.ne_of_gt r3.lt) (f1.on (alloc_below w _)) (f2.on (alloc_below w _)) (f3.on (alloc_below w _))
theorem stO3010 (w : World) (x2 : Nat) (v1 v2 v3 : Value) (hS : SixC g z0 z1 z2 z3 z4 z5 w) (hb : Below w0.heap.size w0 w) (r2 : ResZ x2 w) (k2 : w0.heap.size ≤ x2) (f1 : Rv w v1 q1) (f2 : Rv w v2 q2) (f3 : Rv w v3 q3) :
    wpAnyH Tryz.prog .any opsO Q (SixC g z0 z1 z2 z3 z4 z5) 5 #[true, true, true, true, true, true, true, true, true, true, true, true, true, true, true, false, true, false, false, false, false] (wpO14 v3 (wpO9 v2 (wpO4 v1 (wpO16 x2 (sqO g z0 z1 z2 z3 z4 z5 a))))) w := by
  have _hp := hp
  have _u1 := hg
  have _u2 := h1
  have _u3 := h2
  have _u4 := h3
  have _u5 := hgl
  refine wpAnyH_ready (rs := [15, 17]) (by kernel_rfl) (by simp) (AllReadyH.cons rfl (fun K hK => ?_) (AllReadyH.cons rfl (fun K hK => ?_) AllReadyH.nil))
  · refine stpO15 ?_
    refine hK.out _ _ (hS.on (alloc_below w _)) (fun _ => ?_)
    change wpAnyH _ _ _ _ _ _ _ (wpO15 w.heap.size (wpO14 v3 (wpO9 v2 (wpO4 v1 (wpO16 x2 (sqO g z0 z1 z2 z3 z4 z5 a)))))) _
    rw [wsO15_14, wsO15_9, wsO15_4, wsO15_16]
    exact stO3110 Q w0 a g z0 z1 z2 z3 z4 z5 q1 q2 q3 ha hg hgl hp h1 h2 h3 hQ (w.alloc (.cells #[.bool false, .slice none 0 0, .slice none 0 0] 25)) w.heap.size x2 v1 v2 v3 (hS.on (alloc_below w _)) (below_join hb (alloc_below w _) hb.size) (resz_mk w) hb.size (r2.on (alloc_below w _) r2.lt) k2 (Nat.ne_of_gt r2.lt) (f1.on (alloc_below w _)) (f2.on (alloc_below w _)) (f3.on (alloc_below w _))
  · refine stpO17 ?_
    refine hK.out _ _ (hS.on (alloc_below w _)) (fun _ => ?_)
    change wpAnyH _ _ _ _ _ _ _ (wpO17 w.heap.size (wpO14 v3 (wpO9 v2 (wpO4 v1 (wpO16 x2 (sqO g z0 z1 z2 z3 z4 z5 a)))))) _
    rw [wsO17_14, wsO17_9, wsO17_4]
    exact stO3011 Q w0 a g z0 z1 z2 z3 z4 z5 q1 q2 q3 ha hg hgl hp h1 h2 h3 hQ (w.alloc (.cells #[.bool false, .slice none 0 0, .slice none 0 0] 25)) x2 w.heap.size v1 v2 v3 (hS.on (alloc_below w _)) (below_join hb (alloc_below w _) hb.size) (r2.on (alloc_below w _) r2.lt) k2 (resz_mk w) hb.size (Nat.ne_of_lt r2.lt) (f1.on (alloc_below w _)) (f2.on (alloc_below w _)) (f3.on (alloc_below w _))
theorem stO3100 (w : World) (x1 : Nat) (v1 v2 v3 : Value) (hS : SixC g z0 z1 z2 z3 z4 z5 w) (hb : Below w0.heap.size w0 w) (r1 : ResZ x1 w) (k1 : w0.heap.size ≤ x1) (f1 : Rv w v1 q1) (f2 : Rv w v2 q2) (f3 : Rv w v3 q3) :
    wpAnyH Tryz.prog .any opsO Q (SixC g z0 z1 z2 z3 z4 z5) 5 #[true, true, true, true, true, true, true, true, true, true, true, true, true, true, true, true, false, false, false, false, false] (wpO14 v3 (wpO9 v2 (wpO4 v1 (wpO15 x1 (sqO g z0 z1 z2 z3 z4 z5 a))))) w := by
  have _hp := hp
  have _u1 := hg
  have _u2 := h1
  have _u3 := h2
  have _u4 := h3
  have _u5 := hgl
  refine wpAnyH_ready (rs := [16, 17]) (by kernel_rfl) (by simp) (AllReadyH.cons rfl (fun K hK => ?_) (AllReadyH.cons rfl (fun K hK => ?_) AllReadyH.nil))
  · refine stpO16 ?_
    refine hK.out _ _ (hS.on (alloc_below w _)) (fun _ => ?_)
    change wpAnyH _ _ _ _ _ _ _ (wpO16 w.heap.size (wpO14 v3 (wpO9 v2 (wpO4 v1 (wpO15 x1 (sqO g z0 z1 z2 z3 z4 z5 a)))))) _
    rw [wsO16_14, wsO16_9, wsO16_4]
    exact stO3110 Q w0 a g z0 z1 z2 z3 z4 z5 q1 q2 q3 ha hg hgl hp h1 h2 h3 hQ (w.alloc (.cells #[.bool false, .slice none 0 0, .slice none 0 0] 25)) x1 w.heap.size v1 v2 v3 (hS.on (alloc_below w _)) (below_join hb (alloc_below w _) hb.size) (r1.on (alloc_below w _) r1.lt) k1 (resz_mk w) hb.size (Nat.ne_of_lt r1.lt) (f1.on (alloc_below w _)) (f2.on (alloc_below w _)) (f3.on (alloc_below w _))
  · refine stpO17 ?_
    refine hK.out _ _ (hS.on (alloc_below w _)) (fun _ => ?_)
    change wpAnyH _ _ _ _ _ _ _ (wpO17 w.heap.size (wpO14 v3 (wpO9 v2 (wpO4 v1 (wpO15 x1 (sqO g z0 z1 z2 z3 z4 z5 a)))))) _
    rw [wsO17_14, wsO17_9, wsO17_4]
    exact stO3101 Q w0 a g z0 z1 z2 z3 z4 z5 q1 q2 q3 ha hg hgl hp h1 h2 h3 hQ (w.alloc (.cells #[.bool false, .slice none 0 0, .slice none 0 0] 25)) x1 w.heap.size v1 v2 v3 (hS.on (alloc_below w _)) (below_join hb (alloc_below w _) hb.size) (r1.on (alloc_below w _) r1.lt) k1 (resz_mk w) hb.size (Nat.ne_of_lt r1.lt) (f1.on (alloc_below w _)) (f2.on (alloc_below w _)) (f3.on (alloc_below w _))
theorem stO0111 (w : World) (x1 x2 x3 : Nat) (hS : SixC g z0 z1 z2 z3 z4 z5 w) (hb : Below w0.heap.size w0 w) (r1 : ResZ x1 w) (k1 : w0.heap.size ≤ x1) (r2 : ResZ x2 w) (k2 : w0.heap.size ≤ x2) (r3 : ResZ x3 w) (k3 : w0.heap.size ≤ x3) (n12 : x1 ≠ x2) (n13 : x1 ≠ x3) (n23 : x2 ≠ x3) :
    wpAnyH Tryz.prog .any opsO Q (SixC g z0 z1 z2 z3 z4 z5) 6 #[true, true, true, true, false, true, true, true, true, false, true, true, true, true, false, true, true, true, false, false, false] (wpO17 x3 (wpO16 x2 (wpO15 x1 (sqO g z0 z1 z2 z3 z4 z5 a)))) w := by
  have _hp := hp
  have _u1 := hg
  have _u2 := h1
  have _u3 := h2
  have _u4 := h3
  have _u5 := hgl
  refine wpAnyH_ready (rs := [4]) (by kernel_rfl) (by simp) (AllReadyH.cons rfl (fun K hK => ?_) AllReadyH.nil)
  · refine stpO4 (by simp [wpO15, wpO16, wpO17, wpO4, wpO9, wpO14, sqO, eval_put, put_size, ha, hg]) (by simp [wpO15, wpO16, wpO17, wpO4, wpO9, wpO14, sqO, eval_put, put_size, ha, hg]) (h1 w) (fun v1 w' hv hb' => ?_)
    refine hK.out _ _ (hS.on hb') (fun _ => ?_)
    change wpAnyH _ _ _ _ _ _ _ (wpO4 v1 (wpO17 x3 (wpO16 x2 (wpO15 x1 (sqO g z0 z1 z2 z3 z4 z5 a))))) _
    exact stO1111 Q w0 a g z0 z1 z2 z3 z4 z5 q1 q2 q3 ha hg hgl hp h1 h2 h3 hQ w' x1 x2 x3 v1 (hS.on hb') (below_join hb hb' hb.size) (r1.on hb' r1.lt) k1 (r2.on hb' r2.lt) k2 (r3.on hb' r3.lt) k3 n12 n13 n23 hv
theorem stO1011 (w : World) (x2 x3 : Nat) (v1 : Value) (hS : SixC g z0 z1 z2 z3 z4 z5 w) (hb : Below w0.heap.size w0 w) (r2 : ResZ x2 w) (k2 : w0.heap.size ≤ x2) (r3 : ResZ x3 w) (k3 : w0.heap.size ≤ x3) (n23 : x2 ≠ x3) (f1 : Rv w v1 q1) :
    wpAnyH Tryz.prog .any opsO Q (SixC g z0 z1 z2 z3 z4 z5) 6 #[true, true, true, true, true, true, true, true, true, false, true, true, true, true, false, false, true, true, false, false, false] (wpO4 v1 (wpO17 x3 (wpO16 x2 (sqO g z0 z1 z2 z3 z4 z5 a)))) w := by
  have _hp := hp
  have _u1 := hg
  have _u2 := h1
  have _u3 := h2
  have _u4 := h3
  have _u5 := hgl
  refine wpAnyH_ready (rs := [9, 15]) (by kernel_rfl) (by simp) (AllReadyH.cons rfl (fun K hK => ?_) (AllReadyH.cons rfl (fun K hK => ?_) AllReadyH.nil))
  · refine stpO9 (by simp [wpO15, wpO16, wpO17, wpO4, wpO9, wpO14, sqO, eval_put, put_size, ha, hg]) (by simp [wpO15, wpO16, wpO17, wpO4, wpO9, wpO14, sqO, eval_put, put_size, ha, hg]) (h2 w) (fun v2 w' hv hb' => ?_)
    refine hK.out _ _ (hS.on hb') (fun _ => ?_)
    change wpAnyH _ _ _ _ _ _ _ (wpO9 v2 (wpO4 v1 (wpO17 x3 (wpO16 x2 (sqO g z0 z1 z2 z3 z4 z5 a))))) _
    exact stO2011 Q w0 a g z0 z1 z2 z3 z4 z5 q1 q2 q3 ha hg hgl hp h1 h2 h3 hQ w' x2 x3 v1 v2 (hS.on hb') (below_join hb hb' hb.size) (r2.on hb' r2.lt) k2 (r3.on hb' r3.lt) k3 n23 (f1.on hb') hv
  · refine stpO15 ?_
    refine hK.out _ _ (hS.on (alloc_below w _)) (fun _ => ?_)
    change wpAnyH _ _ _ _ _ _ _ (wpO15 w.heap.size (wpO4 v1 (wpO17 x3 (wpO16 x2 (sqO g z0 z1 z2 z3 z4 z5 a))))) _
    rw [wsO15_4, wsO15_17, wsO15_16]
    exact stO1111 Q w0 a g z0 z1 z2 z3 z4 z5 q1 q2 q3 ha hg hgl hp h1 h2 h3 hQ (w.alloc (.cells #[.bool false, .slice none 0 0, .slice none 0 0] 25)) w.heap.size x2 x3 v1 (hS.on (alloc_below w _)) (below_join hb (alloc_below w _) hb.size) (resz_mk w) hb.size (r2.on (alloc_below w _) r2.lt) k2 (r3.on (alloc_below w _) r3.lt) k3 (Nat.ne_of_gt r2.lt) (Nat.ne_of_gt r3.lt) n23 (f1.on (alloc_below w _))
theorem stO1101 (w : World) (x1 x3 : Nat) (v1 : Value) (hS : SixC g z0 z1 z2 z3 z4 z5 w) (hb : Below w0.heap.size w0 w) (r1 : ResZ x1 w) (k1 : w0.heap.size ≤ x1) (r3 : ResZ x3 w) (k3 : w0.heap.size ≤ x3) (n13 : x1 ≠ x3) (f1 : Rv w v1 q1) :
    wpAnyH Tryz.prog .any opsO Q (SixC g z0 z1 z2 z3 z4 z5) 6 #[true, true, true, true, true, true, true, true, true, false, true, true, true, true, false, true, false, true, false, false, false] (wpO4 v1 (wpO17 x3 (wpO15 x1 (sqO g z0 z1 z2 z3 z4 z5 a)))) w := by
  have _hp := hp
  have _u1 := hg
  have _u2 := h1
  have _u3 := h2
  have _u4 := h3
  have _u5 := hgl
  refine wpAnyH_ready (rs := [9, 16]) (by kernel_rfl) (by simp) (AllReadyH.cons rfl (fun K hK => ?_) (AllReadyH.cons rfl (fun K hK => ?_) AllReadyH.nil))
  · refine stpO9 (by simp [wpO15, wpO16, wpO17, wpO4, wpO9, wpO14, sqO, eval_put, put_size, ha, hg]) (by simp [wpO15, wpO16, wpO17, wpO4, wpO9, wpO14, sqO, eval_put, put_size, ha, hg]) (h2 w) (fun v2 w' hv hb' => ?_)
    refine hK.out _ _ (hS.on hb') (fun _ => ?_)
    change wpAnyH _ _ _ _ _ _ _ (wpO9 v2 (wpO4 v1 (wpO17 x3 (wpO15 x1 (sqO g z0 z1 z2 z3 z4 z5 a))))) _
    exact stO2101 Q w0 a g z0 z1 z2 z3 z4 z5 q1 q2 q3 ha hg hgl hp h1 h2 h3 hQ w' x1 x3 v1 v2 (hS.on hb') (below_join hb hb' hb.size) (r1.on hb' r1.lt) k1 (r3.on hb' r3.lt) k3 n13 (f1.on hb') hv
  · refine stpO16 ?_
    refine hK.out _ _ (hS.on (alloc_below w _)) (fun _ => ?_)
    change wpAnyH _ _ _ _ _ _ _ (wpO16 w.heap.size (wpO4 v1 (wpO17 x3 (wpO15 x1 (sqO g z0 z1 z2 z3 z4 z5 a))))) _
    rw [wsO16_4, wsO16_17]
    exact stO1111 Q w0 a g z0 z1 z2 z3 z4 z5 q1 q2 q3 ha hg hgl hp h1 h2 h3 hQ (w.alloc (.cells #[.bool false, .slice none 0 0, .slice none 0 0] 25)) x1 w.heap.size x3 v1 (hS.on (alloc_below w _)) (below_join hb (alloc_below w _) hb.size) (r1.on (alloc_below w _) r1.lt) k1 (resz_mk w) hb.size (r3.on (alloc_below w _) r3.lt) k3 (Nat.ne_of_lt r1.lt) n13 (Nat.ne_of_gt r3.lt) (f1.on (alloc_below w _))
theorem stO1110 (w : World) (x1 x2 : Nat) (v1 : Value) (hS : SixC g z0 z1 z2 z3 z4 z5 w) (hb : Below w0.heap.size w0 w) (r1 : ResZ x1 w) (k1 : w0.heap.size ≤ x1) (r2 : ResZ x2 w) (k2 : w0.heap.size ≤ x2) (n12 : x1 ≠ x2) (f1 : Rv w v1 q1) :
    wpAnyH Tryz.prog .any opsO Q (SixC g z0 z1 z2 z3 z4 z5) 6 #[true, true, true, true, true, true, true, true, true, false, true, true, true, true, false, true, true, false, false, false, false] (wpO4 v1 (wpO16 x2 (wpO15 x1 (sqO g z0 z1 z2 z3 z4 z5 a)))) w := by
  have _hp := hp
  have _u1 := hg
  have _u2 := h1
  have _u3 := h2
  have _u4 := h3
  have _u5 := hgl
  refine wpAnyH_ready (rs := [9, 17]) (by kernel_rfl) (by simp) (AllReadyH.cons rfl (fun K hK => ?_) (AllReadyH.cons rfl (fun K hK => ?_) AllReadyH.nil))
  · refine stpO9 (by simp [wpO15, wpO16, wpO17, wpO4, wpO9, wpO14, sqO, eval_put, put_size, ha, hg]) (by simp [wpO15, wpO16, wpO17, wpO4, wpO9, wpO14, sqO, eval_put, put_size, ha, hg]) (h2 w) (fun v2 w' hv hb' => ?_)
    refine hK.out _ _ (hS.on hb') (fun _ => ?_)
    change wpAnyH _ _ _ _ _ _ _ (wpO9 v2 (wpO4 v1 (wpO16 x2 (wpO15 x1 (sqO g z0 z1 z2 z3 z4 z5 a))))) _
    exact stO2110 Q w0 a g z0 z1 z2 z3 z4 z5 q1 q2 q3 ha hg hgl hp h1 h2 h3 hQ w' x1 x2 v1 v2 (hS.on hb') (below_join hb hb' hb.size) (r1.on hb' r1.lt) k1 (r2.on hb' r2.lt) k2 n12 (f1.on hb') hv
  · refine stpO17 ?_
    refine hK.out _ _ (hS.on (alloc_below w _)) (fun _ => ?_)
    change wpAnyH _ _ _ _ _ _ _ (wpO17 w.heap.size (wpO4 v1 (wpO16 x2 (wpO15 x1 (sqO g z0 z1 z2 z3 z4 z5 a))))) _
    rw [wsO17_4]
    exact stO1111 Q w0 a g z0 z1 z2 z3 z4 z5 q1 q2 q3 ha hg hgl hp h1 h2 h3 hQ (w.alloc (.cells #[.bool false, .slice none 0 0, .slice none 0 0] 25)) x1 x2 w.heap.size v1 (hS.on (alloc_below w _)) (below_join hb (alloc_below w _) hb.size) (r1.on (alloc_below w _) r1.lt) k1 (r2.on (alloc_below w _) r2.lt) k2 (resz_mk w) hb.size n12 (Nat.ne_of_lt r1.lt) (Nat.ne_of_lt r2.lt) (f1.on (alloc_below w _))
theorem stO2001 (w : World) (x3 : Nat) (v1 v2 : Value) (hS : SixC g z0 z1 z2 z3 z4 z5 w) (hb : Below w0.heap.size w0 w) (r3 : ResZ x3 w) (k3 : w0.heap.size ≤ x3) (f1 : Rv w v1 q1) (f2 : Rv w v2 q2) :
    wpAnyH Tryz.prog .any opsO Q (SixC g z0 z1 z2 z3 z4 z5) 6 #[true, true, true, true, true, true, true, true, true, true, true, true, true, true, false, false, false, true, false, false, false] (wpO9 v2 (wpO4 v1 (wpO17 x3 (sqO g z0 z1 z2 z3 z4 z5 a)))) w := by
  have _hp := hp
  have _u1 := hg
  have _u2 := h1
  have _u3 := h2
  have _u4 := h3
  have _u5 := hgl
  refine wpAnyH_ready (rs := [14, 15, 16]) (by kernel_rfl) (by simp) (AllReadyH.cons rfl (fun K hK => ?_) (AllReadyH.cons rfl (fun K hK => ?_) (AllReadyH.cons rfl (fun K hK => ?_) AllReadyH.nil)))
  · refine stpO14 (by simp [wpO15, wpO16, wpO17, wpO4, wpO9, wpO14, sqO, eval_put, put_size, ha, hg]) (by simp [wpO15, wpO16, wpO17, wpO4, wpO9, wpO14, sqO, eval_put, put_size, ha, hg]) (h3 w) (fun v3 w' hv hb' => ?_)
    refine hK.out _ _ (hS.on hb') (fun _ => ?_)
    change wpAnyH _ _ _ _ _ _ _ (wpO14 v3 (wpO9 v2 (wpO4 v1 (wpO17 x3 (sqO g z0 z1 z2 z3 z4 z5 a))))) _
    exact stO3001 Q w0 a g z0 z1 z2 z3 z4 z5 q1 q2 q3 ha hg hgl hp h1 h2 h3 hQ w' x3 v1 v2 v3 (hS.on hb') (below_join hb hb' hb.size) (r3.on hb' r3.lt) k3 (f1.on hb') (f2.on hb') hv
  · refine stpO15 ?_
    refine hK.out _ _ (hS.on (alloc_below w _)) (fun _ => ?_)
    change wpAnyH _ _ _ _ _ _ _ (wpO15 w.heap.size (wpO9 v2 (wpO4 v1 (wpO17 x3 (sqO g z0 z1 z2 z3 z4 z5 a))))) _
    rw [wsO15_9, wsO15_4, wsO15_17]
    exact stO2101 Q w0 a g z0 z1 z2 z3 z4 z5 q1 q2 q3 ha hg hgl hp h1 h2 h3 hQ (w.alloc (.cells #[.bool false, .slice none 0 0, .slice none 0 0] 25)) w.heap.size x3 v1 v2 (hS.on (alloc_below w _)) (below_join hb (alloc_below w _) hb.size) (resz_mk w) hb.size (r3.on (alloc_below w _) r3.lt) k3 (Nat.ne_of_gt r3.lt) (f1.on (alloc_below w _)) (f2.on (alloc_below w _))
  · refine stpO16 ?_
    refine hK.out _ _ (hS.on (alloc_below w _)) (fun _ => ?_)
    change wpAnyH _ _ _ _ _ _ _ (wpO16 w.heap.size (wpO9 v2 (wpO4 v1 (wpO17 x3 (sqO g z0 z1 z2 z3 z4 z5 a))))) _
    rw [wsO16_9, wsO16_4, wsO16_17]
    exact stO2011 Q w0 a g z0 z1 z2 z3 z4 z5 q1 q2 q3 ha hg hgl hp h1 h2 h3 hQ (w.alloc (.cells #[.bool false, .slice none 0 0, .slice none 0 0] 25)) w.heap.size x3 v1 v2 (hS.on (alloc_below w _)) (below_join hb (alloc_below w _) hb.size) (resz_mk w) hb.size (r3.on (alloc_below w _) r3.lt) k3 (Nat.ne_of_gt r3.lt) (f1.on (alloc_below w _)) (f2.on (alloc_below w _))
theorem stO2010 (w : World) (x2 : Nat) (v1 v2 : Value) (hS : SixC g z0 z1 z2 z3 z4 z5 w) (hb : Below w0.heap.size w0 w) (r2 : ResZ x2 w) (k2 : w0.heap.size ≤ x2) (f1 : Rv w v1 q1) (f2 : Rv w v2 q2) :
    wpAnyH Tryz.prog .any opsO Q (SixC g z0 z1 z2 z3 z4 z5) 6 #[true, true, true, true, true, true, true, true, true, true, true, true, true, true, false, false, true, false, false, false, false] (wpO9 v2 (wpO4 v1 (wpO16 x2 (sqO g z0 z1 z2 z3 z4 z5 a)))) w := by
  have _hp := hp
  have _u1 := hg
  have _u2 := h1
  have _u3 := h2
  have _u4 := h3
  have _u5 := hgl
  refine wpAnyH_ready (rs := [14, 15, 17]) (by kernel_rfl) (by simp) (AllReadyH.cons rfl (fun K hK => ?_) (AllReadyH.cons rfl (fun K hK => ?_) (AllReadyH.cons rfl (fun K hK => ?_) AllReadyH.nil)))
  · refine stpO14 (by simp [wpO15, wpO16, wpO17, wpO4, wpO9, wpO14, sqO, eval_put, put_size, ha, hg]) (by simp [wpO15, wpO16, wpO17, wpO4, wpO9, wpO14, sqO, eval_put, put_size, ha, hg]) (h3 w) (fun v3 w' hv hb' => ?_)
    refine hK.out _ _ (hS.on hb') (fun _ => ?_)
    change wpAnyH _ _ _ _ _ _ _ (wpO14 v3 (wpO9 v2 (wpO4 v1 (wpO16 x2 (sqO g z0 z1 z2 z3 z4 z5 a))))) _
    exact stO3010 Q w0 a g z0 z1 z2 z3 z4 z5 q1 q2 q3 ha hg hgl hp h1 h2 h3 hQ w' x2 v1 v2 v3 (hS.on hb') (below_join hb hb' hb.size) (r2.on hb' r2.lt) k2 (f1.on hb') (f2.on hb') hv
  · refine stpO15 ?_
    refine hK.out _ _ (hS.on (alloc_below w _)) (fun _ => ?_)
    change wpAnyH _ _ _ _ _ _ _ (wpO15 w.heap.size (wpO9 v2 (wpO4 v1 (wpO16 x2 (sqO g z0 z1 z2 z3 z4 z5 a))))) _
    rw [wsO15_9, wsO15_4, wsO15_16]
    exact stO2110 Q w0 a g z0 z1 z2 z3 z4 z5 q1 q2 q3 ha hg hgl hp h1 h2 h3 hQ (w.alloc (.cells #[.bool false, .slice none 0 0, .slice none 0 0] 25)) w.heap.size x2 v1 v2 (hS.on (alloc_below w _)) (below_join hb (alloc_below w _) hb.size) (resz_mk w) hb.size (r2.on (alloc_below w _) r2.lt) k2 (Nat.ne_of_gt r2.lt) (f1.on (alloc_below w _)) (f2.on (alloc_below w _))
  · refine stpO17 ?_
    refine hK.out _ _ (hS.on (alloc_below w _)) (fun _ => ?_)
    change wpAnyH _ _ _ _ _ _ _ (wpO17 w.heap.size (wpO9 v2 (wpO4 v1 (wpO16 x2 (sqO g z0 z1 z2 z3 z4 z5 a))))) _
    rw [wsO17_9, wsO17_4]
    exact stO2011 Q w0 a g z0 z1 z2 z3 z4 z5 q1 q2 q3 ha hg hgl hp h1 h2 h3 hQ (w.alloc (.cells #[.bool false, .slice none 0 0, .slice none 0 0] 25)) x2 w.heap.size v1 v2 (hS.on (alloc_below w _)) (below_join hb (alloc_below w _) hb.size) (r2.on (alloc_below w _) r2.lt) k2 (resz_mk w) hb.size (Nat.ne_of_lt r2.lt) (f1.on (alloc_below w _)) (f2.on (alloc_below w _))
theorem stO2100 (w : World) (x1 : Nat) (v1 v2 : Value) (hS : SixC g z0 z1 z2 z3 z4 z5 w) (hb : Below w0.heap.size w0 w) (r1 : ResZ x1 w) (k1 : w0.heap.size ≤ x1) (f1 : Rv w v1 q1) (f2 : Rv w v2 q2) :
    wpAnyH Tryz.prog .any opsO Q (SixC g z0 z1 z2 z3 z4 z5) 6 #[true, true, true, true, true, true, true, true, true, true, true, true, true, true, false, true, false, false, false, false, false] (wpO9 v2 (wpO4 v1 (wpO15 x1 (sqO g z0 z1 z2 z3 z4 z5 a)))) w := by
  have _hp := hp
  have _u1 := hg
  have _u2 := h1
  have _u3 := h2
  have _u4 := h3
  have _u5 := hgl
  refine wpAnyH_ready (rs := [14, 16, 17]) (by kernel_rfl) (by simp) (AllReadyH.cons rfl (fun K hK => ?_) (AllReadyH.cons rfl (fun K hK => ?_) (AllReadyH.cons rfl (fun K hK => ?_) AllReadyH.nil)))
  · refine stpO14 (by simp [wpO15, wpO16, wpO17, wpO4, wpO9, wpO14, sqO, eval_put, put_size, ha, hg]) (by simp [wpO15, wpO16, wpO17, wpO4, wpO9, wpO14, sqO, eval_put, put_size, ha, hg]) (h3 w) (fun v3 w' hv hb' => ?_)
    refine hK.out _ _ (hS.on hb') (fun _ => ?_)
    change wpAnyH _ _ _ _ _ _ _ (wpO14 v3 (wpO9 v2 (wpO4 v1 (wpO15 x1 (sqO g z0 z1 z2 z3 z4 z5 a))))) _
    exact stO3100 Q w0 a g z0 z1 z2 z3 z4 z5 q1 q2 q3 ha hg hgl hp h1 h2 h3 hQ w' x1 v1 v2 v3 (hS.on hb') (below_join hb hb' hb.size) (r1.on hb' r1.lt) k1 (f1.on hb') (f2.on hb') hv
  · refine stpO16 ?_
    refine hK.out _ _ (hS.on (alloc_below w _)) (fun _ => ?_)
    change wpAnyH _ _ _ _ _ _ _ (wpO16 w.heap.size (wpO9 v2 (wpO4 v1 (wpO15 x1 (sqO g z0 z1 z2 z3 z4 z5 a))))) _
    rw [wsO16_9, wsO16_4]
    exact stO2110 Q w0 a g z0 z1 z2 z3 z4 z5 q1 q2 q3 ha hg hgl hp h1 h2 h3 hQ (w.alloc (.cells #[.bool false, .slice none 0 0, .slice none 0 0] 25)) x1 w.heap.size v1 v2 (hS.on (alloc_below w _)) (below_join hb (alloc_below w _) hb.size) (r1.on (alloc_below w _) r1.lt) k1 (resz_mk w) hb.size (Nat.ne_of_lt r1.lt) (f1.on (alloc_below w _)) (f2.on (alloc_below w _))
  · refine stpO17 ?_
    refine hK.out _ _ (hS.on (alloc_below w _)) (fun _ => ?_)
    change wpAnyH _ _ _ _ _ _ _ (wpO17 w.heap.size (wpO9 v2 (wpO4 v1 (wpO15 x1 (sqO g z0 z1 z2 z3 z4 z5 a))))) _
    rw [wsO17_9, wsO17_4]
    exact stO2101 Q w0 a g z0 z1 z2 z3 z4 z5 q1 q2 q3 ha hg hgl hp h1 h2 h3 hQ (w.alloc (.cells #[.bool false, .slice none 0 0, .slice none 0 0] 25)) x1 w.heap.size v1 v2 (hS.on (alloc_below w _)) (below_join hb (alloc_below w _) hb.size) (r1.on (alloc_below w _) r1.lt) k1 (resz_mk w) hb.size (Nat.ne_of_lt r1.lt) (f1.on (alloc_below w _)) (f2.on (alloc_below w _))
theorem stO3000 (w : World) (v1 v2 v3 : Value) (hS : SixC g z0 z1 z2 z3 z4 z5 w) (hb : Below w0.heap.size w0 w) (f1 : Rv w v1 q1) (f2 : Rv w v2 q2) (f3 : Rv w v3 q3) :
    wpAnyH Tryz.prog .any opsO Q (SixC g z0 z1 z2 z3 z4 z5) 6 #[true, true, true, true, true, true, true, true, true, true, true, true, true, true, true, false, false, false, false, false, false] (wpO14 v3 (wpO9 v2 (wpO4 v1 (sqO g z0 z1 z2 z3 z4 z5 a)))) w := by
  have _hp := hp
  have _u1 := hg
  have _u2 := h1
  have _u3 := h2
  have _u4 := h3
  have _u5 := hgl
  refine wpAnyH_ready (rs := [15, 16, 17]) (by kernel_rfl) (by simp) (AllReadyH.cons rfl (fun K hK => ?_) (AllReadyH.cons rfl (fun K hK => ?_) (AllReadyH.cons rfl (fun K hK => ?_) AllReadyH.nil)))
  · refine stpO15 ?_
    refine hK.out _ _ (hS.on (alloc_below w _)) (fun _ => ?_)
    change wpAnyH _ _ _ _ _ _ _ (wpO15 w.heap.size (wpO14 v3 (wpO9 v2 (wpO4 v1 (sqO g z0 z1 z2 z3 z4 z5 a))))) _
    rw [wsO15_14, wsO15_9, wsO15_4]
    exact stO3100 Q w0 a g z0 z1 z2 z3 z4 z5 q1 q2 q3 ha hg hgl hp h1 h2 h3 hQ (w.alloc (.cells #[.bool false, .slice none 0 0, .slice none 0 0] 25)) w.heap.size v1 v2 v3 (hS.on (alloc_below w _)) (below_join hb (alloc_below w _) hb.size) (resz_mk w) hb.size (f1.on (alloc_below w _)) (f2.on (alloc_below w _)) (f3.on (alloc_below w _))
  · refine stpO16 ?_
    refine hK.out _ _ (hS.on (alloc_below w _)) (fun _ => ?_)
    change wpAnyH _ _ _ _ _ _ _ (wpO16 w.heap.size (wpO14 v3 (wpO9 v2 (wpO4 v1 (sqO g z0 z1 z2 z3 z4 z5 a))))) _
    rw [wsO16_14, wsO16_9, wsO16_4]
    exact stO3010 Q w0 a g z0 z1 z2 z3 z4 z5 q1 q2 q3 ha hg hgl hp h1 h2 h3 hQ (w.alloc (.cells #[.bool false, .slice none 0 0, .slice none 0 0] 25)) w.heap.size v1 v2 v3 (hS.on (alloc_below w _)) (below_join hb (alloc_below w _) hb.size) (resz_mk w) hb.size (f1.on (alloc_below w _)) (f2.on (alloc_below w _)) (f3.on (alloc_below w _))
  · refine stpO17 ?_
    refine hK.out _ _ (hS.on (alloc_below w _)) (fun _ => ?_)
    change wpAnyH _ _ _ _ _ _ _ (wpO17 w.heap.size (wpO14 v3 (wpO9 v2 (wpO4 v1 (sqO g z0 z1 z2 z3 z4 z5 a))))) _
    rw [wsO17_14, wsO17_9, wsO17_4]
    exact stO3001 Q w0 a g z0 z1 z2 z3 z4 z5 q1 q2 q3 ha hg hgl hp h1 h2 h3 hQ (w.alloc (.cells #[.bool false, .slice none 0 0, .slice none 0 0] 25)) w.heap.size v1 v2 v3 (hS.on (alloc_below w _)) (below_join hb (alloc_below w _) hb.size) (resz_mk w) hb.size (f1.on (alloc_below w _)) (f2.on (alloc_below w _)) (f3.on (alloc_below w _))
theorem stO0011 (w : World) (x2 x3 : Nat) (hS : SixC g z0 z1 z2 z3 z4 z5 w) (hb : Below w0.heap.size w0 w) (r2 : ResZ x2 w) (k2 : w0.heap.size ≤ x2) (r3 : ResZ x3 w) (k3 : w0.heap.size ≤ x3) (n23 : x2 ≠ x3) :
    wpAnyH Tryz.prog .any opsO Q (SixC g z0 z1 z2 z3 z4 z5) 7 #[true, true, true, true, false, true, true, true, true, false, true, true, true, true, false, false, true, true, false, false, false] (wpO17 x3 (wpO16 x2 (sqO g z0 z1 z2 z3 z4 z5 a))) w := by
  have _hp := hp
  have _u1 := hg
  have _u2 := h1
  have _u3 := h2
  have _u4 := h3
  have _u5 := hgl
  refine wpAnyH_ready (rs := [4, 15]) (by kernel_rfl) (by simp) (AllReadyH.cons rfl (fun K hK => ?_) (AllReadyH.cons rfl (fun K hK => ?_) AllReadyH.nil))
  · refine stpO4 (by simp [wpO15, wpO16, wpO17, wpO4, wpO9, wpO14, sqO, eval_put, put_size, ha, hg]) (by simp [wpO15, wpO16, wpO17, wpO4, wpO9, wpO14, sqO, eval_put, put_size, ha, hg]) (h1 w) (fun v1 w' hv hb' => ?_)
    refine hK.out _ _ (hS.on hb') (fun _ => ?_)
    change wpAnyH _ _ _ _ _ _ _ (wpO4 v1 (wpO17 x3 (wpO16 x2 (sqO g z0 z1 z2 z3 z4 z5 a)))) _
    exact stO1011 Q w0 a g z0 z1 z2 z3 z4 z5 q1 q2 q3 ha hg hgl hp h1 h2 h3 hQ w' x2 x3 v1 (hS.on hb') (below_join hb hb' hb.size) (r2.on hb' r2.lt) k2 (r3.on hb' r3.lt) k3 n23 hv
  · refine stpO15 ?_
    refine hK.out _ _ (hS.on (alloc_below w _)) (fun _ => ?_)
    change wpAnyH _ _ _ _ _ _ _ (wpO15 w.heap.size (wpO17 x3 (wpO16 x2 (sqO g z0 z1 z2 z3 z4 z5 a)))) _
    rw [wsO15_17, wsO15_16]
    exact stO0111 Q w0 a g z0 z1 z2 z3 z4 z5 q1 q2 q3 ha hg hgl hp h1 h2 h3 hQ (w.alloc (.cells #[.bool false, .slice none 0 0, .slice none 0 0] 25)) w.heap.size x2 x3  (hS.on (alloc_below w _)) (below_join hb (alloc_below w _) hb.size) (resz_mk w) hb.size (r2.on (alloc_below w _) r2.lt) k2 (r3.on (alloc_below w _) r3.lt) k3 (Nat.ne_of_gt r2.lt) (Nat.ne_of_gt r3.lt) n23
theorem stO0101 (w : World) (x1 x3 : Nat) (hS : SixC g z0 z1 z2 z3 z4 z5 w) (hb : Below w0.heap.size w0 w) (r1 : ResZ x1 w) (k1 : w0.heap.size ≤ x1) (r3 : ResZ x3 w) (k3 : w0.heap.size ≤ x3) (n13 : x1 ≠ x3) :
    wpAnyH Tryz.prog .any opsO Q (SixC g z0 z1 z2 z3 z4 z5) 7 #[true, true, true, true, false, true, true, true, true, false, true, true, true, true, false, true, false, true, false, false, false] (wpO17 x3 (wpO15 x1 (sqO g z0 z1 z2 z3 z4 z5 a))) w := by
  have _hp := hp
  have _u1 := hg
  have _u2 := h1
  have _u3 := h2
  have _u4 := h3
  have _u5 := hgl
  refine wpAnyH_ready (rs := [4, 16]) (by kernel_rfl) (by simp) (AllReadyH.cons rfl (fun K hK => ?_) (AllReadyH.cons rfl (fun K hK => ?_) AllReadyH.nil))
  · refine stpO4 (by simp [wpO15, wpO16, wpO17, wpO4, wpO9, wpO14, sqO, eval_put, put_size, ha, hg]) (by simp [wpO15, wpO16, wpO17, wpO4, wpO9, wpO14, sqO, eval_put, put_size, ha, hg]) (h1 w) (fun v1 w' hv hb' => ?_)
    refine hK.out _ _ (hS.on hb') (fun _ => ?_)
    change wpAnyH _ _ _ _ _ _ _ (wpO4 v1 (wpO17 x3 (wpO15 x1 (sqO g z0 z1 z2 z3 z4 z5 a)))) _
    exact stO1101 Q w0 a g z0 z1 z2 z3 z4 z5 q1 q2 q3 ha hg hgl hp h1 h2 h3 hQ w' x1 x3 v1 (hS.on hb') (below_join hb hb' hb.size) (r1.on hb' r1.lt) k1 (r3.on hb' r3.lt) k3 n13 hv
  · refine stpO16 ?_
    refine hK.out _ _ (hS.on (alloc_below w _)) (fun _ => ?_)
    change wpAnyH _ _ _ _ _ _ _ (wpO16 w.heap.size (wpO17 x3 (wpO15 x1 (sqO g z0 z1 z2 z3 z4 z5 a)))) _
    rw [wsO16_17]
    exact stO0111 Q w0 a g z0 z1 z2 z3 z4 z5 q1 q2 q3 ha hg hgl hp h1 h2 h3 hQ (w.alloc (.cells #[.bool false, .slice none 0 0, .slice none 0 0] 25)) x1 w.heap.size x3  (hS.on (alloc_below w _)) (below_join hb (alloc_below w _) hb.size) (r1.on (alloc_below w _) r1.lt) k1 (resz_mk w) hb.size (r3.on (alloc_below w _) r3.lt) k3 (Nat.ne_of_lt r1.lt) n13 (Nat.ne_of_gt r3.lt)
theorem stO0110 (w : World) (x1 x2 : Nat) (hS : SixC g z0 z1 z2 z3 z4 z5 w) (hb : Below w0.heap.size w0 w) (r1 : ResZ x1 w) (k1 : w0.heap.size ≤ x1) (r2 : ResZ x2 w) (k2 : w0.heap.size ≤ x2) (n12 : x1 ≠ x2) :
    wpAnyH Tryz.prog .any opsO Q (SixC g z0 z1 z2 z3 z4 z5) 7 #[true, true, true, true, false, true, true, true, true, false, true, true, true, true, false, true, true, false, false, false, false] (wpO16 x2 (wpO15 x1 (sqO g z0 z1 z2 z3 z4 z5 a))) w := by
  have _hp := hp
  have _u1 := hg
  have _u2 := h1
  have _u3 := h2
  have _u4 := h3
  have _u5 := hgl
  refine wpAnyH_ready (rs := [4, 17]) (by kernel_rfl) (by simp) (AllReadyH.cons rfl (fun K hK => ?_) (AllReadyH.cons rfl (fun K hK => ?_) AllReadyH.nil))
  · refine stpO4 (by simp [wpO15, wpO16, wpO17, wpO4, wpO9, wpO14, sqO, eval_put, put_size, ha, hg]) (by simp [wpO15, wpO16, wpO17, wpO4, wpO9, wpO14, sqO, eval_put, put_size, ha, hg]) (h1 w) (fun v1 w' hv hb' => ?_)
    refine hK.out _ _ (hS.on hb') (fun _ => ?_)
    change wpAnyH _ _ _ _ _ _ _ (wpO4 v1 (wpO16 x2 (wpO15 x1 (sqO g z0 z1 z2 z3 z4 z5 a)))) _
    exact stO1110 Q w0 a g z0 z1 z2 z3 z4 z5 q1 q2 q3 ha hg hgl hp h1 h2 h3 hQ w' x1 x2 v1 (hS.on hb') (below_join hb hb' hb.size) (r1.on hb' r1.lt) k1 (r2.on hb' r2.lt) k2 n12 hv
  · refine stpO17 ?_
    refine hK.out _ _ (hS.on (alloc_below w _)) (fun _ => ?_)
    change wpAnyH _ _ _ _ _ _ _ (wpO17 w.heap.size (wpO16 x2 (wpO15 x1 (sqO g z0 z1 z2 z3 z4 z5 a)))) _
    exact stO0111 Q w0 a g z0 z1 z2 z3 z4 z5 q1 q2 q3 ha hg hgl hp h1 h2 h3 hQ (w.alloc (.cells #[.bool false, .slice none 0 0, .slice none 0 0] 25)) x1 x2 w.heap.size  (hS.on (alloc_below w _)) (below_join hb (alloc_below w _) hb.size) (r1.on (alloc_below w _) r1.lt) k1 (r2.on (alloc_below w _) r2.lt) k2 (resz_mk w) hb.size n12 (Nat.ne_of_lt r1.lt) (Nat.ne_of_lt r2.lt)
theorem stO1001 (w : World) (x3 : Nat) (v1 : Value) (hS : SixC g z0 z1 z2 z3 z4 z5 w) (hb : Below w0.heap.size w0 w) (r3 : ResZ x3 w) (k3 : w0.heap.size ≤ x3) (f1 : Rv w v1 q1) :
    wpAnyH Tryz.prog .any opsO Q (SixC g z0 z1 z2 z3 z4 z5) 7 #[true, true, true, true, true, true, true, true, true, false, true, true, true, true, false, false, false, true, false, false, false] (wpO4 v1 (wpO17 x3 (sqO g z0 z1 z2 z3 z4 z5 a))) w := by
  have _hp := hp
  have _u1 := hg
  have _u2 := h1
  have _u3 := h2
  have _u4 := h3
  have _u5 := hgl
  refine wpAnyH_ready (rs := [9, 15, 16]) (by kernel_rfl) (by simp) (AllReadyH.cons rfl (fun K hK => ?_) (AllReadyH.cons rfl (fun K hK => ?_) (AllReadyH.cons rfl (fun K hK => ?_) AllReadyH.nil)))
  · refine stpO9 (by simp [wpO15, wpO16, wpO17, wpO4, wpO9, wpO14, sqO, eval_put, put_size, ha, hg]) (by simp [wpO15, wpO16, wpO17, wpO4, wpO9, wpO14, sqO, eval_put, put_size, ha, hg]) (h2 w) (fun v2 w' hv hb' => ?_)
    refine hK.out _ _ (hS.on hb') (fun _ => ?_)
    change wpAnyH _ _ _ _ _ _ _ (wpO9 v2 (wpO4 v1 (wpO17 x3 (sqO g z0 z1 z2 z3 z4 z5 a)))) _
    exact stO2001 Q w0 a g z0 z1 z2 z3 z4 z5 q1 q2 q3 ha hg hgl hp h1 h2 h3 hQ w' x3 v1 v2 (hS.on hb') (below_join hb hb' hb.size) (r3.on hb' r3.lt) k3 (f1.on hb') hv
  · refine stpO15 ?_
    refine hK.out _ _ (hS.on (alloc_below w _)) (fun _ => ?_)
    change wpAnyH _ _ _ _ _ _ _ (wpO15 w.heap.size (wpO4 v1 (wpO17 x3 (sqO g z0 z1 z2 z3 z4 z5 a)))) _
    rw [wsO15_4, wsO15_17]
    exact stO1101 Q w0 a g z0 z1 z2 z3 z4 z5 q1 q2 q3 ha hg hgl hp h1 h2 h3 hQ (w.alloc (.cells #[.bool false, .slice none 0 0, .slice none 0 0] 25)) w.heap.size x3 v1 (hS.on (alloc_below w _)) (below_join hb (alloc_below w _) hb.size) (resz_mk w) hb.size (r3.on (alloc_below w _) r3.lt) k3 (Nat.ne_of_gt r3.lt) (f1.on (alloc_below w _))
  · refine stpO16 ?_
    refine hK.out _ _ (hS.on (alloc_below w _)) (fun _ => ?_)
    change wpAnyH _ _ _ _ _ _ _ (wpO16 w.heap.size (wpO4 v1 (wpO17 x3 (sqO g z0 z1 z2 z3 z4 z5 a)))) _
    rw [wsO16_4, wsO16_17]
    exact stO1011 Q w0 a g z0 z1 z2 z3 z4 z5 q1 q2 q3 ha hg hgl hp h1 h2 h3 hQ (w.alloc (.cells #[.bool false, .slice none 0 0, .slice none 0 0] 25)) w.heap.size x3 v1 (hS.on (alloc_below w _)) (below_join hb (alloc_below w _) hb.size) (resz_mk w) hb.size (r3.on (alloc_below w _) r3.lt) k3 (Nat.ne_of_gt r3.lt) (f1.on (alloc_below w _))
theorem stO1010 (w : World) (x2 : Nat) (v1 : Value) (hS : SixC g z0 z1 z2 z3 z4 z5 w) (hb : Below w0.heap.size w0 w) (r2 : ResZ x2 w) (k2 : w0.heap.size ≤ x2) (f1 : Rv w v1 q1) :
    wpAnyH Tryz.prog .any opsO Q (SixC g z0 z1 z2 z3 z4 z5) 7 #[true, true, true, true, true, true, true, true, true, false, true, true, true, true, false, false, true, false, false, false, false] (wpO4 v1 (wpO16 x2 (sqO g z0 z1 z2 z3 z4 z5 a))) w := by
  have _hp := hp
  have _u1 := hg
  have _u2 := h1
  have _u3 := h2
  have _u4 := h3
  have _u5 := hgl
  refine wpAnyH_ready (rs := [9, 15, 17]) (by kernel_rfl) (by simp) (AllReadyH.cons rfl (fun K hK => ?_) (AllReadyH.cons rfl (fun K hK => ?_) (AllReadyH.cons rfl (fun K hK => ?_) AllReadyH.nil)))
  · refine stpO9 (by simp [wpO15, wpO16, wpO17, wpO4, wpO9, wpO14, sqO, eval_put, put_size, ha, hg]) (by simp [wpO15, wpO16, wpO17, wpO4, wpO9, wpO14, sqO, eval_put, put_size, ha, hg]) (h2 w) (fun v2 w' hv hb' => ?_)
    refine hK.out _ _ (hS.on hb') (fun _ => ?_)
    change wpAnyH _ _ _ _ _ _ _ (wpO9 v2 (wpO4 v1 (wpO16 x2 (sqO g z0 z1 z2 z3 z4 z5 a)))) _
    exact stO2010 Q w0 a g z0 z1 z2 z3 z4 z5 q1 q2 q3 ha hg hgl hp h1 h2 h3 hQ w' x2 v1 v2 (hS.on hb') (below_join hb hb' hb.size) (r2.on hb' r2.lt) k2 (f1.on hb') hv
  · refine stpO15 ?_
    refine hK.out _ _ (hS.on (alloc_below w _)) (fun _ => ?_)
    change wpAnyH _ _ _ _ _ _ _ (wpO15 w.heap.size (wpO4 v1 (wpO16 x2 (sqO g z0 z1 z2 z3 z4 z5 a)))) _
    rw [wsO15_4, wsO15_16]
    exact stO1110 Q w0 a g z0 z1 z2 z3 z4 z5 q1 q2 q3 ha hg hgl hp h1 h2 h3 hQ (w.alloc (.cells #[.bool false, .slice none 0 0, .slice none 0 0] 25)) w.heap.size x2 v1 (hS.on (alloc_below w _)) (below_join hb (alloc_below w _) hb.size) (resz_mk w) hb.size (r2.on (alloc_below w _) r2.lt) k2 (Nat.ne_of_gt r2.lt) (f1.on (alloc_below w _))
  · refine stpO17 ?_
    refine hK.out _ _ (hS.on (alloc_below w _)) (fun _ => ?_)
    change wpAnyH _ _ _ _ _ _ _ (wpO17 w.heap.size (wpO4 v1 (wpO16 x2 (sqO g z0 z1 z2 z3 z4 z5 a)))) _
    rw [wsO17_4]
    exact stO1011 Q w0 a g z0 z1 z2 z3 z4 z5 q1 q2 q3 ha hg hgl hp h1 h2 h3 hQ (w.alloc (.cells #[.bool false, .slice none 0 0, .slice none 0 0] 25)) x2 w.heap.size v1 (hS.on (alloc_below w _)) (below_join hb (alloc_below w _) hb.size) (r2.on (alloc_below w _) r2.lt) k2 (resz_mk w) hb.size (Nat.ne_of_lt r2.lt) (f1.on (alloc_below w _))
theorem stO1100 (w : World) (x1 : Nat) (v1 : Value) (hS : SixC g z0 z1 z2 z3 z4 z5 w) (hb : Below w0.heap.size w0 w) (r1 : ResZ x1 w) (k1 : w0.heap.size ≤ x1) (f1 : Rv w v1 q1) :
    wpAnyH Tryz.prog .any opsO Q (SixC g z0 z1 z2 z3 z4 z5) 7 #[true, true, true, true, true, true, true, true, true, false, true, true, true, true, false, true, false, false, false, false, false] (wpO4 v1 (wpO15 x1 (sqO g z0 z1 z2 z3 z4 z5 a))) w := by
  have _hp := hp
  have _u1 := hg
  have _u2 := h1
  have _u3 := h2
  have _u4 := h3
  have _u5 := hgl
  refine wpAnyH_ready (rs := [9, 16, 17]) (by kernel_rfl) (by simp) (AllReadyH.cons rfl (fun K hK => ?_) (AllReadyH.cons rfl (fun K hK => ?_) (AllReadyH.cons rfl (fun K hK => ?_) AllReadyH.nil)))
  · refine stpO9 (by simp [wpO15, wpO16, wpO17, wpO4, wpO9, wpO14, sqO, eval_put, put_size, ha, hg]) (by simp [wpO15, wpO16, wpO17, wpO4, wpO9, wpO14, sqO, eval_put, put_size, ha, hg]) (h2 w) (fun v2 w' hv hb' => ?_)
    refine hK.out _ _ (hS.on hb') (fun _ => ?_)
    change wpAnyH _ _ _ _ _ _ _ (wpO9 v2 (wpO4 v1 (wpO15 x1 (sqO g z0 z1 z2 z3 z4 z5 a)))) _
    exact stO2100 Q w0 a g z0 z1 z2 z3 z4 z5 q1 q2 q3 ha hg hgl hp h1 h2 h3 hQ w' x1 v1 v2 (hS.on hb') (below_join hb hb' hb.size) (r1.on hb' r1.lt) k1 (f1.on hb') hv
  · refine stpO16 ?_
    refine hK.out _ _ (hS.on (alloc_below w _)) (fun _ => ?_)
    change wpAnyH _ _ _ _ _ _ _ (wpO16 w.heap.size (wpO4 v1 (wpO15 x1 (sqO g z0 z1 z2 z3 z4 z5 a)))) _
    rw [wsO16_4]
    exact stO1110 Q w0 a g z0 z1 z2 z3 z4 z5 q1 q2 q3 ha hg hgl hp h1 h2 h3 hQ (w.alloc (.cells #[.bool false, .slice none 0 0, .slice none 0 0] 25)) x1 w.heap.size v1 (hS.on (alloc_below w _)) (below_join hb (alloc_below w _) hb.size) (r1.on (alloc_below w _) r1.lt) k1 (resz_mk w) hb.size (Nat.ne_of_lt r1.lt) (f1.on (alloc_below w _))
  · refine stpO17 ?_
    refine hK.out _ _ (hS.on (alloc_below w _)) (fun _ => ?_)
    change wpAnyH _ _ _ _ _ _ _ (wpO17 w.heap.size (wpO4 v1 (wpO15 x1 (sqO g z0 z1 z2 z3 z4 z5 a)))) _
    rw [wsO17_4]
    exact stO1101 Q w0 a g z0 z1 z2 z3 z4 z5 q1 q2 q3 ha hg hgl hp h1 h2 h3 hQ (w.alloc (.cells #[.bool false, .slice none 0 0, .slice none 0 0] 25)) x1 w.heap.size v1 (hS.on (alloc_below w _)) (below_join hb (alloc_below w _) hb.size) (r1.on (alloc_below w _) r1.lt) k1 (resz_mk w) hb.size (Nat.ne_of_lt r1.lt) (f1.on (alloc_below w _))
theorem stO2000 (w : World) (v1 v2 : Value) (hS : SixC g z0 z1 z2 z3 z4 z5 w) (hb : Below w0.heap.size w0 w) (f1 : Rv w v1 q1) (f2 : Rv w v2 q2) :
    wpAnyH Tryz.prog .any opsO Q (SixC g z0 z1 z2 z3 z4 z5) 7 #[true, true, true, true, true, true, true, true, true, true, true, true, true, true, false, false, false, false, false, false, false] (wpO9 v2 (wpO4 v1 (sqO g z0 z1 z2 z3 z4 z5 a))) w := by
  have _hp := hp
  have _u1 := hg
  have _u2 := h1
  have _u3 := h2
  have _u4 := h3
  have _u5 := hgl
  refine wpAnyH_ready (rs := [14, 15, 16, 17]) (by kernel_rfl) (by simp) (AllReadyH.cons rfl (fun K hK => ?_) (AllReadyH.cons rfl (fun K hK => ?_) (AllReadyH.cons rfl (fun K hK => ?_) (AllReadyH.cons rfl (fun K hK => ?_) AllReadyH.nil))))
  · refine stpO14 (by simp [wpO15, wpO16, wpO17, wpO4, wpO9, wpO14, sqO, eval_put, put_size, ha, hg]) (by simp [wpO15, wpO16, wpO17, wpO4, wpO9, wpO14, sqO, eval_put, put_size, ha, hg]) (h3 w) (fun v3 w' hv hb' => ?_)
    refine hK.out _ _ (hS.on hb') (fun _ => ?_)
    change wpAnyH _ _ _ _ _ _ _ (wpO14 v3 (wpO9 v2 (wpO4 v1 (sqO g z0 z1 z2 z3 z4 z5 a)))) _
    exact stO3000 Q w0 a g z0 z1 z2 z3 z4 z5 q1 q2 q3 ha hg hgl hp h1 h2 h3 hQ w'  v1 v2 v3 (hS.on hb') (below_join hb hb' hb.size) (f1.on hb') (f2.on hb') hv
  · refine stpO15 ?_
    refine hK.out _ _ (hS.on (alloc_below w _)) (fun _ => ?_)
    change wpAnyH _ _ _ _ _ _ _ (wpO15 w.heap.size (wpO9 v2 (wpO4 v1 (sqO g z0 z1 z2 z3 z4 z5 a)))) _
    rw [wsO15_9, wsO15_4]
    exact stO2100 Q w0 a g z0 z1 z2 z3 z4 z5 q1 q2 q3 ha hg hgl hp h1 h2 h3 hQ (w.alloc (.cells #[.bool false, .slice none 0 0, .slice none 0 0] 25)) w.heap.size v1 v2 (hS.on (alloc_below w _)) (below_join hb (alloc_below w _) hb.size) (resz_mk w) hb.size (f1.on (alloc_below w _)) (f2.on (alloc_below w _))
  · refine stpO16 ?_
    refine hK.out _ _ (hS.on (alloc_below w _)) (fun _ => ?_)
    change wpAnyH _ _ _ _ _ _ _ (wpO16 w.heap.size (wpO9 v2 (wpO4 v1 (sqO g z0 z1 z2 z3 z4 z5 a)))) _
    rw [wsO16_9, wsO16_4]
    exact stO2010 Q w0 a g z0 z1 z2 z3 z4 z5 q1 q2 q3 ha hg hgl hp h1 h2 h3 hQ (w.alloc (.cells #[.bool false, .slice none 0 0, .slice none 0 0] 25)) w.heap.size v1 v2 (hS.on (alloc_below w _)) (below_join hb (alloc_below w _) hb.size) (resz_mk w) hb.size (f1.on (alloc_below w _)) (f2.on (alloc_below w _))
  · refine stpO17 ?_
    refine hK.out _ _ (hS.on (alloc_below w _)) (fun _ => ?_)
    change wpAnyH _ _ _ _ _ _ _ (wpO17 w.heap.size (wpO9 v2 (wpO4 v1 (sqO g z0 z1 z2 z3 z4 z5 a)))) _
    rw [wsO17_9, wsO17_4]
    exact stO2001 Q w0 a g z0 z1 z2 z3 z4 z5 q1 q2 q3 ha hg hgl hp h1 h2 h3 hQ (w.alloc (.cells #[.bool false, .slice none 0 0, .slice none 0 0] 25)) w.heap.size v1 v2 (hS.on (alloc_below w _)) (below_join hb (alloc_below w _) hb.size) (resz_mk w) hb.size (f1.on (alloc_below w _)) (f2.on (alloc_below w _))
theorem stO0001 (w : World) (x3 : Nat) (hS : SixC g z0 z1 z2 z3 z4 z5 w) (hb : Below w0.heap.size w0 w) (r3 : ResZ x3 w) (k3 : w0.heap.size ≤ x3) :
    wpAnyH Tryz.prog .any opsO Q (SixC g z0 z1 z2 z3 z4 z5) 8 #[true, true, true, true, false, true, true, true, true, false, true, true, true, true, false, false, false, true, false, false, false] (wpO17 x3 (sqO g z0 z1 z2 z3 z4 z5 a)) w := by
  have _hp := hp
  have _u1 := hg
  have _u2 := h1
  have _u3 := h2
  have _u4 := h3
  have _u5 := hgl
  refine wpAnyH_ready (rs := [4, 15, 16]) (by kernel_rfl) (by simp) (AllReadyH.cons rfl (fun K hK => ?_) (AllReadyH.cons rfl (fun K hK => ?_) (AllReadyH.cons rfl (fun K hK => ?_) AllReadyH.nil)))
  · refine stpO4 (by simp [wpO15, wpO16, wpO17, wpO4, wpO9, wpO14, sqO, eval_put, put_size, ha, hg]) (by simp [wpO15, wpO16, wpO17, wpO4, wpO9, wpO14, sqO, eval_put, put_size, ha, hg]) (h1 w) (fun v1 w' hv hb' => ?_)
    refine hK.out _ _ (hS.on hb') (fun _ => ?_)
    change wpAnyH _ _ _ _ _ _ _ (wpO4 v1 (wpO17 x3 (sqO g z0 z1 z2 z3 z4 z5 a))) _
    exact stO1001 Q w0 a g z0 z1 z2 z3 z4 z5 q1 q2 q3 ha hg hgl hp h1 h2 h3 hQ w' x3 v1 (hS.on hb') (below_join hb hb' hb.size) (r3.on hb' r3.lt) k3 hv
  · refine stpO15 ?_
    refine hK.out _ _ (hS.on (alloc_below w _)) (fun _ => ?_)
    change wpAnyH _ _ _ _ _ _ _ (wpO15 w.heap.size (wpO17 x3 (sqO g z0 z1 z2 z3 z4 z5 a))) _
    rw [wsO15_17]
    exact stO0101 Q w0 a g z0 z1 z2 z3 z4 z5 q1 q2 q3 ha hg hgl hp h1 h2 h3 hQ (w.alloc (.cells #[.bool false, .slice none 0 0, .slice none 0 0] 25)) w.heap.size x3  (hS.on (alloc_below w _)) (below_join hb (alloc_below w _) hb.size) (resz_mk w) hb.size (r3.on (alloc_below w _) r3.lt) k3 (Nat.ne_of_gt r3.lt)
  · refine stpO16 ?_
    refine hK.out _ _ (hS.on (alloc_below w _)) (fun _ => ?_)
    change wpAnyH _ _ _ _ _ _ _ (wpO16 w.heap.size (wpO17 x3 (sqO g z0 z1 z2 z3 z4 z5 a))) _
    rw [wsO16_17]
    exact stO0011 Q w0 a g z0 z1 z2 z3 z4 z5 q1 q2 q3 ha hg hgl hp h1 h2 h3 hQ (w.alloc (.cells #[.bool false, .slice none 0 0, .slice none 0 0] 25)) w.heap.size x3  (hS.on (alloc_below w _)) (below_join hb (alloc_below w _) hb.size) (resz_mk w) hb.size (r3.on (alloc_below w _) r3.lt) k3 (Nat.ne_of_gt r3.lt)
theorem stO0010 (w : World) (x2 : Nat) (hS : SixC g z0 z1 z2 z3 z4 z5 w) (hb : Below w0.heap.size w0 w) (r2 : ResZ x2 w) (k2 : w0.heap.size ≤ x2) :
    wpAnyH Tryz.prog .any opsO Q (SixC g z0 z1 z2 z3 z4 z5) 8 #[true, true, true, true, false, true, true, true, true, false, true, true, true, true, false, false, true, false, false, false, false] (wpO16 x2 (sqO g z0 z1 z2 z3 z4 z5 a)) w := by
  have _hp := hp
  have _u1 := hg
  have _u2 := h1
  have _u3 := h2
  have _u4 := h3
  have _u5 := hgl
  refine wpAnyH_ready (rs := [4, 15, 17]) (by kernel_rfl) (by simp) (AllReadyH.cons rfl (fun K hK => ?_) (AllReadyH.cons rfl (fun K hK => ?_) (AllReadyH.cons rfl (fun K hK => ?_) AllReadyH.nil)))
  · refine stpO4 (by simp [wpO15, wpO16, wpO17, wpO4, wpO9, wpO14, sqO, eval_put, put_size, ha, hg]) (by simp [wpO15, wpO16, wpO17, wpO4, wpO9, wpO14, sqO, eval_put, put_size, ha, hg]) (h1 w) (fun v1 w' hv hb' => ?_)
    refine hK.out _ _ (hS.on hb') (fun _ => ?_)
    change wpAnyH _ _ _ _ _ _ _ (wpO4 v1 (wpO16 x2 (sqO g z0 z1 z2 z3 z4 z5 a))) _
    exact stO1010 Q w0 a g z0 z1 z2 z3 z4 z5 q1 q2 q3 ha hg hgl hp h1 h2 h3 hQ w' x2 v1 (hS.on hb') (below_join hb hb' hb.size) (r2.on hb' r2.lt) k2 hv
  · refine stpO15 ?_
    refine hK.out _ _ (hS.on (alloc_below w _)) (fun _ => ?_)
    change wpAnyH _ _ _ _ _ _ _ (wpO15 w.heap.size (wpO16 x2 (sqO g z0 z1 z2 z3 z4 z5 a))) _
    rw [wsO15_16]
    exact stO0110 Q w0 a g z0 z1 z2 z3 z4 z5 q1 q2 q3 ha hg hgl hp h1 h2 h3 hQ (w.alloc (.cells #[.bool false, .slice none 0 0, .slice none 0 0] 25)) w.heap.size x2  (hS.on (alloc_below w _)) (below_join hb (alloc_below w _) hb.size) (resz_mk w) hb.size (r2.on (alloc_below w _) r2.lt) k2 (Nat.ne_of_gt r2.lt)
  · refine stpO17 ?_
    refine hK.out _ _ (hS.on (alloc_below w _)) (fun _ => ?_)
    change wpAnyH _ _ _ _ _ _ _ (wpO17 w.heap.size (wpO16 x2 (sqO g z0 z1 z2 z3 z4 z5 a))) _
    exact stO0011 Q w0 a g z0 z1 z2 z3 z4 z5 q1 q2 q3 ha hg hgl hp h1 h2 h3 hQ (w.alloc (.cells #[.bool false, .slice none 0 0, .slice none 0 0] 25)) x2 w.heap.size  (hS.on (alloc_below w _)) (below_join hb (alloc_below w _) hb.size) (r2.on (alloc_below w _) r2.lt) k2 (resz_mk w) hb.size (Nat.ne_of_lt r2.lt)
theorem stO0100 (w : World) (x1 : Nat) (hS : SixC g z0 z1 z2 z3 z4 z5 w) (hb : Below w0.heap.size w0 w) (r1 : ResZ x1 w) (k1 : w0.heap.size ≤ x1) :
    wpAnyH Tryz.prog .any opsO Q (SixC g z0 z1 z2 z3 z4 z5) 8 #[true, true, true, true, false, true, true, true, true, false, true, true, true, true, false, true, false, false, false, false, false] (wpO15 x1 (sqO g z0 z1 z2 z3 z4 z5 a)) w := by
  have _hp := hp
  have _u1 := hg
  have _u2 := h1
  have _u3 := h2
  have _u4 := h3
  have _u5 := hgl
  refine wpAnyH_ready (rs := [4, 16, 17]) (by kernel_rfl) (by simp) (AllReadyH.cons rfl (fun K hK => ?_) (AllReadyH.cons rfl (fun K hK => ?_) (AllReadyH.cons rfl (fun K hK => ?_) AllReadyH.nil)))
  · refine stpO4 (by simp [wpO15, wpO16, wpO17, wpO4, wpO9, wpO14, sqO, eval_put, put_size, ha, hg]) (by simp [wpO15, wpO16, wpO17, wpO4, wpO9, wpO14, sqO, eval_put, put_size, ha, hg]) (h1 w) (fun v1 w' hv hb' => ?_)
    refine hK.out _ _ (hS.on hb') (fun _ => ?_)
    change wpAnyH _ _ _ _ _ _ _ (wpO4 v1 (wpO15 x1 (sqO g z0 z1 z2 z3 z4 z5 a))) _
    exact stO1100 Q w0 a g z0 z1 z2 z3 z4 z5 q1 q2 q3 ha hg hgl hp h1 h2 h3 hQ w' x1 v1 (hS.on hb') (below_join hb hb' hb.size) (r1.on hb' r1.lt) k1 hv
  · refine stpO16 ?_
    refine hK.out _ _ (hS.on (alloc_below w _)) (fun _ => ?_)
    change wpAnyH _ _ _ _ _ _ _ (wpO16 w.heap.size (wpO15 x1 (sqO g z0 z1 z2 z3 z4 z5 a))) _
    exact stO0110 Q w0 a g z0 z1 z2 z3 z4 z5 q1 q2 q3 ha hg hgl hp h1 h2 h3 hQ (w.alloc (.cells #[.bool false, .slice none 0 0, .slice none 0 0] 25)) x1 w.heap.size  (hS.on (alloc_below w _)) (below_join hb (alloc_below w _) hb.size) (r1.on (alloc_below w _) r1.lt) k1 (resz_mk w) hb.size (Nat.ne_of_lt r1.lt)
  · refine stpO17 ?_
    refine hK.out _ _ (hS.on (alloc_below w _)) (fun _ => ?_)
    change wpAnyH _ _ _ _ _ _ _ (wpO17 w.heap.size (wpO15 x1 (sqO g z0 z1 z2 z3 z4 z5 a))) _
    exact stO0101 Q w0 a g z0 z1 z2 z3 z4 z5 q1 q2 q3 ha hg hgl hp h1 h2 h3 hQ (w.alloc (.cells #[.bool false, .slice none 0 0, .slice none 0 0] 25)) x1 w.heap.size  (hS.on (alloc_below w _)) (below_join hb (alloc_below w _) hb.size) (r1.on (alloc_below w _) r1.lt) k1 (resz_mk w) hb.size (Nat.ne_of_lt r1.lt)
theorem stO1000 (w : World) (v1 : Value) (hS : SixC g z0 z1 z2 z3 z4 z5 w) (hb : Below w0.heap.size w0 w) (f1 : Rv w v1 q1) :
    wpAnyH Tryz.prog .any opsO Q (SixC g z0 z1 z2 z3 z4 z5) 8 #[true, true, true, true, true, true, true, true, true, false, true, true, true, true, false, false, false, false, false, false, false] (wpO4 v1 (sqO g z0 z1 z2 z3 z4 z5 a)) w := by
  have _hp := hp
  have _u1 := hg
  have _u2 := h1
  have _u3 := h2
  have _u4 := h3
  have _u5 := hgl
  refine wpAnyH_ready (rs := [9, 15, 16, 17]) (by kernel_rfl) (by simp) (AllReadyH.cons rfl (fun K hK => ?_) (AllReadyH.cons rfl (fun K hK => ?_) (AllReadyH.cons rfl (fun K hK => ?_) (AllReadyH.cons rfl (fun K hK => ?_) AllReadyH.nil))))
  · refine stpO9 (by simp [wpO15, wpO16, wpO17, wpO4, wpO9, wpO14, sqO, eval_put, put_size, ha, hg]) (by simp [wpO15, wpO16, wpO17, wpO4, wpO9, wpO14, sqO, eval_put, put_size, ha, hg]) (h2 w) (fun v2 w' hv hb' => ?_)
    refine hK.out _ _ (hS.on hb') (fun _ => ?_)
    change wpAnyH _ _ _ _ _ _ _ (wpO9 v2 (wpO4 v1 (sqO g z0 z1 z2 z3 z4 z5 a))) _
    exact stO2000 Q w0 a g z0 z1 z2 z3 z4 z5 q1 q2 q3 ha hg hgl hp h1 h2 h3 hQ w'  v1 v2 (hS.on hb') (below_join hb hb' hb.size) (f1.on hb') hv
  · refine stpO15 ?_
    refine hK.out _ _ (hS.on (alloc_below w _)) (fun _ => ?_)
    change wpAnyH _ _ _ _ _ _ _ (wpO15 w.heap.size (wpO4 v1 (sqO g z0 z1 z2 z3 z4 z5 a))) _
    rw [wsO15_4]
    exact stO1100 Q w0 a g z0 z1 z2 z3 z4 z5 q1 q2 q3 ha hg hgl hp h1 h2 h3 hQ (w.alloc (.cells #[.bool false, .slice none 0 0, .slice none 0 0] 25)) w.heap.size v1 (hS.on (alloc_below w _)) (below_join hb (alloc_below w _) hb.size) (resz_mk w) hb.size (f1.on (alloc_below w _))
  · refine stpO16 ?_
    refine hK.out _ _ (hS.on (alloc_below w _)) (fun _ => ?_)
    change wpAnyH _ _ _ _ _ _ _ (wpO16 w.heap.size (wpO4 v1 (sqO g z0 z1 z2 z3 z4 z5 a))) _
    rw [wsO16_4]
    exact stO1010 Q w0 a g z0 z1 z2 z3 z4 z5 q1 q2 q3 ha hg hgl hp h1 h2 h3 hQ (w.alloc (.cells #[.bool false, .slice none 0 0, .slice none 0 0] 25)) w.heap.size v1 (hS.on (alloc_below w _)) (below_join hb (alloc_below w _) hb.size) (resz_mk w) hb.size (f1.on (alloc_below w _))
  · refine stpO17 ?_
    refine hK.out _ _ (hS.on (alloc_below w _)) (fun _ => ?_)
    change wpAnyH _ _ _ _ _ _ _ (wpO17 w.heap.size (wpO4 v1 (sqO g z0 z1 z2 z3 z4 z5 a))) _
    rw [wsO17_4]
    exact stO1001 Q w0 a g z0 z1 z2 z3 z4 z5 q1 q2 q3 ha hg hgl hp h1 h2 h3 hQ (w.alloc (.cells #[.bool false, .slice none 0 0, .slice none 0 0] 25)) w.heap.size v1 (hS.on (alloc_below w _)) (below_join hb (alloc_below w _) hb.size) (resz_mk w) hb.size (f1.on (alloc_below w _))
theorem stO0000 (w : World) (hS : SixC g z0 z1 z2 z3 z4 z5 w) (hb : Below w0.heap.size w0 w) :
    wpAnyH Tryz.prog .any opsO Q (SixC g z0 z1 z2 z3 z4 z5) 9 #[true, true, true, true, false, true, true, true, true, false, true, true, true, true, false, false, false, false, false, false, false] (sqO g z0 z1 z2 z3 z4 z5 a) w := by
  have _hp := hp
  have _u1 := hg
  have _u2 := h1
  have _u3 := h2
  have _u4 := h3
  have _u5 := hgl
  refine wpAnyH_ready (rs := [4, 15, 16, 17]) (by kernel_rfl) (by simp) (AllReadyH.cons rfl (fun K hK => ?_) (AllReadyH.cons rfl (fun K hK => ?_) (AllReadyH.cons rfl (fun K hK => ?_) (AllReadyH.cons rfl (fun K hK => ?_) AllReadyH.nil))))
  · refine stpO4 (by simp [wpO15, wpO16, wpO17, wpO4, wpO9, wpO14, sqO, eval_put, put_size, ha, hg]) (by simp [wpO15, wpO16, wpO17, wpO4, wpO9, wpO14, sqO, eval_put, put_size, ha, hg]) (h1 w) (fun v1 w' hv hb' => ?_)
    refine hK.out _ _ (hS.on hb') (fun _ => ?_)
    change wpAnyH _ _ _ _ _ _ _ (wpO4 v1 (sqO g z0 z1 z2 z3 z4 z5 a)) _
    exact stO1000 Q w0 a g z0 z1 z2 z3 z4 z5 q1 q2 q3 ha hg hgl hp h1 h2 h3 hQ w'  v1 (hS.on hb') (below_join hb hb' hb.size) hv
  · refine stpO15 ?_
    refine hK.out _ _ (hS.on (alloc_below w _)) (fun _ => ?_)
    change wpAnyH _ _ _ _ _ _ _ (wpO15 w.heap.size (sqO g z0 z1 z2 z3 z4 z5 a)) _
    exact stO0100 Q w0 a g z0 z1 z2 z3 z4 z5 q1 q2 q3 ha hg hgl hp h1 h2 h3 hQ (w.alloc (.cells #[.bool false, .slice none 0 0, .slice none 0 0] 25)) w.heap.size  (hS.on (alloc_below w _)) (below_join hb (alloc_below w _) hb.size) (resz_mk w) hb.size
  · refine stpO16 ?_
    refine hK.out _ _ (hS.on (alloc_below w _)) (fun _ => ?_)
    change wpAnyH _ _ _ _ _ _ _ (wpO16 w.heap.size (sqO g z0 z1 z2 z3 z4 z5 a)) _
    exact stO0010 Q w0 a g z0 z1 z2 z3 z4 z5 q1 q2 q3 ha hg hgl hp h1 h2 h3 hQ (w.alloc (.cells #[.bool false, .slice none 0 0, .slice none 0 0] 25)) w.heap.size  (hS.on (alloc_below w _)) (below_join hb (alloc_below w _) hb.size) (resz_mk w) hb.size
  · refine stpO17 ?_
    refine hK.out _ _ (hS.on (alloc_below w _)) (fun _ => ?_)
    change wpAnyH _ _ _ _ _ _ _ (wpO17 w.heap.size (sqO g z0 z1 z2 z3 z4 z5 a)) _
    exact stO0001 Q w0 a g z0 z1 z2 z3 z4 z5 q1 q2 q3 ha hg hgl hp h1 h2 h3 hQ (w.alloc (.cells #[.bool false, .slice none 0 0, .slice none 0 0] 25)) w.heap.size  (hS.on (alloc_below w _)) (below_join hb (alloc_below w _) hb.size) (resz_mk w) hb.size
end
theorem rgO (Q : Exit → Act → World → Prop) (w0 : World) (a : Act) (g : Nat) (z0 z1 z2 z3 z4 z5 : Int) (q1 q2 q3 : Rat) (ha : a.tmps.size = 155) (hg : a.eval (.tmp 1) = .pointer (some ⟨g, 0, none⟩)) (hS : SixC g z0 z1 z2 z3 z4 z5 w0) (hp : ∀ (d : Nat) v c b w, Q (.panic c) (Act.put b (some d) v) w → Q (.panic c) b w)
  (h1 : ∀ X, Calls Tryz.prog 42 #[.int .i16 z0, .int .i16 z1] X (SmallPost q1 X)) (h2 : ∀ X, Calls Tryz.prog 42 #[.int .i16 z2, .int .i16 z3] X (SmallPost q2 X)) (h3 : ∀ X, Calls Tryz.prog 42 #[.int .i16 z4, .int .i16 z5] X (SmallPost q3 X))
  (hQ : ∀ (w : World) (x1 x2 x3 : Nat) (v1 v2 v3 : Value), Below w0.heap.size w0 w → FB w x1 v1 q1 → FB w x2 v2 q2 → FB w x3 v3 q3 → (w0.heap.size ≤ x1 ∧ w0.heap.size ≤ x2 ∧ w0.heap.size ≤ x3 ∧ x1 ≠ x2 ∧ x1 ≠ x3 ∧ x2 ≠ x3) → Q .normal (wpO14 v3 (wpO9 v2 (wpO4 v1 (wpO17 x3 (wpO16 x2 (wpO15 x1 (sqO g z0 z1 z2 z3 z4 z5 a))))))) w) :
    (Code.region 1 opsO true).wp Tryz.prog Q a w0 := by
  have hgl := hS.1
  have hS' : SixC g z0 z1 z2 z3 z4 z5 w0.drew := hS.on (Below.refl _ _).drew
  refine wp_region_held (S := SixC g z0 z1 z2 z3 z4 z5) (by kernel_rfl) ?_
  refine wpAnyH_take (i := 0) rfl (by kernel_rfl) (by kernel_rfl) (by kernel_rfl) (fun c b w h => hp _ _ c b w h) (ylO0 (g := g) (by simp [eval_put, put_size, ha, hg])) hS' ?_
  change wpAnyH _ _ _ _ _ _ _ (a.put (some 21) (.pointer (some ⟨g, 0, none⟩))) _
  refine wpAnyH_take (i := 1) rfl (by kernel_rfl) (by kernel_rfl) (by kernel_rfl) (fun c b w h => hp _ _ c b w h) (ylO1 (g := g) (by simp [eval_put, put_size, ha, hg])) hS' ?_
  change wpAnyH _ _ _ _ _ _ _ ((a.put (some 21) (.pointer (some ⟨g, 0, none⟩))).put (some 22) (.int .i16 z0)) _
  refine wpAnyH_take (i := 2) rfl (by kernel_rfl) (by kernel_rfl) (by kernel_rfl) (fun c b w h => hp _ _ c b w h) (ylO2 (g := g) (by simp [eval_put, put_size, ha, hg])) hS' ?_
  change wpAnyH _ _ _ _ _ _ _ (((a.put (some 21) (.pointer (some ⟨g, 0, none⟩))).put (some 22) (.int .i16 z0)).put (some 23) (.pointer (some ⟨g, 1, none⟩))) _
  refine wpAnyH_take (i := 3) rfl (by kernel_rfl) (by kernel_rfl) (by kernel_rfl) (fun c b w h => hp _ _ c b w h) (ylO3 (g := g) (by simp [eval_put, put_size, ha, hg])) hS' ?_
  change wpAnyH _ _ _ _ _ _ _ ((((a.put (some 21) (.pointer (some ⟨g, 0, none⟩))).put (some 22) (.int .i16 z0)).put (some 23) (.pointer (some ⟨g, 1, none⟩))).put (some 24) (.int .i16 z1)) _
  refine wpAnyH_take (i := 5) rfl (by kernel_rfl) (by kernel_rfl) (by kernel_rfl) (fun c b w h => hp _ _ c b w h) (ylO5 (g := g) (by simp [eval_put, put_size, ha, hg])) hS' ?_
  change wpAnyH _ _ _ _ _ _ _ (((((a.put (some 21) (.pointer (some ⟨g, 0, none⟩))).put (some 22) (.int .i16 z0)).put (some 23) (.pointer (some ⟨g, 1, none⟩))).put (some 24) (.int .i16 z1)).put (some 26) (.pointer (some ⟨g, 2, none⟩))) _
  refine wpAnyH_take (i := 6) rfl (by kernel_rfl) (by kernel_rfl) (by kernel_rfl) (fun c b w h => hp _ _ c b w h) (ylO6 (g := g) (by simp [eval_put, put_size, ha, hg])) hS' ?_
  change wpAnyH _ _ _ _ _ _ _ ((((((a.put (some 21) (.pointer (some ⟨g, 0, none⟩))).put (some 22) (.int .i16 z0)).put (some 23) (.pointer (some ⟨g, 1, none⟩))).put (some 24) (.int .i16 z1)).put (some 26) (.pointer (some ⟨g, 2, none⟩))).put (some 27) (.int .i16 z2)) _
  refine wpAnyH_take (i := 7) rfl (by kernel_rfl) (by kernel_rfl) (by kernel_rfl) (fun c b w h => hp _ _ c b w h) (ylO7 (g := g) (by simp [eval_put, put_size, ha, hg])) hS' ?_
  change wpAnyH _ _ _ _ _ _ _ (((((((a.put (some 21) (.pointer (some ⟨g, 0, none⟩))).put (some 22) (.int .i16 z0)).put (some 23) (.pointer (some ⟨g, 1, none⟩))).put (some 24) (.int .i16 z1)).put (some 26) (.pointer (some ⟨g, 2, none⟩))).put (some 27) (.int .i16 z2)).put (some 28) (.pointer (some ⟨g, 3, none⟩))) _
  refine wpAnyH_take (i := 8) rfl (by kernel_rfl) (by kernel_rfl) (by kernel_rfl) (fun c b w h => hp _ _ c b w h) (ylO8 (g := g) (by simp [eval_put, put_size, ha, hg])) hS' ?_
  change wpAnyH _ _ _ _ _ _ _ ((((((((a.put (some 21) (.pointer (some ⟨g, 0, none⟩))).put (some 22) (.int .i16 z0)).put (some 23) (.pointer (some ⟨g, 1, none⟩))).put (some 24) (.int .i16 z1)).put (some 26) (.pointer (some ⟨g, 2, none⟩))).put (some 27) (.int .i16 z2)).put (some 28) (.pointer (some ⟨g, 3, none⟩))).put (some 29) (.int .i16 z3)) _
  refine wpAnyH_take (i := 10) rfl (by kernel_rfl) (by kernel_rfl) (by kernel_rfl) (fun c b w h => hp _ _ c b w h) (ylO10 (g := g) (by simp [eval_put, put_size, ha, hg])) hS' ?_
  change wpAnyH _ _ _ _ _ _ _ (((((((((a.put (some 21) (.pointer (some ⟨g, 0, none⟩))).put (some 22) (.int .i16 z0)).put (some 23) (.pointer (some ⟨g, 1, none⟩))).put (some 24) (.int .i16 z1)).put (some 26) (.pointer (some ⟨g, 2, none⟩))).put (some 27) (.int .i16 z2)).put (some 28) (.pointer (some ⟨g, 3, none⟩))).put (some 29) (.int .i16 z3)).put (some 31) (.pointer (some ⟨g, 4, none⟩))) _
  refine wpAnyH_take (i := 11) rfl (by kernel_rfl) (by kernel_rfl) (by kernel_rfl) (fun c b w h => hp _ _ c b w h) (ylO11 (g := g) (by simp [eval_put, put_size, ha, hg])) hS' ?_
  change wpAnyH _ _ _ _ _ _ _ ((((((((((a.put (some 21) (.pointer (some ⟨g, 0, none⟩))).put (some 22) (.int .i16 z0)).put (some 23) (.pointer (some ⟨g, 1, none⟩))).put (some 24) (.int .i16 z1)).put (some 26) (.pointer (some ⟨g, 2, none⟩))).put (some 27) (.int .i16 z2)).put (some 28) (.pointer (some ⟨g, 3, none⟩))).put (some 29) (.int .i16 z3)).put (some 31) (.pointer (some ⟨g, 4, none⟩))).put (some 32) (.int .i16 z4)) _
  refine wpAnyH_take (i := 12) rfl (by kernel_rfl) (by kernel_rfl) (by kernel_rfl) (fun c b w h => hp _ _ c b w h) (ylO12 (g := g) (by simp [eval_put, put_size, ha, hg])) hS' ?_
  change wpAnyH _ _ _ _ _ _ _ (((((((((((a.put (some 21) (.pointer (some ⟨g, 0, none⟩))).put (some 22) (.int .i16 z0)).put (some 23) (.pointer (some ⟨g, 1, none⟩))).put (some 24) (.int .i16 z1)).put (some 26) (.pointer (some ⟨g, 2, none⟩))).put (some 27) (.int .i16 z2)).put (some 28) (.pointer (some ⟨g, 3, none⟩))).put (some 29) (.int .i16 z3)).put (some 31) (.pointer (some ⟨g, 4, none⟩))).put (some 32) (.int .i16 z4)).put (some 33) (.pointer (some ⟨g, 5, none⟩))) _
  refine wpAnyH_take (i := 13) rfl (by kernel_rfl) (by kernel_rfl) (by kernel_rfl) (fun c b w h => hp _ _ c b w h) (ylO13 (g := g) (by simp [eval_put, put_size, ha, hg])) hS' ?_
  change wpAnyH _ _ _ _ _ _ _ ((((((((((((a.put (some 21) (.pointer (some ⟨g, 0, none⟩))).put (some 22) (.int .i16 z0)).put (some 23) (.pointer (some ⟨g, 1, none⟩))).put (some 24) (.int .i16 z1)).put (some 26) (.pointer (some ⟨g, 2, none⟩))).put (some 27) (.int .i16 z2)).put (some 28) (.pointer (some ⟨g, 3, none⟩))).put (some 29) (.int .i16 z3)).put (some 31) (.pointer (some ⟨g, 4, none⟩))).put (some 32) (.int .i16 z4)).put (some 33) (.pointer (some ⟨g, 5, none⟩))).put (some 34) (.int .i16 z5)) _
  exact stO0000 Q w0 a g z0 z1 z2 z3 z4 z5 q1 q2 q3 ha hg hgl hp h1 h2 h3 hQ w0.drew hS' (Below.refl _ _).drew
end Go.Proofs.YtfdkdloldjfnjaaGreatDoor
