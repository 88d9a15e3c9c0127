/-
  DERIVED. Three small fractions made in one statement, in whatever order. (Written by gen/genWF.py.)
-/
import Derived.Test.YtfdkdloldjfnjaaGreatDoorYWBm
import Derived.Deep.RegionHeld3
import Derived.BigRegion
set_option linter.unusedVariables false
set_option linter.unusedSimpArgs false
namespace Go.Proofs.YtfdkdloldjfnjaaGreatDoor
open Go.RowKit
set_option maxRecDepth 100000

theorem put_lt {d e : Nat} (h : e < d) (a : Act) (v u : Value) : (a.put (some d) v).put (some e) u = (a.put (some e) u).put (some d) v := by
  show ({ a with tmps := (a.tmps.setIfInBounds d v).setIfInBounds e u } : Act) = { a with tmps := (a.tmps.setIfInBounds e u).setIfInBounds d v }
  rw [Array.setIfInBounds_comm _ _ (by omega)]
theorem put_size (a : Act) (d : Nat) (v : Value) : (a.put (some d) v).tmps.size = a.tmps.size := by simp [Act.put]
theorem eval_put (a : Act) (d : Nat) (v : Value) (k : Nat) (h : d < a.tmps.size) : (a.put (some d) v).eval (.tmp k) = if k = d then v else a.eval (.tmp k) := by
  simp only [Act.put, Act.eval, Array.getD_eq_getD_getElem?]
  rw [Array.getElem?_setIfInBounds]
  by_cases e : k = d
  · subst e; rw [if_pos rfl, if_pos rfl, if_pos h]; rfl
  · rw [if_neg (fun h => e h.symm), if_neg e]
theorem ev_get {a : Act} {k : Nat} {v : Value} (h : a.eval (.tmp k) = v) : a.tmps[k]?.getD undef = v := by rw [← h]; simp [Act.eval]
theorem Rv.storeR {X : World} {b : Nat} {v : Value} {t : Bool} {q : Rat} {p p' : Option Addr} {i j i' j' : Nat} (h : Rv X v q) (hr : Rt X b t (.slice p i j) (.slice p' i' j')) (x0 x1 x2 : Value) : Rv (((X.setCell ⟨b, 0, none⟩ x0).setCell ⟨b, 1, none⟩ x1).setCell ⟨b, 2, none⟩ x2) v q := by
  obtain ⟨a, b', h1, h2, h3⟩ := h.1
  exact ⟨⟨a, b', h1, natSl_storeZ h2 hr _ _ _, natSl_storeZ h3 hr _ _ _⟩, h.2⟩
theorem Bq.storeO {W : World} {b b' : Nat} {q : Rat} {va vb : Value} {t : Bool} {p p' : Option Addr} {i j i' j' : Nat} (h : Bq W b q va vb) (hr : Rt W b' t (.slice p i j) (.slice p' i' j')) (hne : b ≠ b') (x y z : Value) : Bq (((W.setCell ⟨b', 0, none⟩ x).setCell ⟨b', 1, none⟩ y).setCell ⟨b', 2, none⟩ z) b q va vb :=
  ⟨row_keep3 h.1 hne x y z, h.2.storeR hr x y z⟩
theorem Bq.storeS {W : World} {b : Nat} {q : Rat} {va vb : Value} {t : Bool} {p p' : Option Addr} {i j i' j' : Nat} (hv : Rv W (.agg #[.bool (qneg q), va, vb]) q) (hr : Rt W b t (.slice p i j) (.slice p' i' j')) : Bq (((W.setCell ⟨b, 0, none⟩ (.bool (qneg q))).setCell ⟨b, 1, none⟩ va).setCell ⟨b, 2, none⟩ vb) b q va vb :=
  ⟨row_store3 hr _ _ _, hv.storeR hr _ _ _⟩
theorem cells_store3 {X : World} {k b : Nat} {u0 u1 u2 : Value} (h : X.cell? ⟨k, 0, none⟩ = some u0 ∧ X.cell? ⟨k, 1, none⟩ = some u1 ∧ X.cell? ⟨k, 2, none⟩ = some u2) (hb : k ≠ b) (x y z : Value) :
    (((X.setCell ⟨b, 0, none⟩ x).setCell ⟨b, 1, none⟩ y).setCell ⟨b, 2, none⟩ z).cell? ⟨k, 0, none⟩ = some u0 ∧ (((X.setCell ⟨b, 0, none⟩ x).setCell ⟨b, 1, none⟩ y).setCell ⟨b, 2, none⟩ z).cell? ⟨k, 1, none⟩ = some u1 ∧ (((X.setCell ⟨b, 0, none⟩ x).setCell ⟨b, 1, none⟩ y).setCell ⟨b, 2, none⟩ z).cell? ⟨k, 2, none⟩ = some u2 :=
  ⟨cell_store3 h.1 hb x y z, cell_store3 h.2.1 hb x y z, cell_store3 h.2.2 hb x y z⟩
/-- Six small numbers in a box. -/
def SixC (b : Nat) (z0 z1 z2 z3 z4 z5 : Int) (X : World) : Prop :=
  b < X.heap.size ∧ X.cell? ⟨b, 0, none⟩ = some (.int .i16 z0) ∧ X.cell? ⟨b, 1, none⟩ = some (.int .i16 z1) ∧ X.cell? ⟨b, 2, none⟩ = some (.int .i16 z2) ∧ X.cell? ⟨b, 3, none⟩ = some (.int .i16 z3) ∧ X.cell? ⟨b, 4, none⟩ = some (.int .i16 z4) ∧ X.cell? ⟨b, 5, none⟩ = some (.int .i16 z5)
theorem SixC.on {b : Nat} {z0 z1 z2 z3 z4 z5 : Int} {X Y : World} (h : SixC b z0 z1 z2 z3 z4 z5 X) (hb : Below X.heap.size X Y) : SixC b z0 z1 z2 z3 z4 z5 Y := by
  obtain ⟨hl, h0, h1, h2, h3, h4, h5⟩ := h
  have e : ∀ o, Y.cell? ⟨b, o, none⟩ = X.cell? ⟨b, o, none⟩ := fun o => hb.cell (p := ⟨b, o, none⟩) hl
  exact ⟨Nat.lt_of_lt_of_le hl hb.size, (e _).trans h0, (e _).trans h1, (e _).trans h2, (e _).trans h3, (e _).trans h4, (e _).trans h5⟩
theorem SixC.store3 {b : Nat} {z0 z1 z2 z3 z4 z5 : Int} {X : World} (h : SixC b z0 z1 z2 z3 z4 z5 X) {g : Nat} (hg : b ≠ g) (x y z : Value) : SixC b z0 z1 z2 z3 z4 z5 (((X.setCell ⟨g, 0, none⟩ x).setCell ⟨g, 1, none⟩ y).setCell ⟨g, 2, none⟩ z) := by
  obtain ⟨hl, h0, h1, h2, h3, h4, h5⟩ := h
  exact ⟨by simpa [World.setCell] using hl, cell_store3 h0 hg _ _ _, cell_store3 h1 hg _ _ _, cell_store3 h2 hg _ _ _, cell_store3 h3 hg _ _ _, cell_store3 h4 hg _ _ _, cell_store3 h5 hg _ _ _⟩
theorem six_row (w : World) (z0 z1 z2 z3 z4 z5 : Int) : SixC w.heap.size z0 z1 z2 z3 z4 z5 (w.alloc (.cells #[.int .i16 z0, .int .i16 z1, .int .i16 z2, .int .i16 z3, .int .i16 z4, .int .i16 z5] 47)) := by
  unfold SixC
  refine ⟨by simp, ?_, ?_, ?_, ?_, ?_, ?_⟩ <;> go_simp
/-- A box that holds a number's fraction, given as one value. -/
def FB (W : World) (b : Nat) (v : Value) (q : Rat) : Prop := ∃ va vb, v = .agg #[.bool (qneg q), va, vb] ∧ Bq W b q va vb
theorem FB.storeO {W : World} {b b' : Nat} {v : Value} {q : Rat} {t : Bool} {p p' : Option Addr} {i j i' j' : Nat} (h : FB W b v q) (hr : Rt W b' t (.slice p i j) (.slice p' i' j')) (hne : b ≠ b') (x y z : Value) : FB (((W.setCell ⟨b', 0, none⟩ x).setCell ⟨b', 1, none⟩ y).setCell ⟨b', 2, none⟩ z) b v q := by
  obtain ⟨va, vb, e, h⟩ := h
  exact ⟨va, vb, e, h.storeO hr hne _ _ _⟩
theorem FB.open {W : World} {b : Nat} {v : Value} {q : Rat} (h : FB W b v q) : ∃ A c B d, v = .agg #[.bool (qneg q), .slice A (nat q.num.natAbs).length c, .slice B (nat q.den).length d] ∧ Bq W b q (.slice A (nat q.num.natAbs).length c) (.slice B (nat q.den).length d) := by
  obtain ⟨va, vb, rfl, h⟩ := h
  obtain ⟨A, c, B, d, e⟩ := h.rv.open
  injection e with e
  injection e with e
  simp only [List.cons.injEq, and_true, true_and] at e
  obtain ⟨rfl, rfl⟩ := e
  exact ⟨A, c, B, d, rfl, h⟩
theorem alloc_below (w : World) (o : Obj) : Below w.heap.size w (w.alloc o) := (Below.refl _ _).alloc (Nat.le_refl _) _
theorem resz_mk (w : World) : ResZ w.heap.size (w.alloc (.cells #[.bool false, .slice none 0 0, .slice none 0 0] 25)) := row_new4 _ _ _ rfl
theorem ResZ.lt {g : Nat} {X : World} (h : ResZ g X) : g < X.heap.size := (Array.getElem?_eq_some_iff.1 h).1
theorem ResZ.rt {g : Nat} {X : World} (h : ResZ g X) : Rt X g false (.slice none 0 0) (.slice none 0 0) := h
theorem resz_keep {g b : Nat} {X : World} (h : ResZ g X) (hne : g ≠ b) (x y z : Value) : ResZ g (((X.setCell ⟨b, 0, none⟩ x).setCell ⟨b, 1, none⟩ y).setCell ⟨b, 2, none⟩ z) := row_keep3 h hne x y z
def opsF : Array Oper := #[{ dst := some 19, op := Go.Op.fieldAddr 47 (Go.Operand.tmp 1) 0, type := 0, pos := "outright.go:29", after := #[], guard := none }, { dst := some 20, op := Go.Op.load 45 (Go.Operand.tmp 19), type := 45, pos := "outright.go:29", after := #[{ on := 0, ground := Go.Ground.data }], guard := none }, { dst := some 21, op := Go.Op.fieldAddr 47 (Go.Operand.tmp 1) 1, type := 0, pos := "outright.go:29", after := #[], guard := none }, { dst := some 22, op := Go.Op.load 45 (Go.Operand.tmp 21), type := 45, pos := "outright.go:29", after := #[{ on := 2, ground := Go.Ground.data }], guard := none }, { dst := some 23, op := Go.Op.call { callee := Go.Callee.value (Go.Operand.func 42), args := #[Go.Operand.tmp 20, Go.Operand.tmp 22], argTypes := #[45, 45] }, type := 25, pos := "outright.go:29", after := #[{ on := 1, ground := Go.Ground.data }, { on := 3, ground := Go.Ground.data }], guard := none }, { dst := some 24, op := Go.Op.fieldAddr 47 (Go.Operand.tmp 1) 2, type := 0, pos := "outright.go:29", after := #[], guard := none }, { dst := some 25, op := Go.Op.load 45 (Go.Operand.tmp 24), type := 45, pos := "outright.go:29", after := #[{ on := 5, ground := Go.Ground.data }], guard := none }, { dst := some 26, op := Go.Op.fieldAddr 47 (Go.Operand.tmp 1) 3, type := 0, pos := "outright.go:29", after := #[], guard := none }, { dst := some 27, op := Go.Op.load 45 (Go.Operand.tmp 26), type := 45, pos := "outright.go:29", after := #[{ on := 7, ground := Go.Ground.data }], guard := none }, { dst := some 28, op := Go.Op.call { callee := Go.Callee.value (Go.Operand.func 42), args := #[Go.Operand.tmp 25, Go.Operand.tmp 27], argTypes := #[45, 45] }, type := 25, pos := "outright.go:29", after := #[{ on := 6, ground := Go.Ground.data }, { on := 8, ground := Go.Ground.data }, { on := 4, ground := Go.Ground.chain }], guard := none }, { dst := some 29, op := Go.Op.fieldAddr 47 (Go.Operand.tmp 1) 4, type := 0, pos := "outright.go:29", after := #[], guard := none }, { dst := some 30, op := Go.Op.load 45 (Go.Operand.tmp 29), type := 45, pos := "outright.go:29", after := #[{ on := 10, ground := Go.Ground.data }], guard := none }, { dst := some 31, op := Go.Op.fieldAddr 47 (Go.Operand.tmp 1) 5, type := 0, pos := "outright.go:29", after := #[], guard := none }, { dst := some 32, op := Go.Op.load 45 (Go.Operand.tmp 31), type := 45, pos := "outright.go:29", after := #[{ on := 12, ground := Go.Ground.data }], guard := none }, { dst := some 33, op := Go.Op.call { callee := Go.Callee.value (Go.Operand.func 42), args := #[Go.Operand.tmp 30, Go.Operand.tmp 32], argTypes := #[45, 45] }, type := 25, pos := "outright.go:29", after := #[{ on := 11, ground := Go.Ground.data }, { on := 13, ground := Go.Ground.data }, { on := 9, ground := Go.Ground.chain }], guard := none }, { dst := some 3, op := Go.Op.alloc 25, type := 0, pos := "outright.go:29", after := #[], guard := none }, { dst := some 4, op := Go.Op.alloc 25, type := 0, pos := "outright.go:29", after := #[], guard := none }, { dst := some 5, op := Go.Op.alloc 25, type := 0, pos := "outright.go:29", after := #[], guard := none }, { dst := none, op := Go.Op.store 25 (Go.Operand.tmp 3) (Go.Operand.tmp 23), type := 0, pos := "outright.go:29", after := #[{ on := 15, ground := Go.Ground.data }, { on := 4, ground := Go.Ground.data }, { on := 14, ground := Go.Ground.chain }, { on := 0, ground := Go.Ground.phase }, { on := 1, ground := Go.Ground.phase }, { on := 2, ground := Go.Ground.phase }, { on := 3, ground := Go.Ground.phase }, { on := 4, ground := Go.Ground.phase }, { on := 5, ground := Go.Ground.textOnly Go.Departure.lateStores }, { on := 6, ground := Go.Ground.textOnly Go.Departure.lateStores }, { on := 7, ground := Go.Ground.textOnly Go.Departure.lateStores }, { on := 8, ground := Go.Ground.textOnly Go.Departure.lateStores }, { on := 9, ground := Go.Ground.textOnly Go.Departure.lateStoresUnsure }, { on := 10, ground := Go.Ground.textOnly Go.Departure.lateStores }, { on := 11, ground := Go.Ground.textOnly Go.Departure.lateStores }, { on := 12, ground := Go.Ground.textOnly Go.Departure.lateStores }, { on := 13, ground := Go.Ground.textOnly Go.Departure.lateStores }, { on := 14, ground := Go.Ground.textOnly Go.Departure.lateStoresUnsure }, { on := 15, ground := Go.Ground.phase }, { on := 16, ground := Go.Ground.phase }, { on := 17, ground := Go.Ground.phase }], guard := none }, { dst := none, op := Go.Op.store 25 (Go.Operand.tmp 4) (Go.Operand.tmp 28), type := 0, pos := "outright.go:29", after := #[{ on := 16, ground := Go.Ground.data }, { on := 9, ground := Go.Ground.data }, { on := 18, ground := Go.Ground.chain }, { on := 0, ground := Go.Ground.phase }, { on := 1, ground := Go.Ground.phase }, { on := 2, ground := Go.Ground.phase }, { on := 3, ground := Go.Ground.phase }, { on := 4, ground := Go.Ground.phase }, { on := 5, ground := Go.Ground.phase }, { on := 6, ground := Go.Ground.phase }, { on := 7, ground := Go.Ground.phase }, { on := 8, ground := Go.Ground.phase }, { on := 9, ground := Go.Ground.phase }, { on := 10, ground := Go.Ground.textOnly Go.Departure.lateStores }, { on := 11, ground := Go.Ground.textOnly Go.Departure.lateStores }, { on := 12, ground := Go.Ground.textOnly Go.Departure.lateStores }, { on := 13, ground := Go.Ground.textOnly Go.Departure.lateStores }, { on := 14, ground := Go.Ground.textOnly Go.Departure.lateStoresUnsure }, { on := 15, ground := Go.Ground.phase }, { on := 16, ground := Go.Ground.phase }, { on := 17, ground := Go.Ground.phase }, { on := 18, ground := Go.Ground.phase }], guard := none }, { dst := none, op := Go.Op.store 25 (Go.Operand.tmp 5) (Go.Operand.tmp 33), type := 0, pos := "outright.go:29", after := #[{ on := 17, ground := Go.Ground.data }, { on := 14, ground := Go.Ground.data }, { on := 19, ground := Go.Ground.chain }, { on := 0, ground := Go.Ground.phase }, { on := 1, ground := Go.Ground.phase }, { on := 2, ground := Go.Ground.phase }, { on := 3, ground := Go.Ground.phase }, { on := 4, ground := Go.Ground.phase }, { on := 5, ground := Go.Ground.phase }, { on := 6, ground := Go.Ground.phase }, { on := 7, ground := Go.Ground.phase }, { on := 8, ground := Go.Ground.phase }, { on := 9, ground := Go.Ground.phase }, { on := 10, ground := Go.Ground.phase }, { on := 11, ground := Go.Ground.phase }, { on := 12, ground := Go.Ground.phase }, { on := 13, ground := Go.Ground.phase }, { on := 14, ground := Go.Ground.phase }, { on := 15, ground := Go.Ground.phase }, { on := 16, ground := Go.Ground.phase }, { on := 17, ground := Go.Ground.phase }, { on := 18, ground := Go.Ground.phase }, { on := 19, ground := Go.Ground.phase }], guard := none }]
theorem stpF4 {Q : Exit → Act → World → Prop} {K : Act → World → Prop} {a : Act} {w : World} {y1 y2 : Int} {q : Rat} (e1 : a.eval (.tmp 20) = .int .i16 y1) (e2 : a.eval (.tmp 22) = .int .i16 y2) (h : Calls Tryz.prog 42 #[.int .i16 y1, .int .i16 y2] w (SmallPost q w)) (hK : ∀ v w', Rv w' v q → Below w.heap.size w w' → K (a.put (some 23) v) w') :
    if Region.wanted ({ dst := some 23, op := Go.Op.call { callee := Go.Callee.value (Go.Operand.func 42), args := #[Go.Operand.tmp 20, Go.Operand.tmp 22], argTypes := #[45, 45] }, type := 25, pos := "outright.go:29", after := #[{ on := 1, ground := Go.Ground.data }, { on := 3, ground := Go.Ground.data }], guard := none } : Oper) (yielded opsF a.tmps) = true then Oper.wp Tryz.prog ({ dst := some 23, op := Go.Op.call { callee := Go.Callee.value (Go.Operand.func 42), args := #[Go.Operand.tmp 20, Go.Operand.tmp 22], argTypes := #[45, 45] }, type := 25, pos := "outright.go:29", after := #[{ on := 1, ground := Go.Ground.data }, { on := 3, ground := Go.Ground.data }], guard := none } : Oper) a w K Q else K (a.put (some 23) undef) w := by
  have g1 := ev_get e1
  have g2 := ev_get e2
  go_simp
  go_at_call 42
  refine h.mono ?_
  rintro e w' ⟨v, rfl, hv, hb⟩
  exact hK v w' hv hb
theorem stpF9 {Q : Exit → Act → World → Prop} {K : Act → World → Prop} {a : Act} {w : World} {y1 y2 : Int} {q : Rat} (e1 : a.eval (.tmp 25) = .int .i16 y1) (e2 : a.eval (.tmp 27) = .int .i16 y2) (h : Calls Tryz.prog 42 #[.int .i16 y1, .int .i16 y2] w (SmallPost q w)) (hK : ∀ v w', Rv w' v q → Below w.heap.size w w' → K (a.put (some 28) v) w') :
    if Region.wanted ({ dst := some 28, op := Go.Op.call { callee := Go.Callee.value (Go.Operand.func 42), args := #[Go.Operand.tmp 25, Go.Operand.tmp 27], argTypes := #[45, 45] }, type := 25, pos := "outright.go:29", after := #[{ on := 6, ground := Go.Ground.data }, { on := 8, ground := Go.Ground.data }, { on := 4, ground := Go.Ground.chain }], guard := none } : Oper) (yielded opsF a.tmps) = true then Oper.wp Tryz.prog ({ dst := some 28, op := Go.Op.call { callee := Go.Callee.value (Go.Operand.func 42), args := #[Go.Operand.tmp 25, Go.Operand.tmp 27], argTypes := #[45, 45] }, type := 25, pos := "outright.go:29", after := #[{ on := 6, ground := Go.Ground.data }, { on := 8, ground := Go.Ground.data }, { on := 4, ground := Go.Ground.chain }], guard := none } : Oper) a w K Q else K (a.put (some 28) undef) w := by
  have g1 := ev_get e1
  have g2 := ev_get e2
  go_simp
  go_at_call 42
  refine h.mono ?_
  rintro e w' ⟨v, rfl, hv, hb⟩
  exact hK v w' hv hb
theorem stpF14 {Q : Exit → Act → World → Prop} {K : Act → World → Prop} {a : Act} {w : World} {y1 y2 : Int} {q : Rat} (e1 : a.eval (.tmp 30) = .int .i16 y1) (e2 : a.eval (.tmp 32) = .int .i16 y2) (h : Calls Tryz.prog 42 #[.int .i16 y1, .int .i16 y2] w (SmallPost q w)) (hK : ∀ v w', Rv w' v q → Below w.heap.size w w' → K (a.put (some 33) v) w') :
    if Region.wanted ({ dst := some 33, op := Go.Op.call { callee := Go.Callee.value (Go.Operand.func 42), args := #[Go.Operand.tmp 30, Go.Operand.tmp 32], argTypes := #[45, 45] }, type := 25, pos := "outright.go:29", after := #[{ on := 11, ground := Go.Ground.data }, { on := 13, ground := Go.Ground.data }, { on := 9, ground := Go.Ground.chain }], guard := none } : Oper) (yielded opsF a.tmps) = true then Oper.wp Tryz.prog ({ dst := some 33, op := Go.Op.call { callee := Go.Callee.value (Go.Operand.func 42), args := #[Go.Operand.tmp 30, Go.Operand.tmp 32], argTypes := #[45, 45] }, type := 25, pos := "outright.go:29", after := #[{ on := 11, ground := Go.Ground.data }, { on := 13, ground := Go.Ground.data }, { on := 9, ground := Go.Ground.chain }], guard := none } : Oper) a w K Q else K (a.put (some 33) undef) w := by
  have g1 := ev_get e1
  have g2 := ev_get e2
  go_simp
  go_at_call 42
  refine h.mono ?_
  rintro e w' ⟨v, rfl, hv, hb⟩
  exact hK v w' hv hb
theorem stpF15 {Q : Exit → Act → World → Prop} {K : Act → World → Prop} {a : Act} {w : World} (hK : K (a.put (some 3) (.pointer (some ⟨w.heap.size, 0, none⟩))) (w.alloc (.cells #[.bool false, .slice none 0 0, .slice none 0 0] 25))) :
    if Region.wanted ({ dst := some 3, op := Go.Op.alloc 25, type := 0, pos := "outright.go:29", after := #[], guard := none } : Oper) (yielded opsF a.tmps) = true then Oper.wp Tryz.prog ({ dst := some 3, op := Go.Op.alloc 25, type := 0, pos := "outright.go:29", after := #[], guard := none } : Oper) a w K Q else K (a.put (some 3) undef) w := by
  go_simp
  exact hK
theorem stpF16 {Q : Exit → Act → World → Prop} {K : Act → World → Prop} {a : Act} {w : World} (hK : K (a.put (some 4) (.pointer (some ⟨w.heap.size, 0, none⟩))) (w.alloc (.cells #[.bool false, .slice none 0 0, .slice none 0 0] 25))) :
    if Region.wanted ({ dst := some 4, op := Go.Op.alloc 25, type := 0, pos := "outright.go:29", after := #[], guard := none } : Oper) (yielded opsF a.tmps) = true then Oper.wp Tryz.prog ({ dst := some 4, op := Go.Op.alloc 25, type := 0, pos := "outright.go:29", after := #[], guard := none } : Oper) a w K Q else K (a.put (some 4) undef) w := by
  go_simp
  exact hK
theorem stpF17 {Q : Exit → Act → World → Prop} {K : Act → World → Prop} {a : Act} {w : World} (hK : K (a.put (some 5) (.pointer (some ⟨w.heap.size, 0, none⟩))) (w.alloc (.cells #[.bool false, .slice none 0 0, .slice none 0 0] 25))) :
    if Region.wanted ({ dst := some 5, op := Go.Op.alloc 25, type := 0, pos := "outright.go:29", after := #[], guard := none } : Oper) (yielded opsF a.tmps) = true then Oper.wp Tryz.prog ({ dst := some 5, op := Go.Op.alloc 25, type := 0, pos := "outright.go:29", after := #[], guard := none } : Oper) a w K Q else K (a.put (some 5) undef) w := by
  go_simp
  exact hK
theorem stpF18 {Q : Exit → Act → World → Prop} {K : Act → World → Prop} {a : Act} {w : World} {x : Nat} {s : Bool} {A : Option Addr} {m c : Nat} {B : Option Addr} {k d : Nat} (e1 : a.eval (.tmp 3) = .pointer (some ⟨x, 0, none⟩)) (e2 : a.eval (.tmp 23) = .agg #[.bool s, .slice A m c, .slice B k d]) (h : ResZ x w)
    (hK : K a (((w.setCell ⟨x, 0, none⟩ (.bool s)).setCell ⟨x, 1, none⟩ (.slice A m c)).setCell ⟨x, 2, none⟩ (.slice B k d))) :
    if Region.wanted ({ dst := none, op := Go.Op.store 25 (Go.Operand.tmp 3) (Go.Operand.tmp 23), type := 0, pos := "outright.go:29", after := #[{ on := 15, ground := Go.Ground.data }, { on := 4, ground := Go.Ground.data }, { on := 14, ground := Go.Ground.chain }, { on := 0, ground := Go.Ground.phase }, { on := 1, ground := Go.Ground.phase }, { on := 2, ground := Go.Ground.phase }, { on := 3, ground := Go.Ground.phase }, { on := 4, ground := Go.Ground.phase }, { on := 5, ground := Go.Ground.textOnly Go.Departure.lateStores }, { on := 6, ground := Go.Ground.textOnly Go.Departure.lateStores }, { on := 7, ground := Go.Ground.textOnly Go.Departure.lateStores }, { on := 8, ground := Go.Ground.textOnly Go.Departure.lateStores }, { on := 9, ground := Go.Ground.textOnly Go.Departure.lateStoresUnsure }, { on := 10, ground := Go.Ground.textOnly Go.Departure.lateStores }, { on := 11, ground := Go.Ground.textOnly Go.Departure.lateStores }, { on := 12, ground := Go.Ground.textOnly Go.Departure.lateStores }, { on := 13, ground := Go.Ground.textOnly Go.Departure.lateStores }, { on := 14, ground := Go.Ground.textOnly Go.Departure.lateStoresUnsure }, { on := 15, ground := Go.Ground.phase }, { on := 16, ground := Go.Ground.phase }, { on := 17, ground := Go.Ground.phase }], guard := none } : Oper) (yielded opsF a.tmps) = true then Oper.wp Tryz.prog ({ dst := none, op := Go.Op.store 25 (Go.Operand.tmp 3) (Go.Operand.tmp 23), type := 0, pos := "outright.go:29", after := #[{ on := 15, ground := Go.Ground.data }, { on := 4, ground := Go.Ground.data }, { on := 14, ground := Go.Ground.chain }, { on := 0, ground := Go.Ground.phase }, { on := 1, ground := Go.Ground.phase }, { on := 2, ground := Go.Ground.phase }, { on := 3, ground := Go.Ground.phase }, { on := 4, ground := Go.Ground.phase }, { on := 5, ground := Go.Ground.textOnly Go.Departure.lateStores }, { on := 6, ground := Go.Ground.textOnly Go.Departure.lateStores }, { on := 7, ground := Go.Ground.textOnly Go.Departure.lateStores }, { on := 8, ground := Go.Ground.textOnly Go.Departure.lateStores }, { on := 9, ground := Go.Ground.textOnly Go.Departure.lateStoresUnsure }, { on := 10, ground := Go.Ground.textOnly Go.Departure.lateStores }, { on := 11, ground := Go.Ground.textOnly Go.Departure.lateStores }, { on := 12, ground := Go.Ground.textOnly Go.Departure.lateStores }, { on := 13, ground := Go.Ground.textOnly Go.Departure.lateStores }, { on := 14, ground := Go.Ground.textOnly Go.Departure.lateStoresUnsure }, { on := 15, ground := Go.Ground.phase }, { on := 16, ground := Go.Ground.phase }, { on := 17, ground := Go.Ground.phase }], guard := none } : Oper) a w K Q else K (a.put none undef) w := by
  have g1 := ev_get e1
  have g2 := ev_get e2
  obtain ⟨c0, c1, c2⟩ := Rt.cells h
  obtain ⟨f0, f1, f2⟩ := Rt.frozen h
  go_simp
  exact hK
theorem atF18 : opsF[18]? = some { dst := none, op := Go.Op.store 25 (Go.Operand.tmp 3) (Go.Operand.tmp 23), type := 0, pos := "outright.go:29", after := #[{ on := 15, ground := Go.Ground.data }, { on := 4, ground := Go.Ground.data }, { on := 14, ground := Go.Ground.chain }, { on := 0, ground := Go.Ground.phase }, { on := 1, ground := Go.Ground.phase }, { on := 2, ground := Go.Ground.phase }, { on := 3, ground := Go.Ground.phase }, { on := 4, ground := Go.Ground.phase }, { on := 5, ground := Go.Ground.textOnly Go.Departure.lateStores }, { on := 6, ground := Go.Ground.textOnly Go.Departure.lateStores }, { on := 7, ground := Go.Ground.textOnly Go.Departure.lateStores }, { on := 8, ground := Go.Ground.textOnly Go.Departure.lateStores }, { on := 9, ground := Go.Ground.textOnly Go.Departure.lateStoresUnsure }, { on := 10, ground := Go.Ground.textOnly Go.Departure.lateStores }, { on := 11, ground := Go.Ground.textOnly Go.Departure.lateStores }, { on := 12, ground := Go.Ground.textOnly Go.Departure.lateStores }, { on := 13, ground := Go.Ground.textOnly Go.Departure.lateStores }, { on := 14, ground := Go.Ground.textOnly Go.Departure.lateStoresUnsure }, { on := 15, ground := Go.Ground.phase }, { on := 16, ground := Go.Ground.phase }, { on := 17, ground := Go.Ground.phase }], guard := none } := rfl
theorem rdyF18 {Q : Exit → Act → World → Prop} {S : World → Prop} {fuel : Nat} {listed : Array Bool} {a : Act} {w W : World} {x : Nat} {s : Bool} {A : Option Addr} {m c : Nat} {B : Option Addr} {k d : Nat} (e1 : a.eval (.tmp 3) = .pointer (some ⟨x, 0, none⟩)) (e2 : a.eval (.tmp 23) = .agg #[.bool s, .slice A m c, .slice B k d]) (h : ResZ x w)
    (hW : W = ((w.setCell ⟨x, 0, none⟩ (.bool s)).setCell ⟨x, 1, none⟩ (.slice A m c)).setCell ⟨x, 2, none⟩ (.slice B k d)) (hS : S W) (hK : wpAnyH Tryz.prog .any opsF Q S fuel (listed.setIfInBounds 18 true) a W) : AllReadyH Tryz.prog .any opsF Q S fuel listed a w [18] :=
  AllReadyH.cons atF18 (fun K hK' => stpF18 e1 e2 h (by rw [← hW]; exact hK'.out _ _ hS (fun _ => hK))) AllReadyH.nil
theorem stpF19 {Q : Exit → Act → World → Prop} {K : Act → World → Prop} {a : Act} {w : World} {x : Nat} {s : Bool} {A : Option Addr} {m c : Nat} {B : Option Addr} {k d : Nat} (e1 : a.eval (.tmp 4) = .pointer (some ⟨x, 0, none⟩)) (e2 : a.eval (.tmp 28) = .agg #[.bool s, .slice A m c, .slice B k d]) (h : ResZ x w)
    (hK : K a (((w.setCell ⟨x, 0, none⟩ (.bool s)).setCell ⟨x, 1, none⟩ (.slice A m c)).setCell ⟨x, 2, none⟩ (.slice B k d))) :
    if Region.wanted ({ dst := none, op := Go.Op.store 25 (Go.Operand.tmp 4) (Go.Operand.tmp 28), type := 0, pos := "outright.go:29", after := #[{ on := 16, ground := Go.Ground.data }, { on := 9, ground := Go.Ground.data }, { on := 18, ground := Go.Ground.chain }, { on := 0, ground := Go.Ground.phase }, { on := 1, ground := Go.Ground.phase }, { on := 2, ground := Go.Ground.phase }, { on := 3, ground := Go.Ground.phase }, { on := 4, ground := Go.Ground.phase }, { on := 5, ground := Go.Ground.phase }, { on := 6, ground := Go.Ground.phase }, { on := 7, ground := Go.Ground.phase }, { on := 8, ground := Go.Ground.phase }, { on := 9, ground := Go.Ground.phase }, { on := 10, ground := Go.Ground.textOnly Go.Departure.lateStores }, { on := 11, ground := Go.Ground.textOnly Go.Departure.lateStores }, { on := 12, ground := Go.Ground.textOnly Go.Departure.lateStores }, { on := 13, ground := Go.Ground.textOnly Go.Departure.lateStores }, { on := 14, ground := Go.Ground.textOnly Go.Departure.lateStoresUnsure }, { on := 15, ground := Go.Ground.phase }, { on := 16, ground := Go.Ground.phase }, { on := 17, ground := Go.Ground.phase }, { on := 18, ground := Go.Ground.phase }], guard := none } : Oper) (yielded opsF a.tmps) = true then Oper.wp Tryz.prog ({ dst := none, op := Go.Op.store 25 (Go.Operand.tmp 4) (Go.Operand.tmp 28), type := 0, pos := "outright.go:29", after := #[{ on := 16, ground := Go.Ground.data }, { on := 9, ground := Go.Ground.data }, { on := 18, ground := Go.Ground.chain }, { on := 0, ground := Go.Ground.phase }, { on := 1, ground := Go.Ground.phase }, { on := 2, ground := Go.Ground.phase }, { on := 3, ground := Go.Ground.phase }, { on := 4, ground := Go.Ground.phase }, { on := 5, ground := Go.Ground.phase }, { on := 6, ground := Go.Ground.phase }, { on := 7, ground := Go.Ground.phase }, { on := 8, ground := Go.Ground.phase }, { on := 9, ground := Go.Ground.phase }, { on := 10, ground := Go.Ground.textOnly Go.Departure.lateStores }, { on := 11, ground := Go.Ground.textOnly Go.Departure.lateStores }, { on := 12, ground := Go.Ground.textOnly Go.Departure.lateStores }, { on := 13, ground := Go.Ground.textOnly Go.Departure.lateStores }, { on := 14, ground := Go.Ground.textOnly Go.Departure.lateStoresUnsure }, { on := 15, ground := Go.Ground.phase }, { on := 16, ground := Go.Ground.phase }, { on := 17, ground := Go.Ground.phase }, { on := 18, ground := Go.Ground.phase }], guard := none } : Oper) a w K Q else K (a.put none undef) w := by
  have g1 := ev_get e1
  have g2 := ev_get e2
  obtain ⟨c0, c1, c2⟩ := Rt.cells h
  obtain ⟨f0, f1, f2⟩ := Rt.frozen h
  go_simp
  exact hK
theorem atF19 : opsF[19]? = some { dst := none, op := Go.Op.store 25 (Go.Operand.tmp 4) (Go.Operand.tmp 28), type := 0, pos := "outright.go:29", after := #[{ on := 16, ground := Go.Ground.data }, { on := 9, ground := Go.Ground.data }, { on := 18, ground := Go.Ground.chain }, { on := 0, ground := Go.Ground.phase }, { on := 1, ground := Go.Ground.phase }, { on := 2, ground := Go.Ground.phase }, { on := 3, ground := Go.Ground.phase }, { on := 4, ground := Go.Ground.phase }, { on := 5, ground := Go.Ground.phase }, { on := 6, ground := Go.Ground.phase }, { on := 7, ground := Go.Ground.phase }, { on := 8, ground := Go.Ground.phase }, { on := 9, ground := Go.Ground.phase }, { on := 10, ground := Go.Ground.textOnly Go.Departure.lateStores }, { on := 11, ground := Go.Ground.textOnly Go.Departure.lateStores }, { on := 12, ground := Go.Ground.textOnly Go.Departure.lateStores }, { on := 13, ground := Go.Ground.textOnly Go.Departure.lateStores }, { on := 14, ground := Go.Ground.textOnly Go.Departure.lateStoresUnsure }, { on := 15, ground := Go.Ground.phase }, { on := 16, ground := Go.Ground.phase }, { on := 17, ground := Go.Ground.phase }, { on := 18, ground := Go.Ground.phase }], guard := none } := rfl
theorem rdyF19 {Q : Exit → Act → World → Prop} {S : World → Prop} {fuel : Nat} {listed : Array Bool} {a : Act} {w W : World} {x : Nat} {s : Bool} {A : Option Addr} {m c : Nat} {B : Option Addr} {k d : Nat} (e1 : a.eval (.tmp 4) = .pointer (some ⟨x, 0, none⟩)) (e2 : a.eval (.tmp 28) = .agg #[.bool s, .slice A m c, .slice B k d]) (h : ResZ x w)
    (hW : W = ((w.setCell ⟨x, 0, none⟩ (.bool s)).setCell ⟨x, 1, none⟩ (.slice A m c)).setCell ⟨x, 2, none⟩ (.slice B k d)) (hS : S W) (hK : wpAnyH Tryz.prog .any opsF Q S fuel (listed.setIfInBounds 19 true) a W) : AllReadyH Tryz.prog .any opsF Q S fuel listed a w [19] :=
  AllReadyH.cons atF19 (fun K hK' => stpF19 e1 e2 h (by rw [← hW]; exact hK'.out _ _ hS (fun _ => hK))) AllReadyH.nil
theorem stpF20 {Q : Exit → Act → World → Prop} {K : Act → World → Prop} {a : Act} {w : World} {x : Nat} {s : Bool} {A : Option Addr} {m c : Nat} {B : Option Addr} {k d : Nat} (e1 : a.eval (.tmp 5) = .pointer (some ⟨x, 0, none⟩)) (e2 : a.eval (.tmp 33) = .agg #[.bool s, .slice A m c, .slice B k d]) (h : ResZ x w)
    (hK : K a (((w.setCell ⟨x, 0, none⟩ (.bool s)).setCell ⟨x, 1, none⟩ (.slice A m c)).setCell ⟨x, 2, none⟩ (.slice B k d))) :
    if Region.wanted ({ dst := none, op := Go.Op.store 25 (Go.Operand.tmp 5) (Go.Operand.tmp 33), type := 0, pos := "outright.go:29", after := #[{ on := 17, ground := Go.Ground.data }, { on := 14, ground := Go.Ground.data }, { on := 19, ground := Go.Ground.chain }, { on := 0, ground := Go.Ground.phase }, { on := 1, ground := Go.Ground.phase }, { on := 2, ground := Go.Ground.phase }, { on := 3, ground := Go.Ground.phase }, { on := 4, ground := Go.Ground.phase }, { on := 5, ground := Go.Ground.phase }, { on := 6, ground := Go.Ground.phase }, { on := 7, ground := Go.Ground.phase }, { on := 8, ground := Go.Ground.phase }, { on := 9, ground := Go.Ground.phase }, { on := 10, ground := Go.Ground.phase }, { on := 11, ground := Go.Ground.phase }, { on := 12, ground := Go.Ground.phase }, { on := 13, ground := Go.Ground.phase }, { on := 14, ground := Go.Ground.phase }, { on := 15, ground := Go.Ground.phase }, { on := 16, ground := Go.Ground.phase }, { on := 17, ground := Go.Ground.phase }, { on := 18, ground := Go.Ground.phase }, { on := 19, ground := Go.Ground.phase }], guard := none } : Oper) (yielded opsF a.tmps) = true then Oper.wp Tryz.prog ({ dst := none, op := Go.Op.store 25 (Go.Operand.tmp 5) (Go.Operand.tmp 33), type := 0, pos := "outright.go:29", after := #[{ on := 17, ground := Go.Ground.data }, { on := 14, ground := Go.Ground.data }, { on := 19, ground := Go.Ground.chain }, { on := 0, ground := Go.Ground.phase }, { on := 1, ground := Go.Ground.phase }, { on := 2, ground := Go.Ground.phase }, { on := 3, ground := Go.Ground.phase }, { on := 4, ground := Go.Ground.phase }, { on := 5, ground := Go.Ground.phase }, { on := 6, ground := Go.Ground.phase }, { on := 7, ground := Go.Ground.phase }, { on := 8, ground := Go.Ground.phase }, { on := 9, ground := Go.Ground.phase }, { on := 10, ground := Go.Ground.phase }, { on := 11, ground := Go.Ground.phase }, { on := 12, ground := Go.Ground.phase }, { on := 13, ground := Go.Ground.phase }, { on := 14, ground := Go.Ground.phase }, { on := 15, ground := Go.Ground.phase }, { on := 16, ground := Go.Ground.phase }, { on := 17, ground := Go.Ground.phase }, { on := 18, ground := Go.Ground.phase }, { on := 19, ground := Go.Ground.phase }], guard := none } : Oper) a w K Q else K (a.put none undef) w := by
  have g1 := ev_get e1
  have g2 := ev_get e2
  obtain ⟨c0, c1, c2⟩ := Rt.cells h
  obtain ⟨f0, f1, f2⟩ := Rt.frozen h
  go_simp
  exact hK
theorem atF20 : opsF[20]? = some { dst := none, op := Go.Op.store 25 (Go.Operand.tmp 5) (Go.Operand.tmp 33), type := 0, pos := "outright.go:29", after := #[{ on := 17, ground := Go.Ground.data }, { on := 14, ground := Go.Ground.data }, { on := 19, ground := Go.Ground.chain }, { on := 0, ground := Go.Ground.phase }, { on := 1, ground := Go.Ground.phase }, { on := 2, ground := Go.Ground.phase }, { on := 3, ground := Go.Ground.phase }, { on := 4, ground := Go.Ground.phase }, { on := 5, ground := Go.Ground.phase }, { on := 6, ground := Go.Ground.phase }, { on := 7, ground := Go.Ground.phase }, { on := 8, ground := Go.Ground.phase }, { on := 9, ground := Go.Ground.phase }, { on := 10, ground := Go.Ground.phase }, { on := 11, ground := Go.Ground.phase }, { on := 12, ground := Go.Ground.phase }, { on := 13, ground := Go.Ground.phase }, { on := 14, ground := Go.Ground.phase }, { on := 15, ground := Go.Ground.phase }, { on := 16, ground := Go.Ground.phase }, { on := 17, ground := Go.Ground.phase }, { on := 18, ground := Go.Ground.phase }, { on := 19, ground := Go.Ground.phase }], guard := none } := rfl
theorem rdyF20 {Q : Exit → Act → World → Prop} {S : World → Prop} {fuel : Nat} {listed : Array Bool} {a : Act} {w W : World} {x : Nat} {s : Bool} {A : Option Addr} {m c : Nat} {B : Option Addr} {k d : Nat} (e1 : a.eval (.tmp 5) = .pointer (some ⟨x, 0, none⟩)) (e2 : a.eval (.tmp 33) = .agg #[.bool s, .slice A m c, .slice B k d]) (h : ResZ x w)
    (hW : W = ((w.setCell ⟨x, 0, none⟩ (.bool s)).setCell ⟨x, 1, none⟩ (.slice A m c)).setCell ⟨x, 2, none⟩ (.slice B k d)) (hS : S W) (hK : wpAnyH Tryz.prog .any opsF Q S fuel (listed.setIfInBounds 20 true) a W) : AllReadyH Tryz.prog .any opsF Q S fuel listed a w [20] :=
  AllReadyH.cons atF20 (fun K hK' => stpF20 e1 e2 h (by rw [← hW]; exact hK'.out _ _ hS (fun _ => hK))) AllReadyH.nil
theorem ylF0 {a : Act} {g : Nat} {S : World → Prop} (e : a.eval (.tmp 1) = .pointer (some ⟨g, 0, none⟩)) : YieldsIf Tryz.prog opsF S ({ dst := some 19, op := Go.Op.fieldAddr 47 (Go.Operand.tmp 1) 0, type := 0, pos := "outright.go:29", after := #[], guard := none } : Oper) (.pointer (some ⟨g, 0, none⟩)) a := by
  have g1 := ev_get e
  refine Or.inl ⟨rfl, fun w _ => ?_⟩
  go_simp
theorem ylF1 {a : Act} {g : Nat} {z0 z1 z2 z3 z4 z5 : Int} (e : a.eval (.tmp 19) = .pointer (some ⟨g, 0, none⟩)) : YieldsIf Tryz.prog opsF (SixC g z0 z1 z2 z3 z4 z5) ({ dst := some 20, op := Go.Op.load 45 (Go.Operand.tmp 19), type := 45, pos := "outright.go:29", after := #[{ on := 0, ground := Go.Ground.data }], guard := none } : Oper) (.int .i16 z0) a := by
  have g1 := ev_get e
  refine Or.inl ⟨rfl, fun w hS => ?_⟩
  obtain ⟨-, h0, h1, h2, h3, h4, h5⟩ := hS
  go_simp
theorem ylF2 {a : Act} {g : Nat} {S : World → Prop} (e : a.eval (.tmp 1) = .pointer (some ⟨g, 0, none⟩)) : YieldsIf Tryz.prog opsF S ({ dst := some 21, op := Go.Op.fieldAddr 47 (Go.Operand.tmp 1) 1, type := 0, pos := "outright.go:29", after := #[], guard := none } : Oper) (.pointer (some ⟨g, 1, none⟩)) a := by
  have g1 := ev_get e
  refine Or.inl ⟨rfl, fun w _ => ?_⟩
  go_simp
theorem ylF3 {a : Act} {g : Nat} {z0 z1 z2 z3 z4 z5 : Int} (e : a.eval (.tmp 21) = .pointer (some ⟨g, 1, none⟩)) : YieldsIf Tryz.prog opsF (SixC g z0 z1 z2 z3 z4 z5) ({ dst := some 22, op := Go.Op.load 45 (Go.Operand.tmp 21), type := 45, pos := "outright.go:29", after := #[{ on := 2, ground := Go.Ground.data }], guard := none } : Oper) (.int .i16 z1) a := by
  have g1 := ev_get e
  refine Or.inl ⟨rfl, fun w hS => ?_⟩
  obtain ⟨-, h0, h1, h2, h3, h4, h5⟩ := hS
  go_simp
theorem ylF5 {a : Act} {g : Nat} {S : World → Prop} (e : a.eval (.tmp 1) = .pointer (some ⟨g, 0, none⟩)) : YieldsIf Tryz.prog opsF S ({ dst := some 24, op := Go.Op.fieldAddr 47 (Go.Operand.tmp 1) 2, type := 0, pos := "outright.go:29", after := #[], guard := none } : Oper) (.pointer (some ⟨g, 2, none⟩)) a := by
  have g1 := ev_get e
  refine Or.inl ⟨rfl, fun w _ => ?_⟩
  go_simp
theorem ylF6 {a : Act} {g : Nat} {z0 z1 z2 z3 z4 z5 : Int} (e : a.eval (.tmp 24) = .pointer (some ⟨g, 2, none⟩)) : YieldsIf Tryz.prog opsF (SixC g z0 z1 z2 z3 z4 z5) ({ dst := some 25, op := Go.Op.load 45 (Go.Operand.tmp 24), type := 45, pos := "outright.go:29", after := #[{ on := 5, ground := Go.Ground.data }], guard := none } : Oper) (.int .i16 z2) a := by
  have g1 := ev_get e
  refine Or.inl ⟨rfl, fun w hS => ?_⟩
  obtain ⟨-, h0, h1, h2, h3, h4, h5⟩ := hS
  go_simp
theorem ylF7 {a : Act} {g : Nat} {S : World → Prop} (e : a.eval (.tmp 1) = .pointer (some ⟨g, 0, none⟩)) : YieldsIf Tryz.prog opsF S ({ dst := some 26, op := Go.Op.fieldAddr 47 (Go.Operand.tmp 1) 3, type := 0, pos := "outright.go:29", after := #[], guard := none } : Oper) (.pointer (some ⟨g, 3, none⟩)) a := by
  have g1 := ev_get e
  refine Or.inl ⟨rfl, fun w _ => ?_⟩
  go_simp
theorem ylF8 {a : Act} {g : Nat} {z0 z1 z2 z3 z4 z5 : Int} (e : a.eval (.tmp 26) = .pointer (some ⟨g, 3, none⟩)) : YieldsIf Tryz.prog opsF (SixC g z0 z1 z2 z3 z4 z5) ({ dst := some 27, op := Go.Op.load 45 (Go.Operand.tmp 26), type := 45, pos := "outright.go:29", after := #[{ on := 7, ground := Go.Ground.data }], guard := none } : Oper) (.int .i16 z3) a := by
  have g1 := ev_get e
  refine Or.inl ⟨rfl, fun w hS => ?_⟩
  obtain ⟨-, h0, h1, h2, h3, h4, h5⟩ := hS
  go_simp
theorem ylF10 {a : Act} {g : Nat} {S : World → Prop} (e : a.eval (.tmp 1) = .pointer (some ⟨g, 0, none⟩)) : YieldsIf Tryz.prog opsF S ({ dst := some 29, op := Go.Op.fieldAddr 47 (Go.Operand.tmp 1) 4, type := 0, pos := "outright.go:29", after := #[], guard := none } : Oper) (.pointer (some ⟨g, 4, none⟩)) a := by
  have g1 := ev_get e
  refine Or.inl ⟨rfl, fun w _ => ?_⟩
  go_simp
theorem ylF11 {a : Act} {g : Nat} {z0 z1 z2 z3 z4 z5 : Int} (e : a.eval (.tmp 29) = .pointer (some ⟨g, 4, none⟩)) : YieldsIf Tryz.prog opsF (SixC g z0 z1 z2 z3 z4 z5) ({ dst := some 30, op := Go.Op.load 45 (Go.Operand.tmp 29), type := 45, pos := "outright.go:29", after := #[{ on := 10, ground := Go.Ground.data }], guard := none } : Oper) (.int .i16 z4) a := by
  have g1 := ev_get e
  refine Or.inl ⟨rfl, fun w hS => ?_⟩
  obtain ⟨-, h0, h1, h2, h3, h4, h5⟩ := hS
  go_simp
theorem ylF12 {a : Act} {g : Nat} {S : World → Prop} (e : a.eval (.tmp 1) = .pointer (some ⟨g, 0, none⟩)) : YieldsIf Tryz.prog opsF S ({ dst := some 31, op := Go.Op.fieldAddr 47 (Go.Operand.tmp 1) 5, type := 0, pos := "outright.go:29", after := #[], guard := none } : Oper) (.pointer (some ⟨g, 5, none⟩)) a := by
  have g1 := ev_get e
  refine Or.inl ⟨rfl, fun w _ => ?_⟩
  go_simp
theorem ylF13 {a : Act} {g : Nat} {z0 z1 z2 z3 z4 z5 : Int} (e : a.eval (.tmp 31) = .pointer (some ⟨g, 5, none⟩)) : YieldsIf Tryz.prog opsF (SixC g z0 z1 z2 z3 z4 z5) ({ dst := some 32, op := Go.Op.load 45 (Go.Operand.tmp 31), type := 45, pos := "outright.go:29", after := #[{ on := 12, ground := Go.Ground.data }], guard := none } : Oper) (.int .i16 z5) a := by
  have g1 := ev_get e
  refine Or.inl ⟨rfl, fun w hS => ?_⟩
  obtain ⟨-, h0, h1, h2, h3, h4, h5⟩ := hS
  go_simp
def sqF (g : Nat) (z0 z1 z2 z3 z4 z5 : Int) (a : Act) : Act := ((((((((((((a.put (some 19) (.pointer (some ⟨g, 0, none⟩))).put (some 20) (.int .i16 z0)).put (some 21) (.pointer (some ⟨g, 1, none⟩))).put (some 22) (.int .i16 z1)).put (some 24) (.pointer (some ⟨g, 2, none⟩))).put (some 25) (.int .i16 z2)).put (some 26) (.pointer (some ⟨g, 3, none⟩))).put (some 27) (.int .i16 z3)).put (some 29) (.pointer (some ⟨g, 4, none⟩))).put (some 30) (.int .i16 z4)).put (some 31) (.pointer (some ⟨g, 5, none⟩))).put (some 32) (.int .i16 z5))
def wpF15 (x : Nat) (a : Act) : Act := a.put (some 3) (.pointer (some ⟨x, 0, none⟩))
def wpF16 (x : Nat) (a : Act) : Act := a.put (some 4) (.pointer (some ⟨x, 0, none⟩))
def wpF17 (x : Nat) (a : Act) : Act := a.put (some 5) (.pointer (some ⟨x, 0, none⟩))
def wpF4 (v : Value) (a : Act) : Act := a.put (some 23) v
def wpF9 (v : Value) (a : Act) : Act := a.put (some 28) v
def wpF14 (v : Value) (a : Act) : Act := a.put (some 33) v
theorem wsF15_16 (x : Nat) (y : Nat) (a : Act) : wpF15 x (wpF16 y a) = wpF16 y (wpF15 x a) := put_lt (by decide) _ _ _
theorem wsF15_17 (x : Nat) (y : Nat) (a : Act) : wpF15 x (wpF17 y a) = wpF17 y (wpF15 x a) := put_lt (by decide) _ _ _
theorem wsF15_4 (x : Nat) (y : Value) (a : Act) : wpF15 x (wpF4 y a) = wpF4 y (wpF15 x a) := put_lt (by decide) _ _ _
theorem wsF15_9 (x : Nat) (y : Value) (a : Act) : wpF15 x (wpF9 y a) = wpF9 y (wpF15 x a) := put_lt (by decide) _ _ _
theorem wsF15_14 (x : Nat) (y : Value) (a : Act) : wpF15 x (wpF14 y a) = wpF14 y (wpF15 x a) := put_lt (by decide) _ _ _
theorem wsF16_17 (x : Nat) (y : Nat) (a : Act) : wpF16 x (wpF17 y a) = wpF17 y (wpF16 x a) := put_lt (by decide) _ _ _
theorem wsF16_4 (x : Nat) (y : Value) (a : Act) : wpF16 x (wpF4 y a) = wpF4 y (wpF16 x a) := put_lt (by decide) _ _ _
theorem wsF16_9 (x : Nat) (y : Value) (a : Act) : wpF16 x (wpF9 y a) = wpF9 y (wpF16 x a) := put_lt (by decide) _ _ _
theorem wsF16_14 (x : Nat) (y : Value) (a : Act) : wpF16 x (wpF14 y a) = wpF14 y (wpF16 x a) := put_lt (by decide) _ _ _
theorem wsF17_4 (x : Nat) (y : Value) (a : Act) : wpF17 x (wpF4 y a) = wpF4 y (wpF17 x a) := put_lt (by decide) _ _ _
theorem wsF17_9 (x : Nat) (y : Value) (a : Act) : wpF17 x (wpF9 y a) = wpF9 y (wpF17 x a) := put_lt (by decide) _ _ _
theorem wsF17_14 (x : Nat) (y : Value) (a : Act) : wpF17 x (wpF14 y a) = wpF14 y (wpF17 x a) := put_lt (by decide) _ _ _
theorem wsF4_9 (x : Value) (y : Value) (a : Act) : wpF4 x (wpF9 y a) = wpF9 y (wpF4 x a) := put_lt (by decide) _ _ _
theorem wsF4_14 (x : Value) (y : Value) (a : Act) : wpF4 x (wpF14 y a) = wpF14 y (wpF4 x a) := put_lt (by decide) _ _ _
theorem wsF9_14 (x : Value) (y : Value) (a : Act) : wpF9 x (wpF14 y a) = wpF14 y (wpF9 x a) := put_lt (by decide) _ _ _
end Go.Proofs.YtfdkdloldjfnjaaGreatDoor
