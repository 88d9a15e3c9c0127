/-
  DERIVED. Two fractions of the law's own, twice (RatioOps): in whatever order. (Written by gen/genVG.py.)
-/
import Derived.Test.YtfdkdloldjfnjaaGreatDoorWF
import Derived.Test.YtfdkdloldjfnjaaGreatDoorUR
set_option linter.unusedVariables false
set_option linter.unusedSimpArgs false
namespace Go.Proofs.YtfdkdloldjfnjaaGreatDoor
open Go.RowKit
set_option maxRecDepth 100000
set_option linter.unusedSimpArgs false
set_option linter.unusedVariables false

def OwnP (s : Bool) (la lb : List Nat) (w : World) (e : Ending) (w' : World) : Prop := ∃ r, e = .returned r ∧ Rc w' r s la lb ∧ Below w.heap.size w w'
/-- A box that holds a fraction, valid or not. -/
def RB (W : World) (b : Nat) (v : Value) (s : Bool) (la lb : List Nat) : Prop := ∃ va vb, v = .agg #[.bool s, va, vb] ∧ Rt W b s va vb ∧ Rc W v s la lb
theorem RB.lt {W : World} {b : Nat} {v : Value} {s : Bool} {la lb : List Nat} (h : RB W b v s la lb) : b < W.heap.size := by obtain ⟨va, vb, -, h, -⟩ := h; exact h.lt
theorem RB.on {W X : World} {b : Nat} {v : Value} {s : Bool} {la lb : List Nat} (h : RB W b v s la lb) (hb : Below W.heap.size W X) : RB X b v s la lb := by
  obtain ⟨va, vb, e, h1, h2⟩ := h
  exact ⟨va, vb, e, h1.on hb h1.lt, h2.on hb⟩
theorem RB.storeO {W : World} {b b' : Nat} {v : Value} {s t : Bool} {la lb : List Nat} {p p' : Option Addr} {i j i' j' : Nat} (h : RB W b v s la lb) (hr : Rt W b' t (.slice p i j) (.slice p' i' j')) (hne : b ≠ b') (x y z : Value) : RB (((W.setCell ⟨b', 0, none⟩ x).setCell ⟨b', 1, none⟩ y).setCell ⟨b', 2, none⟩ z) b v s la lb := by
  obtain ⟨va, vb, e, h1, h2⟩ := h
  exact ⟨va, vb, e, row_keep3 h1 hne x y z, h2.storeZ hr x y z⟩
theorem RB.storeS {W : World} {b : Nat} {s t : Bool} {la lb : List Nat} {va vb : Value} {p p' : Option Addr} {i j i' j' : Nat} (h : Rc W (.agg #[.bool s, va, vb]) s la lb) (hr : Rt W b t (.slice p i j) (.slice p' i' j')) : RB (((W.setCell ⟨b, 0, none⟩ (.bool s)).setCell ⟨b, 1, none⟩ va).setCell ⟨b, 2, none⟩ vb) b (.agg #[.bool s, va, vb]) s la lb :=
  ⟨va, vb, rfl, row_store3 hr _ _ _, h.storeZ hr _ _ _⟩
/-- The two boxes that are read. -/
def TwoB (g1 g2 : Nat) (u1 u2 : Value) (s1 s2 : Bool) (la1 lb1 la2 lb2 : List Nat) (X : World) : Prop := RB X g1 u1 s1 la1 lb1 ∧ RB X g2 u2 s2 la2 lb2
theorem TwoB.on {g1 g2 : Nat} {u1 u2 : Value} {s1 s2 : Bool} {la1 lb1 la2 lb2 : List Nat} {X Y : World} (h : TwoB g1 g2 u1 u2 s1 s2 la1 lb1 la2 lb2 X) (hb : Below X.heap.size X Y) : TwoB g1 g2 u1 u2 s1 s2 la1 lb1 la2 lb2 Y := ⟨h.1.on hb, h.2.on hb⟩
theorem TwoB.store3 {g1 g2 : Nat} {u1 u2 : Value} {s1 s2 : Bool} {la1 lb1 la2 lb2 : List Nat} {X : World} (h : TwoB g1 g2 u1 u2 s1 s2 la1 lb1 la2 lb2 X) {g : Nat} (hr : ResZ g X) (h1 : g1 ≠ g) (h2 : g2 ≠ g) (x y z : Value) : TwoB g1 g2 u1 u2 s1 s2 la1 lb1 la2 lb2 (((X.setCell ⟨g, 0, none⟩ x).setCell ⟨g, 1, none⟩ y).setCell ⟨g, 2, none⟩ z) :=
  ⟨h.1.storeO hr.rt h1 x y z, h.2.storeO hr.rt h2 x y z⟩
def opsP : Array Oper := #[{ dst := some 22, op := Go.Op.load 25 (Go.Operand.tmp 2), type := 25, pos := "law.go:36", after := #[], guard := none }, { dst := some 23, op := Go.Op.call { callee := Go.Callee.value (Go.Operand.func 12), args := #[Go.Operand.tmp 22], argTypes := #[25] }, type := 25, pos := "law.go:36", after := #[{ on := 0, ground := Go.Ground.data }], guard := none }, { dst := some 24, op := Go.Op.load 25 (Go.Operand.tmp 3), type := 25, pos := "law.go:36", after := #[], guard := none }, { dst := some 25, op := Go.Op.call { callee := Go.Callee.value (Go.Operand.func 12), args := #[Go.Operand.tmp 24], argTypes := #[25] }, type := 25, pos := "law.go:36", after := #[{ on := 2, ground := Go.Ground.data }, { on := 1, ground := Go.Ground.chain }], guard := none }, { dst := some 5, op := Go.Op.alloc 25, type := 0, pos := "law.go:36", after := #[], guard := none }, { dst := some 6, op := Go.Op.alloc 25, type := 0, pos := "law.go:36", after := #[], guard := none }, { dst := none, op := Go.Op.store 25 (Go.Operand.tmp 5) (Go.Operand.tmp 23), type := 0, pos := "law.go:36", after := #[{ on := 4, ground := Go.Ground.data }, { on := 1, ground := Go.Ground.data }, { on := 3, ground := Go.Ground.chain }, { on := 0, ground := Go.Ground.phase }, { on := 1, ground := Go.Ground.phase }, { on := 2, ground := Go.Ground.textOnly Go.Departure.lateStores }, { on := 3, ground := Go.Ground.textOnly Go.Departure.lateStoresUnsure }, { on := 4, ground := Go.Ground.phase }, { on := 5, ground := Go.Ground.phase }], guard := none }, { dst := none, op := Go.Op.store 25 (Go.Operand.tmp 6) (Go.Operand.tmp 25), type := 0, pos := "law.go:36", after := #[{ on := 5, ground := Go.Ground.data }, { on := 3, ground := Go.Ground.data }, { on := 6, ground := Go.Ground.chain }, { on := 0, ground := Go.Ground.phase }, { on := 1, ground := Go.Ground.phase }, { on := 2, ground := Go.Ground.phase }, { on := 3, ground := Go.Ground.phase }, { on := 4, ground := Go.Ground.phase }, { on := 5, ground := Go.Ground.phase }, { on := 6, ground := Go.Ground.phase }], guard := none }]
theorem stpP1 {Q : Exit → Act → World → Prop} {K : Act → World → Prop} {a : Act} {w : World} {u : Value} {s : Bool} {la lb : List Nat} (e1 : a.eval (.tmp 22) = u) (h : Calls Tryz.prog 12 #[u] w (OwnP s la lb w)) (hK : ∀ v w', Rc w' v s la lb → Below w.heap.size w w' → K (a.put (some 23) v) w') :
    if Region.wanted ({ dst := some 23, op := Go.Op.call { callee := Go.Callee.value (Go.Operand.func 12), args := #[Go.Operand.tmp 22], argTypes := #[25] }, type := 25, pos := "law.go:36", after := #[{ on := 0, ground := Go.Ground.data }], guard := none } : Oper) (yielded opsP a.tmps) = true then Oper.wp Tryz.prog ({ dst := some 23, op := Go.Op.call { callee := Go.Callee.value (Go.Operand.func 12), args := #[Go.Operand.tmp 22], argTypes := #[25] }, type := 25, pos := "law.go:36", after := #[{ on := 0, ground := Go.Ground.data }], guard := none } : Oper) a w K Q else K (a.put (some 23) undef) w := by
  have g1 := ev_get e1
  go_simp
  go_at_call 12
  refine h.mono ?_
  rintro e w' ⟨v, rfl, hv, hb⟩
  exact hK v w' hv hb
theorem stpP3 {Q : Exit → Act → World → Prop} {K : Act → World → Prop} {a : Act} {w : World} {u : Value} {s : Bool} {la lb : List Nat} (e1 : a.eval (.tmp 24) = u) (h : Calls Tryz.prog 12 #[u] w (OwnP s la lb w)) (hK : ∀ v w', Rc w' v s la lb → Below w.heap.size w w' → K (a.put (some 25) v) w') :
    if Region.wanted ({ dst := some 25, op := Go.Op.call { callee := Go.Callee.value (Go.Operand.func 12), args := #[Go.Operand.tmp 24], argTypes := #[25] }, type := 25, pos := "law.go:36", after := #[{ on := 2, ground := Go.Ground.data }, { on := 1, ground := Go.Ground.chain }], guard := none } : Oper) (yielded opsP a.tmps) = true then Oper.wp Tryz.prog ({ dst := some 25, op := Go.Op.call { callee := Go.Callee.value (Go.Operand.func 12), args := #[Go.Operand.tmp 24], argTypes := #[25] }, type := 25, pos := "law.go:36", after := #[{ on := 2, ground := Go.Ground.data }, { on := 1, ground := Go.Ground.chain }], guard := none } : Oper) a w K Q else K (a.put (some 25) undef) w := by
  have g1 := ev_get e1
  go_simp
  go_at_call 12
  refine h.mono ?_
  rintro e w' ⟨v, rfl, hv, hb⟩
  exact hK v w' hv hb
theorem stpP4 {Q : Exit → Act → World → Prop} {K : Act → World → Prop} {a : Act} {w : World} (hK : K (a.put (some 5) (.pointer (some ⟨w.heap.size, 0, none⟩))) (w.alloc (.cells #[.bool false, .slice none 0 0, .slice none 0 0] 25))) :
    if Region.wanted ({ dst := some 5, op := Go.Op.alloc 25, type := 0, pos := "law.go:36", after := #[], guard := none } : Oper) (yielded opsP a.tmps) = true then Oper.wp Tryz.prog ({ dst := some 5, op := Go.Op.alloc 25, type := 0, pos := "law.go:36", after := #[], guard := none } : Oper) a w K Q else K (a.put (some 5) undef) w := by
  go_simp
  exact hK
theorem stpP5 {Q : Exit → Act → World → Prop} {K : Act → World → Prop} {a : Act} {w : World} (hK : K (a.put (some 6) (.pointer (some ⟨w.heap.size, 0, none⟩))) (w.alloc (.cells #[.bool false, .slice none 0 0, .slice none 0 0] 25))) :
    if Region.wanted ({ dst := some 6, op := Go.Op.alloc 25, type := 0, pos := "law.go:36", after := #[], guard := none } : Oper) (yielded opsP a.tmps) = true then Oper.wp Tryz.prog ({ dst := some 6, op := Go.Op.alloc 25, type := 0, pos := "law.go:36", after := #[], guard := none } : Oper) a w K Q else K (a.put (some 6) undef) w := by
  go_simp
  exact hK
theorem stpP6 {Q : Exit → Act → World → Prop} {K : Act → World → Prop} {a : Act} {w : World} {x : Nat} {s : Bool} {A : Option Addr} {m c : Nat} {B : Option Addr} {k d : Nat} (e1 : a.eval (.tmp 5) = .pointer (some ⟨x, 0, none⟩)) (e2 : a.eval (.tmp 23) = .agg #[.bool s, .slice A m c, .slice B k d]) (h : ResZ x w)
    (hK : K a (((w.setCell ⟨x, 0, none⟩ (.bool s)).setCell ⟨x, 1, none⟩ (.slice A m c)).setCell ⟨x, 2, none⟩ (.slice B k d))) :
    if Region.wanted ({ dst := none, op := Go.Op.store 25 (Go.Operand.tmp 5) (Go.Operand.tmp 23), type := 0, pos := "law.go:36", after := #[{ on := 4, ground := Go.Ground.data }, { on := 1, ground := Go.Ground.data }, { on := 3, ground := Go.Ground.chain }, { on := 0, ground := Go.Ground.phase }, { on := 1, ground := Go.Ground.phase }, { on := 2, ground := Go.Ground.textOnly Go.Departure.lateStores }, { on := 3, ground := Go.Ground.textOnly Go.Departure.lateStoresUnsure }, { on := 4, ground := Go.Ground.phase }, { on := 5, ground := Go.Ground.phase }], guard := none } : Oper) (yielded opsP a.tmps) = true then Oper.wp Tryz.prog ({ dst := none, op := Go.Op.store 25 (Go.Operand.tmp 5) (Go.Operand.tmp 23), type := 0, pos := "law.go:36", after := #[{ on := 4, ground := Go.Ground.data }, { on := 1, ground := Go.Ground.data }, { on := 3, ground := Go.Ground.chain }, { on := 0, ground := Go.Ground.phase }, { on := 1, ground := Go.Ground.phase }, { on := 2, ground := Go.Ground.textOnly Go.Departure.lateStores }, { on := 3, ground := Go.Ground.textOnly Go.Departure.lateStoresUnsure }, { on := 4, ground := Go.Ground.phase }, { on := 5, ground := Go.Ground.phase }], guard := none } : Oper) a w K Q else K (a.put none undef) w := by
  have g1 := ev_get e1
  have g2 := ev_get e2
  obtain ⟨c0, c1, c2⟩ := Rt.cells h
  obtain ⟨f0, f1, f2⟩ := Rt.frozen h
  go_simp
  exact hK
theorem atP6 : opsP[6]? = some { dst := none, op := Go.Op.store 25 (Go.Operand.tmp 5) (Go.Operand.tmp 23), type := 0, pos := "law.go:36", after := #[{ on := 4, ground := Go.Ground.data }, { on := 1, ground := Go.Ground.data }, { on := 3, ground := Go.Ground.chain }, { on := 0, ground := Go.Ground.phase }, { on := 1, ground := Go.Ground.phase }, { on := 2, ground := Go.Ground.textOnly Go.Departure.lateStores }, { on := 3, ground := Go.Ground.textOnly Go.Departure.lateStoresUnsure }, { on := 4, ground := Go.Ground.phase }, { on := 5, ground := Go.Ground.phase }], guard := none } := rfl
theorem rdyP6 {Q : Exit → Act → World → Prop} {S : World → Prop} {fuel : Nat} {listed : Array Bool} {a : Act} {w W : World} {x : Nat} {s : Bool} {A : Option Addr} {m c : Nat} {B : Option Addr} {k d : Nat} (e1 : a.eval (.tmp 5) = .pointer (some ⟨x, 0, none⟩)) (e2 : a.eval (.tmp 23) = .agg #[.bool s, .slice A m c, .slice B k d]) (h : ResZ x w)
    (hW : W = ((w.setCell ⟨x, 0, none⟩ (.bool s)).setCell ⟨x, 1, none⟩ (.slice A m c)).setCell ⟨x, 2, none⟩ (.slice B k d)) (hS : S W) (hK : wpAnyH Tryz.prog .any opsP Q S fuel (listed.setIfInBounds 6 true) a W) : AllReadyH Tryz.prog .any opsP Q S fuel listed a w [6] :=
  AllReadyH.cons atP6 (fun K hK' => stpP6 e1 e2 h (by rw [← hW]; exact hK'.out _ _ hS (fun _ => hK))) AllReadyH.nil
theorem stpP7 {Q : Exit → Act → World → Prop} {K : Act → World → Prop} {a : Act} {w : World} {x : Nat} {s : Bool} {A : Option Addr} {m c : Nat} {B : Option Addr} {k d : Nat} (e1 : a.eval (.tmp 6) = .pointer (some ⟨x, 0, none⟩)) (e2 : a.eval (.tmp 25) = .agg #[.bool s, .slice A m c, .slice B k d]) (h : ResZ x w)
    (hK : K a (((w.setCell ⟨x, 0, none⟩ (.bool s)).setCell ⟨x, 1, none⟩ (.slice A m c)).setCell ⟨x, 2, none⟩ (.slice B k d))) :
    if Region.wanted ({ dst := none, op := Go.Op.store 25 (Go.Operand.tmp 6) (Go.Operand.tmp 25), type := 0, pos := "law.go:36", after := #[{ on := 5, ground := Go.Ground.data }, { on := 3, ground := Go.Ground.data }, { on := 6, ground := Go.Ground.chain }, { on := 0, ground := Go.Ground.phase }, { on := 1, ground := Go.Ground.phase }, { on := 2, ground := Go.Ground.phase }, { on := 3, ground := Go.Ground.phase }, { on := 4, ground := Go.Ground.phase }, { on := 5, ground := Go.Ground.phase }, { on := 6, ground := Go.Ground.phase }], guard := none } : Oper) (yielded opsP a.tmps) = true then Oper.wp Tryz.prog ({ dst := none, op := Go.Op.store 25 (Go.Operand.tmp 6) (Go.Operand.tmp 25), type := 0, pos := "law.go:36", after := #[{ on := 5, ground := Go.Ground.data }, { on := 3, ground := Go.Ground.data }, { on := 6, ground := Go.Ground.chain }, { on := 0, ground := Go.Ground.phase }, { on := 1, ground := Go.Ground.phase }, { on := 2, ground := Go.Ground.phase }, { on := 3, ground := Go.Ground.phase }, { on := 4, ground := Go.Ground.phase }, { on := 5, ground := Go.Ground.phase }, { on := 6, ground := Go.Ground.phase }], guard := none } : Oper) a w K Q else K (a.put none undef) w := by
  have g1 := ev_get e1
  have g2 := ev_get e2
  obtain ⟨c0, c1, c2⟩ := Rt.cells h
  obtain ⟨f0, f1, f2⟩ := Rt.frozen h
  go_simp
  exact hK
theorem atP7 : opsP[7]? = some { dst := none, op := Go.Op.store 25 (Go.Operand.tmp 6) (Go.Operand.tmp 25), type := 0, pos := "law.go:36", after := #[{ on := 5, ground := Go.Ground.data }, { on := 3, ground := Go.Ground.data }, { on := 6, ground := Go.Ground.chain }, { on := 0, ground := Go.Ground.phase }, { on := 1, ground := Go.Ground.phase }, { on := 2, ground := Go.Ground.phase }, { on := 3, ground := Go.Ground.phase }, { on := 4, ground := Go.Ground.phase }, { on := 5, ground := Go.Ground.phase }, { on := 6, ground := Go.Ground.phase }], guard := none } := rfl
theorem rdyP7 {Q : Exit → Act → World → Prop} {S : World → Prop} {fuel : Nat} {listed : Array Bool} {a : Act} {w W : World} {x : Nat} {s : Bool} {A : Option Addr} {m c : Nat} {B : Option Addr} {k d : Nat} (e1 : a.eval (.tmp 6) = .pointer (some ⟨x, 0, none⟩)) (e2 : a.eval (.tmp 25) = .agg #[.bool s, .slice A m c, .slice B k d]) (h : ResZ x w)
    (hW : W = ((w.setCell ⟨x, 0, none⟩ (.bool s)).setCell ⟨x, 1, none⟩ (.slice A m c)).setCell ⟨x, 2, none⟩ (.slice B k d)) (hS : S W) (hK : wpAnyH Tryz.prog .any opsP Q S fuel (listed.setIfInBounds 7 true) a W) : AllReadyH Tryz.prog .any opsP Q S fuel listed a w [7] :=
  AllReadyH.cons atP7 (fun K hK' => stpP7 e1 e2 h (by rw [← hW]; exact hK'.out _ _ hS (fun _ => hK))) AllReadyH.nil
theorem ylP0 {a : Act} {g1 g2 : Nat} {u1 u2 : Value} {s1 s2 : Bool} {la1 lb1 la2 lb2 : List Nat} (e : a.eval (.tmp 2) = .pointer (some ⟨g1, 0, none⟩)) : YieldsIf Tryz.prog opsP (TwoB g1 g2 u1 u2 s1 s2 la1 lb1 la2 lb2) ({ dst := some 22, op := Go.Op.load 25 (Go.Operand.tmp 2), type := 25, pos := "law.go:36", after := #[], guard := none } : Oper) u1 a := by
  have h1 := ev_get e
  refine Or.inl ⟨rfl, fun w hS => ?_⟩
  obtain ⟨va, vb, rfl, hr, -⟩ := hS.1
  obtain ⟨c0, c1, c2⟩ := hr.cells
  go_simp
theorem ylP2 {a : Act} {g1 g2 : Nat} {u1 u2 : Value} {s1 s2 : Bool} {la1 lb1 la2 lb2 : List Nat} (e : a.eval (.tmp 3) = .pointer (some ⟨g2, 0, none⟩)) : YieldsIf Tryz.prog opsP (TwoB g1 g2 u1 u2 s1 s2 la1 lb1 la2 lb2) ({ dst := some 24, op := Go.Op.load 25 (Go.Operand.tmp 3), type := 25, pos := "law.go:36", after := #[], guard := none } : Oper) u2 a := by
  have h1 := ev_get e
  refine Or.inl ⟨rfl, fun w hS => ?_⟩
  obtain ⟨va, vb, rfl, hr, -⟩ := hS.2
  obtain ⟨c0, c1, c2⟩ := hr.cells
  go_simp
def sqP (u1 u2 : Value) (a : Act) : Act := (a.put (some 22) u1).put (some 24) u2
def wpP4 (x : Nat) (a : Act) : Act := a.put (some 5) (.pointer (some ⟨x, 0, none⟩))
def wpP5 (x : Nat) (a : Act) : Act := a.put (some 6) (.pointer (some ⟨x, 0, none⟩))
def wpP1 (x : Value) (a : Act) : Act := a.put (some 23) x
def wpP3 (x : Value) (a : Act) : Act := a.put (some 25) x
theorem wsP4_5 (x : Nat) (y : Nat) (a : Act) : wpP4 x (wpP5 y a) = wpP5 y (wpP4 x a) := put_lt (by decide) _ _ _
theorem wsP4_1 (x : Nat) (y : Value) (a : Act) : wpP4 x (wpP1 y a) = wpP1 y (wpP4 x a) := put_lt (by decide) _ _ _
theorem wsP4_3 (x : Nat) (y : Value) (a : Act) : wpP4 x (wpP3 y a) = wpP3 y (wpP4 x a) := put_lt (by decide) _ _ _
theorem wsP5_1 (x : Nat) (y : Value) (a : Act) : wpP5 x (wpP1 y a) = wpP1 y (wpP5 x a) := put_lt (by decide) _ _ _
theorem wsP5_3 (x : Nat) (y : Value) (a : Act) : wpP5 x (wpP3 y a) = wpP3 y (wpP5 x a) := put_lt (by decide) _ _ _
theorem wsP1_3 (x : Value) (y : Value) (a : Act) : wpP1 x (wpP3 y a) = wpP3 y (wpP1 x a) := put_lt (by decide) _ _ _
section
variable (Q : Exit → Act → World → Prop) (w0 : World) (a : Act) (g1 g2 : Nat) (u1 u2 : Value) (s1 s2 : Bool) (la1 lb1 la2 lb2 : List Nat) (ha : a.tmps.size = 93) (hg1 : g1 < w0.heap.size) (hg2 : g2 < w0.heap.size) (hp : ∀ (d : Nat) v c b w, Q (.panic c) (Act.put b (some d) v) w → Q (.panic c) b w)
  (h1 : ∀ X, TwoB g1 g2 u1 u2 s1 s2 la1 lb1 la2 lb2 X → Calls Tryz.prog 12 #[u1] X (OwnP s1 la1 lb1 X)) (h2 : ∀ X, TwoB g1 g2 u1 u2 s1 s2 la1 lb1 la2 lb2 X → Calls Tryz.prog 12 #[u2] X (OwnP s2 la2 lb2 X))
  (hQ : ∀ (w : World) (x1 x2 : Nat) (v1 v2 : Value), Below w0.heap.size w0 w → TwoB g1 g2 u1 u2 s1 s2 la1 lb1 la2 lb2 w → RB w x1 v1 s1 la1 lb1 → RB w x2 v2 s2 la2 lb2 → Q .normal (wpP3 v2 (wpP1 v1 (wpP5 x2 (wpP4 x1 (sqP u1 u2 a))))) w)
include ha hg1 hg2 hp h1 h2 hQ
set_option maxHeartbeats 4000000 in
theorem stP211 (w : World) (x1 x2 : Nat) (v1 v2 : Value) (hS : TwoB g1 g2 u1 u2 s1 s2 la1 lb1 la2 lb2 w) (hb : Below w0.heap.size w0 w) (r1 : ResZ x1 w) (k1 : w0.heap.size ≤ x1) (r2 : ResZ x2 w) (k2 : w0.heap.size ≤ x2) (n12 : x1 ≠ x2) (f1 : Rc w v1 s1 la1 lb1) (f2 : Rc w v2 s2 la2 lb2) :
    wpAnyH Tryz.prog .any opsP Q (TwoB g1 g2 u1 u2 s1 s2 la1 lb1 la2 lb2) 2 #[true, true, true, true, true, true, false, false] (wpP3 v2 (wpP1 v1 (wpP5 x2 (wpP4 x1 (sqP u1 u2 a))))) w := by
  have _hp := hp
  have _u2 := h1
  have _u3 := h2
  have _u4 := hg1
  have _u5 := hg2
  obtain ⟨A1, c1, B1, d1, rfl⟩ := f1.open
  obtain ⟨A2, c2, B2, d2, rfl⟩ := f2.open
  obtain ⟨W1, hW1⟩ : ∃ W, W = ((w.setCell ⟨x1, 0, none⟩ (.bool s1)).setCell ⟨x1, 1, none⟩ (.slice A1 la1.length c1)).setCell ⟨x1, 2, none⟩ (.slice B1 lb1.length d1) := ⟨_, rfl⟩
  have hS1 : TwoB g1 g2 u1 u2 s1 s2 la1 lb1 la2 lb2 W1 := by subst hW1; exact hS.store3 r1 (by omega) (by omega) _ _ _
  refine wpAnyH_ready (rs := [6]) (by kernel_rfl) (by simp) (rdyP6 (by simp [wpP4, wpP5, wpP1, wpP3, sqP, eval_put, put_size, ha]) (by simp [wpP4, wpP5, wpP1, wpP3, sqP, eval_put, put_size, ha]) r1 hW1 hS1 ?_)
  have hb1 : Below w0.heap.size w0 W1 := by subst hW1; exact below_store3 hb k1 _ _ _
  have b1 : RB W1 x1 (.agg #[.bool s1, .slice A1 la1.length c1, .slice B1 lb1.length d1]) s1 la1 lb1 := by subst hW1; exact RB.storeS f1 r1.rt
  replace f2 : Rc W1 (.agg #[.bool s2, .slice A2 la2.length c2, .slice B2 lb2.length d2]) s2 la2 lb2 := by subst hW1; exact f2.storeZ r1.rt _ _ _
  replace r2 : ResZ x2 W1 := by subst hW1; exact resz_keep r2 (by omega) _ _ _
  clear hW1
  obtain ⟨W2, hW2⟩ : ∃ W, W = ((W1.setCell ⟨x2, 0, none⟩ (.bool s2)).setCell ⟨x2, 1, none⟩ (.slice A2 la2.length c2)).setCell ⟨x2, 2, none⟩ (.slice B2 lb2.length d2) := ⟨_, rfl⟩
  have hS2 : TwoB g1 g2 u1 u2 s1 s2 la1 lb1 la2 lb2 W2 := by subst hW2; exact hS1.store3 r2 (by omega) (by omega) _ _ _
  refine wpAnyH_ready (rs := [7]) (by kernel_rfl) (by simp) (rdyP7 (by simp [wpP4, wpP5, wpP1, wpP3, sqP, eval_put, put_size, ha]) (by simp [wpP4, wpP5, wpP1, wpP3, sqP, eval_put, put_size, ha]) r2 hW2 hS2 ?_)
  have hb2 : Below w0.heap.size w0 W2 := by subst hW2; exact below_store3 hb1 k2 _ _ _
  have b2 : RB W2 x2 (.agg #[.bool s2, .slice A2 la2.length c2, .slice B2 lb2.length d2]) s2 la2 lb2 := by subst hW2; exact RB.storeS f2 r2.rt
  replace b1 : RB W2 x1 (.agg #[.bool s1, .slice A1 la1.length c1, .slice B1 lb1.length d1]) s1 la1 lb1 := by subst hW2; exact b1.storeO r2.rt (by omega) _ _ _
  clear hW2
  exact wpAnyH_done (by kernel_rfl) (hQ _ _ _ _ _ hb2 hS2 b1 b2) _
theorem stP111 (w : World) (x1 x2 : Nat) (v1 : Value) (hS : TwoB g1 g2 u1 u2 s1 s2 la1 lb1 la2 lb2 w) (hb : Below w0.heap.size w0 w) (r1 : ResZ x1 w) (k1 : w0.heap.size ≤ x1) (r2 : ResZ x2 w) (k2 : w0.heap.size ≤ x2) (n12 : x1 ≠ x2) (f1 : Rc w v1 s1 la1 lb1) :
    wpAnyH Tryz.prog .any opsP Q (TwoB g1 g2 u1 u2 s1 s2 la1 lb1 la2 lb2) 3 #[true, true, true, false, true, true, false, false] (wpP1 v1 (wpP5 x2 (wpP4 x1 (sqP u1 u2 a)))) w := by
  have _hp := hp
  have _u2 := h1
  have _u3 := h2
  have _u4 := hg1
  have _u5 := hg2
  refine wpAnyH_ready (rs := [3]) (by kernel_rfl) (by simp) (AllReadyH.cons rfl (fun K hK => ?_) AllReadyH.nil)
  · refine stpP3 (by simp [wpP4, wpP5, wpP1, wpP3, sqP, eval_put, put_size, ha]) (h2 w hS) (fun v2 w' hv hb' => ?_)
    refine hK.out _ _ (hS.on hb') (fun _ => ?_)
    change wpAnyH _ _ _ _ _ _ _ (wpP3 v2 (wpP1 v1 (wpP5 x2 (wpP4 x1 (sqP u1 u2 a))))) _
    exact stP211 Q w0 a g1 g2 u1 u2 s1 s2 la1 lb1 la2 lb2 ha hg1 hg2 hp h1 h2 hQ w' x1 x2 v1 v2 (hS.on hb') (below_join hb hb' hb.size) (r1.on hb' r1.lt) k1 (r2.on hb' r2.lt) k2 n12 (f1.on hb') hv
theorem stP201 (w : World) (x2 : Nat) (v1 v2 : Value) (hS : TwoB g1 g2 u1 u2 s1 s2 la1 lb1 la2 lb2 w) (hb : Below w0.heap.size w0 w) (r2 : ResZ x2 w) (k2 : w0.heap.size ≤ x2) (f1 : Rc w v1 s1 la1 lb1) (f2 : Rc w v2 s2 la2 lb2) :
    wpAnyH Tryz.prog .any opsP Q (TwoB g1 g2 u1 u2 s1 s2 la1 lb1 la2 lb2) 3 #[true, true, true, true, false, true, false, false] (wpP3 v2 (wpP1 v1 (wpP5 x2 (sqP u1 u2 a)))) w := by
  have _hp := hp
  have _u2 := h1
  have _u3 := h2
  have _u4 := hg1
  have _u5 := hg2
  refine wpAnyH_ready (rs := [4]) (by kernel_rfl) (by simp) (AllReadyH.cons rfl (fun K hK => ?_) AllReadyH.nil)
  · refine stpP4 ?_
    refine hK.out _ _ (hS.on (alloc_below w _)) (fun _ => ?_)
    change wpAnyH _ _ _ _ _ _ _ (wpP4 w.heap.size (wpP3 v2 (wpP1 v1 (wpP5 x2 (sqP u1 u2 a))))) _
    rw [wsP4_3, wsP4_1, wsP4_5]
    exact stP211 Q w0 a g1 g2 u1 u2 s1 s2 la1 lb1 la2 lb2 ha hg1 hg2 hp h1 h2 hQ (w.alloc (.cells #[.bool false, .slice none 0 0, .slice none 0 0] 25)) w.heap.size x2 v1 v2 (hS.on (alloc_below w _)) (below_join hb (alloc_below w _) hb.size) (resz_mk w) hb.size (r2.on (alloc_below w _) r2.lt) k2 (Nat.ne_of_gt r2.lt) (f1.on (alloc_below w _)) (f2.on (alloc_below w _))
theorem stP210 (w : World) (x1 : Nat) (v1 v2 : Value) (hS : TwoB g1 g2 u1 u2 s1 s2 la1 lb1 la2 lb2 w) (hb : Below w0.heap.size w0 w) (r1 : ResZ x1 w) (k1 : w0.heap.size ≤ x1) (f1 : Rc w v1 s1 la1 lb1) (f2 : Rc w v2 s2 la2 lb2) :
    wpAnyH Tryz.prog .any opsP Q (TwoB g1 g2 u1 u2 s1 s2 la1 lb1 la2 lb2) 3 #[true, true, true, true, true, false, false, false] (wpP3 v2 (wpP1 v1 (wpP4 x1 (sqP u1 u2 a)))) w := by
  have _hp := hp
  have _u2 := h1
  have _u3 := h2
  have _u4 := hg1
  have _u5 := hg2
  refine wpAnyH_ready (rs := [5]) (by kernel_rfl) (by simp) (AllReadyH.cons rfl (fun K hK => ?_) AllReadyH.nil)
  · refine stpP5 ?_
    refine hK.out _ _ (hS.on (alloc_below w _)) (fun _ => ?_)
    change wpAnyH _ _ _ _ _ _ _ (wpP5 w.heap.size (wpP3 v2 (wpP1 v1 (wpP4 x1 (sqP u1 u2 a))))) _
    rw [wsP5_3, wsP5_1]
    exact stP211 Q w0 a g1 g2 u1 u2 s1 s2 la1 lb1 la2 lb2 ha hg1 hg2 hp h1 h2 hQ (w.alloc (.cells #[.bool false, .slice none 0 0, .slice none 0 0] 25)) x1 w.heap.size v1 v2 (hS.on (alloc_below w _)) (below_join hb (alloc_below w _) hb.size) (r1.on (alloc_below w _) r1.lt) k1 (resz_mk w) hb.size (Nat.ne_of_lt r1.lt) (f1.on (alloc_below w _)) (f2.on (alloc_below w _))
theorem stP011 (w : World) (x1 x2 : Nat) (hS : TwoB g1 g2 u1 u2 s1 s2 la1 lb1 la2 lb2 w) (hb : Below w0.heap.size w0 w) (r1 : ResZ x1 w) (k1 : w0.heap.size ≤ x1) (r2 : ResZ x2 w) (k2 : w0.heap.size ≤ x2) (n12 : x1 ≠ x2) :
    wpAnyH Tryz.prog .any opsP Q (TwoB g1 g2 u1 u2 s1 s2 la1 lb1 la2 lb2) 4 #[true, false, true, false, true, true, false, false] (wpP5 x2 (wpP4 x1 (sqP u1 u2 a))) w := by
  have _hp := hp
  have _u2 := h1
  have _u3 := h2
  have _u4 := hg1
  have _u5 := hg2
  refine wpAnyH_ready (rs := [1]) (by kernel_rfl) (by simp) (AllReadyH.cons rfl (fun K hK => ?_) AllReadyH.nil)
  · refine stpP1 (by simp [wpP4, wpP5, wpP1, wpP3, sqP, eval_put, put_size, ha]) (h1 w hS) (fun v1 w' hv hb' => ?_)
    refine hK.out _ _ (hS.on hb') (fun _ => ?_)
    change wpAnyH _ _ _ _ _ _ _ (wpP1 v1 (wpP5 x2 (wpP4 x1 (sqP u1 u2 a)))) _
    exact stP111 Q w0 a g1 g2 u1 u2 s1 s2 la1 lb1 la2 lb2 ha hg1 hg2 hp h1 h2 hQ w' x1 x2 v1 (hS.on hb') (below_join hb hb' hb.size) (r1.on hb' r1.lt) k1 (r2.on hb' r2.lt) k2 n12 hv
theorem stP101 (w : World) (x2 : Nat) (v1 : Value) (hS : TwoB g1 g2 u1 u2 s1 s2 la1 lb1 la2 lb2 w) (hb : Below w0.heap.size w0 w) (r2 : ResZ x2 w) (k2 : w0.heap.size ≤ x2) (f1 : Rc w v1 s1 la1 lb1) :
    wpAnyH Tryz.prog .any opsP Q (TwoB g1 g2 u1 u2 s1 s2 la1 lb1 la2 lb2) 4 #[true, true, true, false, false, true, false, false] (wpP1 v1 (wpP5 x2 (sqP u1 u2 a))) w := by
  have _hp := hp
  have _u2 := h1
  have _u3 := h2
  have _u4 := hg1
  have _u5 := hg2
  refine wpAnyH_ready (rs := [3, 4]) (by kernel_rfl) (by simp) (AllReadyH.cons rfl (fun K hK => ?_) (AllReadyH.cons rfl (fun K hK => ?_) AllReadyH.nil))
  · refine stpP3 (by simp [wpP4, wpP5, wpP1, wpP3, sqP, eval_put, put_size, ha]) (h2 w hS) (fun v2 w' hv hb' => ?_)
    refine hK.out _ _ (hS.on hb') (fun _ => ?_)
    change wpAnyH _ _ _ _ _ _ _ (wpP3 v2 (wpP1 v1 (wpP5 x2 (sqP u1 u2 a)))) _
    exact stP201 Q w0 a g1 g2 u1 u2 s1 s2 la1 lb1 la2 lb2 ha hg1 hg2 hp h1 h2 hQ w' x2 v1 v2 (hS.on hb') (below_join hb hb' hb.size) (r2.on hb' r2.lt) k2 (f1.on hb') hv
  · refine stpP4 ?_
    refine hK.out _ _ (hS.on (alloc_below w _)) (fun _ => ?_)
    change wpAnyH _ _ _ _ _ _ _ (wpP4 w.heap.size (wpP1 v1 (wpP5 x2 (sqP u1 u2 a)))) _
    rw [wsP4_1, wsP4_5]
    exact stP111 Q w0 a g1 g2 u1 u2 s1 s2 la1 lb1 la2 lb2 ha hg1 hg2 hp h1 h2 hQ (w.alloc (.cells #[.bool false, .slice none 0 0, .slice none 0 0] 25)) w.heap.size x2 v1 (hS.on (alloc_below w _)) (below_join hb (alloc_below w _) hb.size) (resz_mk w) hb.size (r2.on (alloc_below w _) r2.lt) k2 (Nat.ne_of_gt r2.lt) (f1.on (alloc_below w _))
theorem stP110 (w : World) (x1 : Nat) (v1 : Value) (hS : TwoB g1 g2 u1 u2 s1 s2 la1 lb1 la2 lb2 w) (hb : Below w0.heap.size w0 w) (r1 : ResZ x1 w) (k1 : w0.heap.size ≤ x1) (f1 : Rc w v1 s1 la1 lb1) :
    wpAnyH Tryz.prog .any opsP Q (TwoB g1 g2 u1 u2 s1 s2 la1 lb1 la2 lb2) 4 #[true, true, true, false, true, false, false, false] (wpP1 v1 (wpP4 x1 (sqP u1 u2 a))) w := by
  have _hp := hp
  have _u2 := h1
  have _u3 := h2
  have _u4 := hg1
  have _u5 := hg2
  refine wpAnyH_ready (rs := [3, 5]) (by kernel_rfl) (by simp) (AllReadyH.cons rfl (fun K hK => ?_) (AllReadyH.cons rfl (fun K hK => ?_) AllReadyH.nil))
  · refine stpP3 (by simp [wpP4, wpP5, wpP1, wpP3, sqP, eval_put, put_size, ha]) (h2 w hS) (fun v2 w' hv hb' => ?_)
    refine hK.out _ _ (hS.on hb') (fun _ => ?_)
    change wpAnyH _ _ _ _ _ _ _ (wpP3 v2 (wpP1 v1 (wpP4 x1 (sqP u1 u2 a)))) _
    exact stP210 Q w0 a g1 g2 u1 u2 s1 s2 la1 lb1 la2 lb2 ha hg1 hg2 hp h1 h2 hQ w' x1 v1 v2 (hS.on hb') (below_join hb hb' hb.size) (r1.on hb' r1.lt) k1 (f1.on hb') hv
  · refine stpP5 ?_
    refine hK.out _ _ (hS.on (alloc_below w _)) (fun _ => ?_)
    change wpAnyH _ _ _ _ _ _ _ (wpP5 w.heap.size (wpP1 v1 (wpP4 x1 (sqP u1 u2 a)))) _
    rw [wsP5_1]
    exact stP111 Q w0 a g1 g2 u1 u2 s1 s2 la1 lb1 la2 lb2 ha hg1 hg2 hp h1 h2 hQ (w.alloc (.cells #[.bool false, .slice none 0 0, .slice none 0 0] 25)) x1 w.heap.size v1 (hS.on (alloc_below w _)) (below_join hb (alloc_below w _) hb.size) (r1.on (alloc_below w _) r1.lt) k1 (resz_mk w) hb.size (Nat.ne_of_lt r1.lt) (f1.on (alloc_below w _))
theorem stP200 (w : World) (v1 v2 : Value) (hS : TwoB g1 g2 u1 u2 s1 s2 la1 lb1 la2 lb2 w) (hb : Below w0.heap.size w0 w) (f1 : Rc w v1 s1 la1 lb1) (f2 : Rc w v2 s2 la2 lb2) :
    wpAnyH Tryz.prog .any opsP Q (TwoB g1 g2 u1 u2 s1 s2 la1 lb1 la2 lb2) 4 #[true, true, true, true, false, false, false, false] (wpP3 v2 (wpP1 v1 (sqP u1 u2 a))) w := by
  have _hp := hp
  have _u2 := h1
  have _u3 := h2
  have _u4 := hg1
  have _u5 := hg2
  refine wpAnyH_ready (rs := [4, 5]) (by kernel_rfl) (by simp) (AllReadyH.cons rfl (fun K hK => ?_) (AllReadyH.cons rfl (fun K hK => ?_) AllReadyH.nil))
  · refine stpP4 ?_
    refine hK.out _ _ (hS.on (alloc_below w _)) (fun _ => ?_)
    change wpAnyH _ _ _ _ _ _ _ (wpP4 w.heap.size (wpP3 v2 (wpP1 v1 (sqP u1 u2 a)))) _
    rw [wsP4_3, wsP4_1]
    exact stP210 Q w0 a g1 g2 u1 u2 s1 s2 la1 lb1 la2 lb2 ha hg1 hg2 hp h1 h2 hQ (w.alloc (.cells #[.bool false, .slice none 0 0, .slice none 0 0] 25)) w.heap.size v1 v2 (hS.on (alloc_below w _)) (below_join hb (alloc_below w _) hb.size) (resz_mk w) hb.size (f1.on (alloc_below w _)) (f2.on (alloc_below w _))
  · refine stpP5 ?_
    refine hK.out _ _ (hS.on (alloc_below w _)) (fun _ => ?_)
    change wpAnyH _ _ _ _ _ _ _ (wpP5 w.heap.size (wpP3 v2 (wpP1 v1 (sqP u1 u2 a)))) _
    rw [wsP5_3, wsP5_1]
    exact stP201 Q w0 a g1 g2 u1 u2 s1 s2 la1 lb1 la2 lb2 ha hg1 hg2 hp h1 h2 hQ (w.alloc (.cells #[.bool false, .slice none 0 0, .slice none 0 0] 25)) w.heap.size v1 v2 (hS.on (alloc_below w _)) (below_join hb (alloc_below w _) hb.size) (resz_mk w) hb.size (f1.on (alloc_below w _)) (f2.on (alloc_below w _))
theorem stP001 (w : World) (x2 : Nat) (hS : TwoB g1 g2 u1 u2 s1 s2 la1 lb1 la2 lb2 w) (hb : Below w0.heap.size w0 w) (r2 : ResZ x2 w) (k2 : w0.heap.size ≤ x2) :
    wpAnyH Tryz.prog .any opsP Q (TwoB g1 g2 u1 u2 s1 s2 la1 lb1 la2 lb2) 5 #[true, false, true, false, false, true, false, false] (wpP5 x2 (sqP u1 u2 a)) w := by
  have _hp := hp
  have _u2 := h1
  have _u3 := h2
  have _u4 := hg1
  have _u5 := hg2
  refine wpAnyH_ready (rs := [1, 4]) (by kernel_rfl) (by simp) (AllReadyH.cons rfl (fun K hK => ?_) (AllReadyH.cons rfl (fun K hK => ?_) AllReadyH.nil))
  · refine stpP1 (by simp [wpP4, wpP5, wpP1, wpP3, sqP, eval_put, put_size, ha]) (h1 w hS) (fun v1 w' hv hb' => ?_)
    refine hK.out _ _ (hS.on hb') (fun _ => ?_)
    change wpAnyH _ _ _ _ _ _ _ (wpP1 v1 (wpP5 x2 (sqP u1 u2 a))) _
    exact stP101 Q w0 a g1 g2 u1 u2 s1 s2 la1 lb1 la2 lb2 ha hg1 hg2 hp h1 h2 hQ w' x2 v1 (hS.on hb') (below_join hb hb' hb.size) (r2.on hb' r2.lt) k2 hv
  · refine stpP4 ?_
    refine hK.out _ _ (hS.on (alloc_below w _)) (fun _ => ?_)
    change wpAnyH _ _ _ _ _ _ _ (wpP4 w.heap.size (wpP5 x2 (sqP u1 u2 a))) _
    rw [wsP4_5]
    exact stP011 Q w0 a g1 g2 u1 u2 s1 s2 la1 lb1 la2 lb2 ha hg1 hg2 hp h1 h2 hQ (w.alloc (.cells #[.bool false, .slice none 0 0, .slice none 0 0] 25)) w.heap.size x2  (hS.on (alloc_below w _)) (below_join hb (alloc_below w _) hb.size) (resz_mk w) hb.size (r2.on (alloc_below w _) r2.lt) k2 (Nat.ne_of_gt r2.lt)
theorem stP010 (w : World) (x1 : Nat) (hS : TwoB g1 g2 u1 u2 s1 s2 la1 lb1 la2 lb2 w) (hb : Below w0.heap.size w0 w) (r1 : ResZ x1 w) (k1 : w0.heap.size ≤ x1) :
    wpAnyH Tryz.prog .any opsP Q (TwoB g1 g2 u1 u2 s1 s2 la1 lb1 la2 lb2) 5 #[true, false, true, false, true, false, false, false] (wpP4 x1 (sqP u1 u2 a)) w := by
  have _hp := hp
  have _u2 := h1
  have _u3 := h2
  have _u4 := hg1
  have _u5 := hg2
  refine wpAnyH_ready (rs := [1, 5]) (by kernel_rfl) (by simp) (AllReadyH.cons rfl (fun K hK => ?_) (AllReadyH.cons rfl (fun K hK => ?_) AllReadyH.nil))
  · refine stpP1 (by simp [wpP4, wpP5, wpP1, wpP3, sqP, eval_put, put_size, ha]) (h1 w hS) (fun v1 w' hv hb' => ?_)
    refine hK.out _ _ (hS.on hb') (fun _ => ?_)
    change wpAnyH _ _ _ _ _ _ _ (wpP1 v1 (wpP4 x1 (sqP u1 u2 a))) _
    exact stP110 Q w0 a g1 g2 u1 u2 s1 s2 la1 lb1 la2 lb2 ha hg1 hg2 hp h1 h2 hQ w' x1 v1 (hS.on hb') (below_join hb hb' hb.size) (r1.on hb' r1.lt) k1 hv
  · refine stpP5 ?_
    refine hK.out _ _ (hS.on (alloc_below w _)) (fun _ => ?_)
    change wpAnyH _ _ _ _ _ _ _ (wpP5 w.heap.size (wpP4 x1 (sqP u1 u2 a))) _
    exact stP011 Q w0 a g1 g2 u1 u2 s1 s2 la1 lb1 la2 lb2 ha hg1 hg2 hp h1 h2 hQ (w.alloc (.cells #[.bool false, .slice none 0 0, .slice none 0 0] 25)) x1 w.heap.size  (hS.on (alloc_below w _)) (below_join hb (alloc_below w _) hb.size) (r1.on (alloc_below w _) r1.lt) k1 (resz_mk w) hb.size (Nat.ne_of_lt r1.lt)
theorem stP100 (w : World) (v1 : Value) (hS : TwoB g1 g2 u1 u2 s1 s2 la1 lb1 la2 lb2 w) (hb : Below w0.heap.size w0 w) (f1 : Rc w v1 s1 la1 lb1) :
    wpAnyH Tryz.prog .any opsP Q (TwoB g1 g2 u1 u2 s1 s2 la1 lb1 la2 lb2) 5 #[true, true, true, false, false, false, false, false] (wpP1 v1 (sqP u1 u2 a)) w := by
  have _hp := hp
  have _u2 := h1
  have _u3 := h2
  have _u4 := hg1
  have _u5 := hg2
  refine wpAnyH_ready (rs := [3, 4, 5]) (by kernel_rfl) (by simp) (AllReadyH.cons rfl (fun K hK => ?_) (AllReadyH.cons rfl (fun K hK => ?_) (AllReadyH.cons rfl (fun K hK => ?_) AllReadyH.nil)))
  · refine stpP3 (by simp [wpP4, wpP5, wpP1, wpP3, sqP, eval_put, put_size, ha]) (h2 w hS) (fun v2 w' hv hb' => ?_)
    refine hK.out _ _ (hS.on hb') (fun _ => ?_)
    change wpAnyH _ _ _ _ _ _ _ (wpP3 v2 (wpP1 v1 (sqP u1 u2 a))) _
    exact stP200 Q w0 a g1 g2 u1 u2 s1 s2 la1 lb1 la2 lb2 ha hg1 hg2 hp h1 h2 hQ w'  v1 v2 (hS.on hb') (below_join hb hb' hb.size) (f1.on hb') hv
  · refine stpP4 ?_
    refine hK.out _ _ (hS.on (alloc_below w _)) (fun _ => ?_)
    change wpAnyH _ _ _ _ _ _ _ (wpP4 w.heap.size (wpP1 v1 (sqP u1 u2 a))) _
    rw [wsP4_1]
    exact stP110 Q w0 a g1 g2 u1 u2 s1 s2 la1 lb1 la2 lb2 ha hg1 hg2 hp h1 h2 hQ (w.alloc (.cells #[.bool false, .slice none 0 0, .slice none 0 0] 25)) w.heap.size v1 (hS.on (alloc_below w _)) (below_join hb (alloc_below w _) hb.size) (resz_mk w) hb.size (f1.on (alloc_below w _))
  · refine stpP5 ?_
    refine hK.out _ _ (hS.on (alloc_below w _)) (fun _ => ?_)
    change wpAnyH _ _ _ _ _ _ _ (wpP5 w.heap.size (wpP1 v1 (sqP u1 u2 a))) _
    rw [wsP5_1]
    exact stP101 Q w0 a g1 g2 u1 u2 s1 s2 la1 lb1 la2 lb2 ha hg1 hg2 hp h1 h2 hQ (w.alloc (.cells #[.bool false, .slice none 0 0, .slice none 0 0] 25)) w.heap.size v1 (hS.on (alloc_below w _)) (below_join hb (alloc_below w _) hb.size) (resz_mk w) hb.size (f1.on (alloc_below w _))
theorem stP000 (w : World) (hS : TwoB g1 g2 u1 u2 s1 s2 la1 lb1 la2 lb2 w) (hb : Below w0.heap.size w0 w) :
    wpAnyH Tryz.prog .any opsP Q (TwoB g1 g2 u1 u2 s1 s2 la1 lb1 la2 lb2) 6 #[true, false, true, false, false, false, false, false] (sqP u1 u2 a) w := by
  have _hp := hp
  have _u2 := h1
  have _u3 := h2
  have _u4 := hg1
  have _u5 := hg2
  refine wpAnyH_ready (rs := [1, 4, 5]) (by kernel_rfl) (by simp) (AllReadyH.cons rfl (fun K hK => ?_) (AllReadyH.cons rfl (fun K hK => ?_) (AllReadyH.cons rfl (fun K hK => ?_) AllReadyH.nil)))
  · refine stpP1 (by simp [wpP4, wpP5, wpP1, wpP3, sqP, eval_put, put_size, ha]) (h1 w hS) (fun v1 w' hv hb' => ?_)
    refine hK.out _ _ (hS.on hb') (fun _ => ?_)
    change wpAnyH _ _ _ _ _ _ _ (wpP1 v1 (sqP u1 u2 a)) _
    exact stP100 Q w0 a g1 g2 u1 u2 s1 s2 la1 lb1 la2 lb2 ha hg1 hg2 hp h1 h2 hQ w'  v1 (hS.on hb') (below_join hb hb' hb.size) hv
  · refine stpP4 ?_
    refine hK.out _ _ (hS.on (alloc_below w _)) (fun _ => ?_)
    change wpAnyH _ _ _ _ _ _ _ (wpP4 w.heap.size (sqP u1 u2 a)) _
    exact stP010 Q w0 a g1 g2 u1 u2 s1 s2 la1 lb1 la2 lb2 ha hg1 hg2 hp h1 h2 hQ (w.alloc (.cells #[.bool false, .slice none 0 0, .slice none 0 0] 25)) w.heap.size  (hS.on (alloc_below w _)) (below_join hb (alloc_below w _) hb.size) (resz_mk w) hb.size
  · refine stpP5 ?_
    refine hK.out _ _ (hS.on (alloc_below w _)) (fun _ => ?_)
    change wpAnyH _ _ _ _ _ _ _ (wpP5 w.heap.size (sqP u1 u2 a)) _
    exact stP001 Q w0 a g1 g2 u1 u2 s1 s2 la1 lb1 la2 lb2 ha hg1 hg2 hp h1 h2 hQ (w.alloc (.cells #[.bool false, .slice none 0 0, .slice none 0 0] 25)) w.heap.size  (hS.on (alloc_below w _)) (below_join hb (alloc_below w _) hb.size) (resz_mk w) hb.size
end
theorem rgP (Q : Exit → Act → World → Prop) (w0 : World) (a : Act) (g1 g2 : Nat) (u1 u2 : Value) (s1 s2 : Bool) (la1 lb1 la2 lb2 : List Nat) (ha : a.tmps.size = 93) (e1 : a.eval (.tmp 2) = .pointer (some ⟨g1, 0, none⟩)) (e2 : a.eval (.tmp 3) = .pointer (some ⟨g2, 0, none⟩)) (hS : TwoB g1 g2 u1 u2 s1 s2 la1 lb1 la2 lb2 w0) (hp : ∀ (d : Nat) v c b w, Q (.panic c) (Act.put b (some d) v) w → Q (.panic c) b w)
  (h1 : ∀ X, TwoB g1 g2 u1 u2 s1 s2 la1 lb1 la2 lb2 X → Calls Tryz.prog 12 #[u1] X (OwnP s1 la1 lb1 X)) (h2 : ∀ X, TwoB g1 g2 u1 u2 s1 s2 la1 lb1 la2 lb2 X → Calls Tryz.prog 12 #[u2] X (OwnP s2 la2 lb2 X))
  (hQ : ∀ (w : World) (x1 x2 : Nat) (v1 v2 : Value), Below w0.heap.size w0 w → TwoB g1 g2 u1 u2 s1 s2 la1 lb1 la2 lb2 w → RB w x1 v1 s1 la1 lb1 → RB w x2 v2 s2 la2 lb2 → Q .normal (wpP3 v2 (wpP1 v1 (wpP5 x2 (wpP4 x1 (sqP u1 u2 a))))) w) :
    (Code.region 2 opsP true).wp Tryz.prog Q a w0 := by
  have hS' : TwoB g1 g2 u1 u2 s1 s2 la1 lb1 la2 lb2 w0.drew := hS.on (Below.refl _ _).drew
  refine wp_region_held (S := TwoB g1 g2 u1 u2 s1 s2 la1 lb1 la2 lb2) (by kernel_rfl) ?_
  refine wpAnyH_take (i := 0) rfl (by kernel_rfl) (by kernel_rfl) (by kernel_rfl) (fun c b w h => hp _ _ c b w h) (ylP0 e1) hS' ?_
  change wpAnyH _ _ _ _ _ _ _ (a.put (some 22) u1) _
  refine wpAnyH_take (i := 2) rfl (by kernel_rfl) (by kernel_rfl) (by kernel_rfl) (fun c b w h => hp _ _ c b w h) (ylP2 (g2 := g2) (by simp [eval_put, put_size, ha, e2])) hS' ?_
  change wpAnyH _ _ _ _ _ _ _ (sqP u1 u2 a) _
  exact stP000 Q w0 a g1 g2 u1 u2 s1 s2 la1 lb1 la2 lb2 ha hS.1.lt hS.2.lt hp h1 h2 hQ w0.drew hS' (Below.refl _ _).drew
end Go.Proofs.YtfdkdloldjfnjaaGreatDoor
