/-
  DERIVED. A difference whose second number is made in the same statement (RatioKnown): in whatever order. (Written by gen/genXA.py.)
-/
import Derived.Test.YtfdkdloldjfnjaaGreatDoorWF
set_option linter.unusedVariables false
set_option linter.unusedSimpArgs false
namespace Go.Proofs.YtfdkdloldjfnjaaGreatDoor
open Go.RowKit
set_option maxRecDepth 100000
set_option linter.unusedSimpArgs false
set_option linter.unusedVariables false

def OneB (g : Nat) (u : Value) (q : Rat) (X : World) : Prop := FB X g u q
theorem OneB.on {g : Nat} {u : Value} {q : Rat} {X Y : World} (h : OneB g u q X) (hb : Below X.heap.size X Y) : OneB g u q Y := by
  obtain ⟨va, vb, e, h⟩ := h
  exact ⟨va, vb, e, h.on hb⟩
theorem OneB.lt {g : Nat} {u : Value} {q : Rat} {X : World} (h : OneB g u q X) : g < X.heap.size := by
  obtain ⟨va, vb, e, h⟩ := h
  exact h.1.lt
def opsA5 : Array Oper := #[{ dst := some 47, op := Go.Op.load 25 (Go.Operand.tmp 5), type := 25, pos := "outright.go:195", after := #[], guard := none }, { dst := some 48, op := Go.Op.call { callee := Go.Callee.value (Go.Operand.func 42), args := #[Go.Operand.const (Go.Value.int Go.IntKind.i16 1), Go.Operand.const (Go.Value.int Go.IntKind.i16 1)], argTypes := #[45, 45] }, type := 25, pos := "outright.go:195", after := #[], guard := none }, { dst := some 49, op := Go.Op.call { callee := Go.Callee.value (Go.Operand.func 25), args := #[Go.Operand.tmp 47, Go.Operand.tmp 48], argTypes := #[25, 25] }, type := 28, pos := "outright.go:195", after := #[{ on := 0, ground := Go.Ground.data }, { on := 1, ground := Go.Ground.data }, { on := 1, ground := Go.Ground.chain }], guard := none }, { dst := some 46, op := Go.Op.move (Go.Operand.tmp 49), type := 28, pos := "outright.go:195", after := #[{ on := 2, ground := Go.Ground.data }], guard := none }, { dst := some 50, op := Go.Op.extract (Go.Operand.tmp 46) 0, type := 25, pos := "outright.go:195", after := #[{ on := 3, ground := Go.Ground.data }], guard := none }, { dst := some 51, op := Go.Op.extract (Go.Operand.tmp 46) 1, type := 27, pos := "outright.go:195", after := #[{ on := 3, ground := Go.Ground.data }, { on := 7, ground := Go.Ground.gcOnly Go.Departure.lateStores }], guard := none }, { dst := some 9, op := Go.Op.alloc 25, type := 0, pos := "outright.go:195", after := #[], guard := none }, { dst := none, op := Go.Op.store 25 (Go.Operand.tmp 9) (Go.Operand.tmp 50), type := 0, pos := "outright.go:195", after := #[{ on := 6, ground := Go.Ground.data }, { on := 4, ground := Go.Ground.data }, { on := 2, ground := Go.Ground.chain }, { on := 0, ground := Go.Ground.phase }, { on := 1, ground := Go.Ground.phase }, { on := 2, ground := Go.Ground.phase }, { on := 3, ground := Go.Ground.phase }, { on := 4, ground := Go.Ground.phase }, { on := 5, ground := Go.Ground.textOnly Go.Departure.lateStores }, { on := 6, ground := Go.Ground.phase }], guard := none }, { dst := some 10, op := Go.Op.assign (Go.Operand.tmp 51), type := 27, pos := "outright.go:195", after := #[{ on := 5, ground := Go.Ground.data }, { on := 7, ground := Go.Ground.chain }, { on := 0, ground := Go.Ground.phase }, { on := 1, ground := Go.Ground.phase }, { on := 2, ground := Go.Ground.phase }, { on := 3, ground := Go.Ground.phase }, { on := 4, ground := Go.Ground.phase }, { on := 5, ground := Go.Ground.phase }, { on := 6, ground := Go.Ground.phase }, { on := 7, ground := Go.Ground.phase }], guard := none }]
theorem stpA51 {Q : Exit → Act → World → Prop} {K : Act → World → Prop} {a : Act} {w : World} {r : Rat} (h : Calls Tryz.prog 42 #[.int .i16 1, .int .i16 1] w (SmallPost r w)) (hK : ∀ v w', Rv w' v r → Below w.heap.size w w' → K (a.put (some 48) v) w') :
    if Region.wanted ({ dst := some 48, op := Go.Op.call { callee := Go.Callee.value (Go.Operand.func 42), args := #[Go.Operand.const (Go.Value.int Go.IntKind.i16 1), Go.Operand.const (Go.Value.int Go.IntKind.i16 1)], argTypes := #[45, 45] }, type := 25, pos := "outright.go:195", after := #[], guard := none } : Oper) (yielded opsA5 a.tmps) = true then Oper.wp Tryz.prog ({ dst := some 48, op := Go.Op.call { callee := Go.Callee.value (Go.Operand.func 42), args := #[Go.Operand.const (Go.Value.int Go.IntKind.i16 1), Go.Operand.const (Go.Value.int Go.IntKind.i16 1)], argTypes := #[45, 45] }, type := 25, pos := "outright.go:195", after := #[], guard := none } : Oper) a w K Q else K (a.put (some 48) undef) w := by
  go_simp
  go_at_call 42
  refine h.mono ?_
  rintro e w' ⟨v, rfl, hv, hb⟩
  exact hK v w' hv hb
theorem stpA52 {Q : Exit → Act → World → Prop} {K : Act → World → Prop} {a : Act} {w : World} {u v : Value} {r : Rat} (e1 : a.eval (.tmp 47) = u) (e2 : a.eval (.tmp 48) = v) (h : Calls Tryz.prog 25 #[u, v] w (RatPost r w)) (hK : ∀ v w', Rv w' v r → Below w.heap.size w w' → K (a.put (some 49) (.tuple #[v, .int .i64 0])) w') :
    if Region.wanted ({ dst := some 49, op := Go.Op.call { callee := Go.Callee.value (Go.Operand.func 25), args := #[Go.Operand.tmp 47, Go.Operand.tmp 48], argTypes := #[25, 25] }, type := 28, pos := "outright.go:195", after := #[{ on := 0, ground := Go.Ground.data }, { on := 1, ground := Go.Ground.data }, { on := 1, ground := Go.Ground.chain }], guard := none } : Oper) (yielded opsA5 a.tmps) = true then Oper.wp Tryz.prog ({ dst := some 49, op := Go.Op.call { callee := Go.Callee.value (Go.Operand.func 25), args := #[Go.Operand.tmp 47, Go.Operand.tmp 48], argTypes := #[25, 25] }, type := 28, pos := "outright.go:195", after := #[{ on := 0, ground := Go.Ground.data }, { on := 1, ground := Go.Ground.data }, { on := 1, ground := Go.Ground.chain }], guard := none } : Oper) a w K Q else K (a.put (some 49) undef) w := by
  have g1 := ev_get e1
  have g2 := ev_get e2
  go_simp
  go_at_call 25
  refine h.mono ?_
  rintro e w' ⟨v, rfl, hv, hb⟩
  exact hK v w' hv hb
theorem stpA56 {Q : Exit → Act → World → Prop} {K : Act → World → Prop} {a : Act} {w : World} (hK : K (a.put (some 9) (.pointer (some ⟨w.heap.size, 0, none⟩))) (w.alloc (.cells #[.bool false, .slice none 0 0, .slice none 0 0] 25))) :
    if Region.wanted ({ dst := some 9, op := Go.Op.alloc 25, type := 0, pos := "outright.go:195", after := #[], guard := none } : Oper) (yielded opsA5 a.tmps) = true then Oper.wp Tryz.prog ({ dst := some 9, op := Go.Op.alloc 25, type := 0, pos := "outright.go:195", after := #[], guard := none } : Oper) a w K Q else K (a.put (some 9) undef) w := by
  go_simp
  exact hK
theorem stpA57 {Q : Exit → Act → World → Prop} {K : Act → World → Prop} {a : Act} {w : World} {x : Nat} {s : Bool} {A : Option Addr} {m c : Nat} {B : Option Addr} {k d : Nat} (e1 : a.eval (.tmp 9) = .pointer (some ⟨x, 0, none⟩)) (e2 : a.eval (.tmp 50) = .agg #[.bool s, .slice A m c, .slice B k d]) (h : ResZ x w)
    (hK : K a (((w.setCell ⟨x, 0, none⟩ (.bool s)).setCell ⟨x, 1, none⟩ (.slice A m c)).setCell ⟨x, 2, none⟩ (.slice B k d))) :
    if Region.wanted ({ dst := none, op := Go.Op.store 25 (Go.Operand.tmp 9) (Go.Operand.tmp 50), type := 0, pos := "outright.go:195", after := #[{ on := 6, ground := Go.Ground.data }, { on := 4, ground := Go.Ground.data }, { on := 2, ground := Go.Ground.chain }, { on := 0, ground := Go.Ground.phase }, { on := 1, ground := Go.Ground.phase }, { on := 2, ground := Go.Ground.phase }, { on := 3, ground := Go.Ground.phase }, { on := 4, ground := Go.Ground.phase }, { on := 5, ground := Go.Ground.textOnly Go.Departure.lateStores }, { on := 6, ground := Go.Ground.phase }], guard := none } : Oper) (yielded opsA5 a.tmps) = true then Oper.wp Tryz.prog ({ dst := none, op := Go.Op.store 25 (Go.Operand.tmp 9) (Go.Operand.tmp 50), type := 0, pos := "outright.go:195", after := #[{ on := 6, ground := Go.Ground.data }, { on := 4, ground := Go.Ground.data }, { on := 2, ground := Go.Ground.chain }, { on := 0, ground := Go.Ground.phase }, { on := 1, ground := Go.Ground.phase }, { on := 2, ground := Go.Ground.phase }, { on := 3, ground := Go.Ground.phase }, { on := 4, ground := Go.Ground.phase }, { on := 5, ground := Go.Ground.textOnly Go.Departure.lateStores }, { on := 6, ground := Go.Ground.phase }], guard := none } : Oper) a w K Q else K (a.put none undef) w := by
  have g1 := ev_get e1
  have g2 := ev_get e2
  obtain ⟨c0, c1, c2⟩ := Rt.cells h
  obtain ⟨f0, f1, f2⟩ := Rt.frozen h
  go_simp
  exact hK
theorem atA57 : opsA5[7]? = some { dst := none, op := Go.Op.store 25 (Go.Operand.tmp 9) (Go.Operand.tmp 50), type := 0, pos := "outright.go:195", after := #[{ on := 6, ground := Go.Ground.data }, { on := 4, ground := Go.Ground.data }, { on := 2, ground := Go.Ground.chain }, { on := 0, ground := Go.Ground.phase }, { on := 1, ground := Go.Ground.phase }, { on := 2, ground := Go.Ground.phase }, { on := 3, ground := Go.Ground.phase }, { on := 4, ground := Go.Ground.phase }, { on := 5, ground := Go.Ground.textOnly Go.Departure.lateStores }, { on := 6, ground := Go.Ground.phase }], guard := none } := rfl
theorem rdyA57 {Q : Exit → Act → World → Prop} {S : World → Prop} {fuel : Nat} {listed : Array Bool} {a : Act} {w W : World} {x : Nat} {s : Bool} {A : Option Addr} {m c : Nat} {B : Option Addr} {k d : Nat} (e1 : a.eval (.tmp 9) = .pointer (some ⟨x, 0, none⟩)) (e2 : a.eval (.tmp 50) = .agg #[.bool s, .slice A m c, .slice B k d]) (h : ResZ x w)
    (hW : W = ((w.setCell ⟨x, 0, none⟩ (.bool s)).setCell ⟨x, 1, none⟩ (.slice A m c)).setCell ⟨x, 2, none⟩ (.slice B k d)) (hS : S W) (hK : wpAnyH Tryz.prog .any opsA5 Q S fuel (listed.setIfInBounds 7 true) a W) : AllReadyH Tryz.prog .any opsA5 Q S fuel listed a w [7] :=
  AllReadyH.cons atA57 (fun K hK' => stpA57 e1 e2 h (by rw [← hW]; exact hK'.out _ _ hS (fun _ => hK))) AllReadyH.nil
theorem stpA58 {Q : Exit → Act → World → Prop} {K : Act → World → Prop} {a : Act} {w : World} {v : Value} (h : a.eval (.tmp 51) = v) (hK : K (a.put (some 10) v) w) :
    if Region.wanted ({ dst := some 10, op := Go.Op.assign (Go.Operand.tmp 51), type := 27, pos := "outright.go:195", after := #[{ on := 5, ground := Go.Ground.data }, { on := 7, ground := Go.Ground.chain }, { on := 0, ground := Go.Ground.phase }, { on := 1, ground := Go.Ground.phase }, { on := 2, ground := Go.Ground.phase }, { on := 3, ground := Go.Ground.phase }, { on := 4, ground := Go.Ground.phase }, { on := 5, ground := Go.Ground.phase }, { on := 6, ground := Go.Ground.phase }, { on := 7, ground := Go.Ground.phase }], guard := none } : Oper) (yielded opsA5 a.tmps) = true then Oper.wp Tryz.prog ({ dst := some 10, op := Go.Op.assign (Go.Operand.tmp 51), type := 27, pos := "outright.go:195", after := #[{ on := 5, ground := Go.Ground.data }, { on := 7, ground := Go.Ground.chain }, { on := 0, ground := Go.Ground.phase }, { on := 1, ground := Go.Ground.phase }, { on := 2, ground := Go.Ground.phase }, { on := 3, ground := Go.Ground.phase }, { on := 4, ground := Go.Ground.phase }, { on := 5, ground := Go.Ground.phase }, { on := 6, ground := Go.Ground.phase }, { on := 7, ground := Go.Ground.phase }], guard := none } : Oper) a w K Q else K (a.put (some 10) undef) w := by
  have h' := ev_get h
  go_simp
  exact hK
theorem atA58 : opsA5[8]? = some { dst := some 10, op := Go.Op.assign (Go.Operand.tmp 51), type := 27, pos := "outright.go:195", after := #[{ on := 5, ground := Go.Ground.data }, { on := 7, ground := Go.Ground.chain }, { on := 0, ground := Go.Ground.phase }, { on := 1, ground := Go.Ground.phase }, { on := 2, ground := Go.Ground.phase }, { on := 3, ground := Go.Ground.phase }, { on := 4, ground := Go.Ground.phase }, { on := 5, ground := Go.Ground.phase }, { on := 6, ground := Go.Ground.phase }, { on := 7, ground := Go.Ground.phase }], guard := none } := rfl
theorem rdyA58 {Q : Exit → Act → World → Prop} {S : World → Prop} {fuel : Nat} {listed : Array Bool} {a : Act} {w : World} {v : Value} (h : a.eval (.tmp 51) = v) (hS : S w) (hK : wpAnyH Tryz.prog .any opsA5 Q S fuel (listed.setIfInBounds 8 true) (a.put (some 10) v) w) : AllReadyH Tryz.prog .any opsA5 Q S fuel listed a w [8] :=
  AllReadyH.cons atA58 (fun K hK' => stpA58 h (hK'.out _ _ hS (fun _ => hK))) AllReadyH.nil
theorem ylA50 {a : Act} {g : Nat} {u : Value} {q : Rat} (e : a.eval (.tmp 5) = .pointer (some ⟨g, 0, none⟩)) : YieldsIf Tryz.prog opsA5 (OneB g u q) ({ dst := some 47, op := Go.Op.load 25 (Go.Operand.tmp 5), type := 25, pos := "outright.go:195", after := #[], guard := none } : Oper) u a := by
  have h1 := ev_get e
  refine Or.inl ⟨rfl, fun w hS => ?_⟩
  obtain ⟨va, vb, rfl, h⟩ := hS
  obtain ⟨c0, c1, c2⟩ := h.cells
  go_simp
theorem ylA53 {a : Act} {S : World → Prop} {v : Value} (e : a.eval (.tmp 49) = v) : YieldsIf Tryz.prog opsA5 S ({ dst := some 46, op := Go.Op.move (Go.Operand.tmp 49), type := 28, pos := "outright.go:195", after := #[{ on := 2, ground := Go.Ground.data }], guard := none } : Oper) v a := by
  have h1 := ev_get e
  refine Or.inl ⟨rfl, fun w hS => ?_⟩
  go_simp
theorem ylA54 {a : Act} {S : World → Prop} {v z : Value} (e : a.eval (.tmp 46) = .tuple #[v, z]) : YieldsIf Tryz.prog opsA5 S ({ dst := some 50, op := Go.Op.extract (Go.Operand.tmp 46) 0, type := 25, pos := "outright.go:195", after := #[{ on := 3, ground := Go.Ground.data }], guard := none } : Oper) v a := by
  have h1 := ev_get e
  refine Or.inl ⟨rfl, fun w hS => ?_⟩
  go_simp
theorem ylA55 {a : Act} {S : World → Prop} {v z : Value} (e : a.eval (.tmp 46) = .tuple #[v, z]) : YieldsIf Tryz.prog opsA5 S ({ dst := some 51, op := Go.Op.extract (Go.Operand.tmp 46) 1, type := 27, pos := "outright.go:195", after := #[{ on := 3, ground := Go.Ground.data }, { on := 7, ground := Go.Ground.gcOnly Go.Departure.lateStores }], guard := none } : Oper) z a := by
  have h1 := ev_get e
  refine Or.inl ⟨rfl, fun w hS => ?_⟩
  go_simp
def sqA5 (u : Value) (a : Act) : Act := a.put (some 47) u
def wpA56 (x : Nat) (a : Act) : Act := a.put (some 9) (.pointer (some ⟨x, 0, none⟩))
def wpA51 (v : Value) (a : Act) : Act := a.put (some 48) v
def wpA52 (v : Value) (a : Act) : Act := (((a.put (some 49) (.tuple #[v, .int .i64 0])).put (some 46) (.tuple #[v, .int .i64 0])).put (some 50) v).put (some 51) (.int .i64 0)
theorem wsA56_1 (x : Nat) (v : Value) (a : Act) : wpA56 x (wpA51 v a) = wpA51 v (wpA56 x a) := put_lt (by decide) _ _ _
theorem wsA56_2 (x : Nat) (v : Value) (a : Act) : wpA56 x (wpA52 v a) = wpA52 v (wpA56 x a) := by
  unfold wpA56 wpA52
  rw [put_lt (d := 51) (e := 9) (by decide), put_lt (d := 50) (e := 9) (by decide), put_lt (d := 46) (e := 9) (by decide), put_lt (d := 49) (e := 9) (by decide)]
section
variable (Q : Exit → Act → World → Prop) (w0 : World) (a : Act) (g : Nat) (u : Value) (q r : Rat) (ha : a.tmps.size = 349) (hg : g < w0.heap.size) (hp : ∀ (d : Nat) v c b w, Q (.panic c) (Act.put b (some d) v) w → Q (.panic c) b w)
  (h1 : ∀ X, Calls Tryz.prog 42 #[.int .i16 1, .int .i16 1] X (SmallPost (smq 1 1) X)) (h2 : ∀ X v, Below w0.heap.size w0 X → OneB g u q X → Rv X v (smq 1 1) → Calls Tryz.prog 25 #[u, v] X (RatPost r X))
  (hQ : ∀ (w : World) (x : Nat) (v1 v2 : Value), Below w0.heap.size w0 w → FB w x v2 r → Q .normal ((wpA52 v2 (wpA51 v1 (wpA56 x (sqA5 u a)))).put (some 10) (.int .i64 0)) w)
include ha hg hp h1 h2 hQ
set_option maxHeartbeats 2000000 in
theorem stA521 (w : World) (x : Nat) (v1 : Value) (v2 : Value) (hS : OneB g u q w) (hb : Below w0.heap.size w0 w) (rx : ResZ x w) (kx : w0.heap.size ≤ x) (f1 : Rv w v1 (smq 1 1)) (f2 : Rv w v2 r) :
    wpAnyH Tryz.prog .any opsA5 Q (OneB g u q) 2 #[true, true, true, true, true, true, true, false, false] (wpA52 v2 (wpA51 v1 (wpA56 x (sqA5 u a)))) w := by
  have _hp := hp
  have _u1 := hg
  have _u2 := h1
  have _u3 := h2
  obtain ⟨A, m, B, d, rfl⟩ := f2.open
  obtain ⟨W, hW⟩ : ∃ W, W = ((w.setCell ⟨x, 0, none⟩ (.bool (qneg r))).setCell ⟨x, 1, none⟩ (.slice A (nat r.num.natAbs).length m)).setCell ⟨x, 2, none⟩ (.slice B (nat r.den).length d) := ⟨_, rfl⟩
  have hS1 : OneB g u q W := by subst hW; exact FB.storeO hS rx.rt (by omega) _ _ _
  refine wpAnyH_ready (rs := [7]) (by kernel_rfl) (by simp) (rdyA57 (by simp [wpA56, wpA51, wpA52, sqA5, eval_put, put_size, ha]) (by simp [wpA56, wpA51, wpA52, sqA5, eval_put, put_size, ha]) rx hW hS1 ?_)
  refine wpAnyH_ready (rs := [8]) (by kernel_rfl) (by simp) (rdyA58 (v := .int .i64 0) (by simp [wpA56, wpA51, wpA52, sqA5, eval_put, put_size, ha]) hS1 ?_)
  have hb1 : Below w0.heap.size w0 W := by subst hW; exact below_store3 hb kx _ _ _
  exact wpAnyH_done (by kernel_rfl) (hQ W x v1 _ hb1 (by subst hW; exact ⟨_, _, rfl, Bq.storeS f2 rx.rt⟩)) _
set_option maxHeartbeats 2000000 in
theorem stA511 (w : World) (x : Nat) (v1 : Value) (hS : OneB g u q w) (hb : Below w0.heap.size w0 w) (rx : ResZ x w) (kx : w0.heap.size ≤ x) (f1 : Rv w v1 (smq 1 1)) :
    wpAnyH Tryz.prog .any opsA5 Q (OneB g u q) 6 #[true, true, false, false, false, false, true, false, false] (wpA51 v1 (wpA56 x (sqA5 u a))) w := by
  have _hp := hp
  have _u1 := hg
  have _u2 := h1
  have _u3 := h2
  refine wpAnyH_ready (rs := [2]) (by kernel_rfl) (by simp) (AllReadyH.cons rfl (fun K hK => ?_) AllReadyH.nil)
  · refine stpA52 (by simp [wpA56, wpA51, wpA52, sqA5, eval_put, put_size, ha]) (by simp [wpA56, wpA51, wpA52, sqA5, eval_put, put_size, ha]) (h2 w v1 hb hS f1) (fun v2 w' hv hb' => ?_)
    refine hK.out _ _ (hS.on hb') (fun _ => ?_)
    refine wpAnyH_take (i := 3) rfl (by kernel_rfl) (by kernel_rfl) (by kernel_rfl) (fun c b w h => hp _ _ c b w h) (ylA53 (v := .tuple #[v2, .int .i64 0]) (by simp [wpA56, wpA51, wpA52, sqA5, eval_put, put_size, ha])) (hS.on hb') ?_
    change wpAnyH _ _ _ _ _ _ _ (((wpA51 v1 (wpA56 x (sqA5 u a))).put (some 49) (.tuple #[v2, .int .i64 0])).put (some 46) (.tuple #[v2, .int .i64 0])) _
    refine wpAnyH_take (i := 4) rfl (by kernel_rfl) (by kernel_rfl) (by kernel_rfl) (fun c b w h => hp _ _ c b w h) (ylA54 (v := v2) (z := .int .i64 0) (by simp [wpA56, wpA51, wpA52, sqA5, eval_put, put_size, ha])) (hS.on hb') ?_
    change wpAnyH _ _ _ _ _ _ _ ((((wpA51 v1 (wpA56 x (sqA5 u a))).put (some 49) (.tuple #[v2, .int .i64 0])).put (some 46) (.tuple #[v2, .int .i64 0])).put (some 50) v2) _
    refine wpAnyH_take (i := 5) rfl (by kernel_rfl) (by kernel_rfl) (by kernel_rfl) (fun c b w h => hp _ _ c b w h) (ylA55 (v := v2) (z := .int .i64 0) (by simp [wpA56, wpA51, wpA52, sqA5, eval_put, put_size, ha])) (hS.on hb') ?_
    change wpAnyH _ _ _ _ _ _ _ (wpA52 v2 (wpA51 v1 (wpA56 x (sqA5 u a)))) _
    exact stA521 Q w0 a g u q r ha hg hp h1 h2 hQ w' x v1 v2 (hS.on hb') (below_join hb hb' hb.size) (rx.on hb' rx.lt) kx (f1.on hb') hv
set_option maxHeartbeats 2000000 in
theorem stA520 (w : World) (v1 : Value) (v2 : Value) (hS : OneB g u q w) (hb : Below w0.heap.size w0 w) (f1 : Rv w v1 (smq 1 1)) (f2 : Rv w v2 r) :
    wpAnyH Tryz.prog .any opsA5 Q (OneB g u q) 3 #[true, true, true, true, true, true, false, false, false] (wpA52 v2 (wpA51 v1 (sqA5 u a))) w := by
  have _hp := hp
  have _u1 := hg
  have _u2 := h1
  have _u3 := h2
  refine wpAnyH_ready (rs := [6]) (by kernel_rfl) (by simp) (AllReadyH.cons rfl (fun K hK => ?_) AllReadyH.nil)
  · refine stpA56 ?_
    refine hK.out _ _ (hS.on (alloc_below w _)) (fun _ => ?_)
    change wpAnyH _ _ _ _ _ _ _ (wpA56 w.heap.size (wpA52 v2 (wpA51 v1 (sqA5 u a)))) _
    rw [wsA56_2, wsA56_1]
    exact stA521 Q w0 a g u q r ha hg hp h1 h2 hQ (w.alloc (.cells #[.bool false, .slice none 0 0, .slice none 0 0] 25)) w.heap.size v1 v2 (hS.on (alloc_below w _)) (below_join hb (alloc_below w _) hb.size) (resz_mk w) hb.size (f1.on (alloc_below w _)) (f2.on (alloc_below w _))
set_option maxHeartbeats 2000000 in
theorem stA501 (w : World) (x : Nat) (hS : OneB g u q w) (hb : Below w0.heap.size w0 w) (rx : ResZ x w) (kx : w0.heap.size ≤ x) :
    wpAnyH Tryz.prog .any opsA5 Q (OneB g u q) 7 #[true, false, false, false, false, false, true, false, false] (wpA56 x (sqA5 u a)) w := by
  have _hp := hp
  have _u1 := hg
  have _u2 := h1
  have _u3 := h2
  refine wpAnyH_ready (rs := [1]) (by kernel_rfl) (by simp) (AllReadyH.cons rfl (fun K hK => ?_) AllReadyH.nil)
  · refine stpA51 (h1 w) (fun v1 w' hv hb' => ?_)
    refine hK.out _ _ (hS.on hb') (fun _ => ?_)
    change wpAnyH _ _ _ _ _ _ _ (wpA51 v1 (wpA56 x (sqA5 u a))) _
    exact stA511 Q w0 a g u q r ha hg hp h1 h2 hQ w' x v1 (hS.on hb') (below_join hb hb' hb.size) (rx.on hb' rx.lt) kx hv
set_option maxHeartbeats 2000000 in
theorem stA510 (w : World) (v1 : Value) (hS : OneB g u q w) (hb : Below w0.heap.size w0 w) (f1 : Rv w v1 (smq 1 1)) :
    wpAnyH Tryz.prog .any opsA5 Q (OneB g u q) 7 #[true, true, false, false, false, false, false, false, false] (wpA51 v1 (sqA5 u a)) w := by
  have _hp := hp
  have _u1 := hg
  have _u2 := h1
  have _u3 := h2
  refine wpAnyH_ready (rs := [2, 6]) (by kernel_rfl) (by simp) (AllReadyH.cons rfl (fun K hK => ?_) (AllReadyH.cons rfl (fun K hK => ?_) AllReadyH.nil))
  · refine stpA52 (by simp [wpA56, wpA51, wpA52, sqA5, eval_put, put_size, ha]) (by simp [wpA56, wpA51, wpA52, sqA5, eval_put, put_size, ha]) (h2 w v1 hb hS f1) (fun v2 w' hv hb' => ?_)
    refine hK.out _ _ (hS.on hb') (fun _ => ?_)
    refine wpAnyH_take (i := 3) rfl (by kernel_rfl) (by kernel_rfl) (by kernel_rfl) (fun c b w h => hp _ _ c b w h) (ylA53 (v := .tuple #[v2, .int .i64 0]) (by simp [wpA56, wpA51, wpA52, sqA5, eval_put, put_size, ha])) (hS.on hb') ?_
    change wpAnyH _ _ _ _ _ _ _ (((wpA51 v1 (sqA5 u a)).put (some 49) (.tuple #[v2, .int .i64 0])).put (some 46) (.tuple #[v2, .int .i64 0])) _
    refine wpAnyH_take (i := 4) rfl (by kernel_rfl) (by kernel_rfl) (by kernel_rfl) (fun c b w h => hp _ _ c b w h) (ylA54 (v := v2) (z := .int .i64 0) (by simp [wpA56, wpA51, wpA52, sqA5, eval_put, put_size, ha])) (hS.on hb') ?_
    change wpAnyH _ _ _ _ _ _ _ ((((wpA51 v1 (sqA5 u a)).put (some 49) (.tuple #[v2, .int .i64 0])).put (some 46) (.tuple #[v2, .int .i64 0])).put (some 50) v2) _
    refine wpAnyH_take (i := 5) rfl (by kernel_rfl) (by kernel_rfl) (by kernel_rfl) (fun c b w h => hp _ _ c b w h) (ylA55 (v := v2) (z := .int .i64 0) (by simp [wpA56, wpA51, wpA52, sqA5, eval_put, put_size, ha])) (hS.on hb') ?_
    change wpAnyH _ _ _ _ _ _ _ (wpA52 v2 (wpA51 v1 (sqA5 u a))) _
    exact stA520 Q w0 a g u q r ha hg hp h1 h2 hQ w' v1 v2 (hS.on hb') (below_join hb hb' hb.size) (f1.on hb') hv
  · refine stpA56 ?_
    refine hK.out _ _ (hS.on (alloc_below w _)) (fun _ => ?_)
    change wpAnyH _ _ _ _ _ _ _ (wpA56 w.heap.size (wpA51 v1 (sqA5 u a))) _
    rw [wsA56_1]
    exact stA511 Q w0 a g u q r ha hg hp h1 h2 hQ (w.alloc (.cells #[.bool false, .slice none 0 0, .slice none 0 0] 25)) w.heap.size v1 (hS.on (alloc_below w _)) (below_join hb (alloc_below w _) hb.size) (resz_mk w) hb.size (f1.on (alloc_below w _))
set_option maxHeartbeats 2000000 in
theorem stA500 (w : World) (hS : OneB g u q w) (hb : Below w0.heap.size w0 w) :
    wpAnyH Tryz.prog .any opsA5 Q (OneB g u q) 8 #[true, false, false, false, false, false, false, false, false] (sqA5 u a) w := by
  have _hp := hp
  have _u1 := hg
  have _u2 := h1
  have _u3 := h2
  refine wpAnyH_ready (rs := [1, 6]) (by kernel_rfl) (by simp) (AllReadyH.cons rfl (fun K hK => ?_) (AllReadyH.cons rfl (fun K hK => ?_) AllReadyH.nil))
  · refine stpA51 (h1 w) (fun v1 w' hv hb' => ?_)
    refine hK.out _ _ (hS.on hb') (fun _ => ?_)
    change wpAnyH _ _ _ _ _ _ _ (wpA51 v1 (sqA5 u a)) _
    exact stA510 Q w0 a g u q r ha hg hp h1 h2 hQ w' v1 (hS.on hb') (below_join hb hb' hb.size) hv
  · refine stpA56 ?_
    refine hK.out _ _ (hS.on (alloc_below w _)) (fun _ => ?_)
    change wpAnyH _ _ _ _ _ _ _ (wpA56 w.heap.size (sqA5 u a)) _
    exact stA501 Q w0 a g u q r ha hg hp h1 h2 hQ (w.alloc (.cells #[.bool false, .slice none 0 0, .slice none 0 0] 25)) w.heap.size (hS.on (alloc_below w _)) (below_join hb (alloc_below w _) hb.size) (resz_mk w) hb.size
end
theorem rgA5 (Q : Exit → Act → World → Prop) (w0 : World) (a : Act) (g : Nat) (u : Value) (q r : Rat) (ha : a.tmps.size = 349) (e1 : a.eval (.tmp 5) = .pointer (some ⟨g, 0, none⟩)) (hS : OneB g u q w0) (hp : ∀ (d : Nat) v c b w, Q (.panic c) (Act.put b (some d) v) w → Q (.panic c) b w)
  (h1 : ∀ X, Calls Tryz.prog 42 #[.int .i16 1, .int .i16 1] X (SmallPost (smq 1 1) X)) (h2 : ∀ X v, Below w0.heap.size w0 X → OneB g u q X → Rv X v (smq 1 1) → Calls Tryz.prog 25 #[u, v] X (RatPost r X))
  (hQ : ∀ (w : World) (x : Nat) (v1 v2 : Value), Below w0.heap.size w0 w → FB w x v2 r → Q .normal ((wpA52 v2 (wpA51 v1 (wpA56 x (sqA5 u a)))).put (some 10) (.int .i64 0)) w) :
    (Code.region 5 opsA5 true).wp Tryz.prog Q a w0 := by
  have hS' : OneB g u q w0.drew := hS.on (Below.refl _ _).drew
  refine wp_region_held (S := OneB g u q) (by kernel_rfl) ?_
  refine wpAnyH_take (i := 0) rfl (by kernel_rfl) (by kernel_rfl) (by kernel_rfl) (fun c b w h => hp _ _ c b w h) (ylA50 e1) hS' ?_
  change wpAnyH _ _ _ _ _ _ _ (sqA5 u a) _
  exact stA500 Q w0 a g u q r ha hS.lt hp h1 h2 hQ w0.drew hS' (Below.refl _ _).drew
def opsB5 : Array Oper := #[{ dst := some 111, op := Go.Op.load 25 (Go.Operand.tmp 13), type := 25, pos := "outright.go:205", after := #[], guard := none }, { dst := some 112, op := Go.Op.call { callee := Go.Callee.value (Go.Operand.func 42), args := #[Go.Operand.const (Go.Value.int Go.IntKind.i16 1), Go.Operand.const (Go.Value.int Go.IntKind.i16 1)], argTypes := #[45, 45] }, type := 25, pos := "outright.go:205", after := #[], guard := none }, { dst := some 113, op := Go.Op.call { callee := Go.Callee.value (Go.Operand.func 25), args := #[Go.Operand.tmp 111, Go.Operand.tmp 112], argTypes := #[25, 25] }, type := 28, pos := "outright.go:205", after := #[{ on := 0, ground := Go.Ground.data }, { on := 1, ground := Go.Ground.data }, { on := 1, ground := Go.Ground.chain }], guard := none }, { dst := some 110, op := Go.Op.move (Go.Operand.tmp 113), type := 28, pos := "outright.go:205", after := #[{ on := 2, ground := Go.Ground.data }], guard := none }, { dst := some 114, op := Go.Op.extract (Go.Operand.tmp 110) 0, type := 25, pos := "outright.go:205", after := #[{ on := 3, ground := Go.Ground.data }], guard := none }, { dst := some 115, op := Go.Op.extract (Go.Operand.tmp 110) 1, type := 27, pos := "outright.go:205", after := #[{ on := 3, ground := Go.Ground.data }, { on := 7, ground := Go.Ground.gcOnly Go.Departure.lateStores }], guard := none }, { dst := some 15, op := Go.Op.alloc 25, type := 0, pos := "outright.go:205", after := #[], guard := none }, { dst := none, op := Go.Op.store 25 (Go.Operand.tmp 15) (Go.Operand.tmp 114), type := 0, pos := "outright.go:205", after := #[{ on := 6, ground := Go.Ground.data }, { on := 4, ground := Go.Ground.data }, { on := 2, ground := Go.Ground.chain }, { on := 0, ground := Go.Ground.phase }, { on := 1, ground := Go.Ground.phase }, { on := 2, ground := Go.Ground.phase }, { on := 3, ground := Go.Ground.phase }, { on := 4, ground := Go.Ground.phase }, { on := 5, ground := Go.Ground.textOnly Go.Departure.lateStores }, { on := 6, ground := Go.Ground.phase }], guard := none }, { dst := some 4, op := Go.Op.assign (Go.Operand.tmp 115), type := 27, pos := "outright.go:205", after := #[{ on := 5, ground := Go.Ground.data }, { on := 7, ground := Go.Ground.chain }, { on := 0, ground := Go.Ground.phase }, { on := 1, ground := Go.Ground.phase }, { on := 2, ground := Go.Ground.phase }, { on := 3, ground := Go.Ground.phase }, { on := 4, ground := Go.Ground.phase }, { on := 5, ground := Go.Ground.phase }, { on := 6, ground := Go.Ground.phase }, { on := 7, ground := Go.Ground.phase }], guard := none }]
theorem stpB51 {Q : Exit → Act → World → Prop} {K : Act → World → Prop} {a : Act} {w : World} {r : Rat} (h : Calls Tryz.prog 42 #[.int .i16 1, .int .i16 1] w (SmallPost r w)) (hK : ∀ v w', Rv w' v r → Below w.heap.size w w' → K (a.put (some 112) v) w') :
    if Region.wanted ({ dst := some 112, op := Go.Op.call { callee := Go.Callee.value (Go.Operand.func 42), args := #[Go.Operand.const (Go.Value.int Go.IntKind.i16 1), Go.Operand.const (Go.Value.int Go.IntKind.i16 1)], argTypes := #[45, 45] }, type := 25, pos := "outright.go:205", after := #[], guard := none } : Oper) (yielded opsB5 a.tmps) = true then Oper.wp Tryz.prog ({ dst := some 112, op := Go.Op.call { callee := Go.Callee.value (Go.Operand.func 42), args := #[Go.Operand.const (Go.Value.int Go.IntKind.i16 1), Go.Operand.const (Go.Value.int Go.IntKind.i16 1)], argTypes := #[45, 45] }, type := 25, pos := "outright.go:205", after := #[], guard := none } : Oper) a w K Q else K (a.put (some 112) undef) w := by
  go_simp
  go_at_call 42
  refine h.mono ?_
  rintro e w' ⟨v, rfl, hv, hb⟩
  exact hK v w' hv hb
theorem stpB52 {Q : Exit → Act → World → Prop} {K : Act → World → Prop} {a : Act} {w : World} {u v : Value} {r : Rat} (e1 : a.eval (.tmp 111) = u) (e2 : a.eval (.tmp 112) = v) (h : Calls Tryz.prog 25 #[u, v] w (RatPost r w)) (hK : ∀ v w', Rv w' v r → Below w.heap.size w w' → K (a.put (some 113) (.tuple #[v, .int .i64 0])) w') :
    if Region.wanted ({ dst := some 113, op := Go.Op.call { callee := Go.Callee.value (Go.Operand.func 25), args := #[Go.Operand.tmp 111, Go.Operand.tmp 112], argTypes := #[25, 25] }, type := 28, pos := "outright.go:205", after := #[{ on := 0, ground := Go.Ground.data }, { on := 1, ground := Go.Ground.data }, { on := 1, ground := Go.Ground.chain }], guard := none } : Oper) (yielded opsB5 a.tmps) = true then Oper.wp Tryz.prog ({ dst := some 113, op := Go.Op.call { callee := Go.Callee.value (Go.Operand.func 25), args := #[Go.Operand.tmp 111, Go.Operand.tmp 112], argTypes := #[25, 25] }, type := 28, pos := "outright.go:205", after := #[{ on := 0, ground := Go.Ground.data }, { on := 1, ground := Go.Ground.data }, { on := 1, ground := Go.Ground.chain }], guard := none } : Oper) a w K Q else K (a.put (some 113) undef) w := by
  have g1 := ev_get e1
  have g2 := ev_get e2
  go_simp
  go_at_call 25
  refine h.mono ?_
  rintro e w' ⟨v, rfl, hv, hb⟩
  exact hK v w' hv hb
theorem stpB56 {Q : Exit → Act → World → Prop} {K : Act → World → Prop} {a : Act} {w : World} (hK : K (a.put (some 15) (.pointer (some ⟨w.heap.size, 0, none⟩))) (w.alloc (.cells #[.bool false, .slice none 0 0, .slice none 0 0] 25))) :
    if Region.wanted ({ dst := some 15, op := Go.Op.alloc 25, type := 0, pos := "outright.go:205", after := #[], guard := none } : Oper) (yielded opsB5 a.tmps) = true then Oper.wp Tryz.prog ({ dst := some 15, op := Go.Op.alloc 25, type := 0, pos := "outright.go:205", after := #[], guard := none } : Oper) a w K Q else K (a.put (some 15) undef) w := by
  go_simp
  exact hK
theorem stpB57 {Q : Exit → Act → World → Prop} {K : Act → World → Prop} {a : Act} {w : World} {x : Nat} {s : Bool} {A : Option Addr} {m c : Nat} {B : Option Addr} {k d : Nat} (e1 : a.eval (.tmp 15) = .pointer (some ⟨x, 0, none⟩)) (e2 : a.eval (.tmp 114) = .agg #[.bool s, .slice A m c, .slice B k d]) (h : ResZ x w)
    (hK : K a (((w.setCell ⟨x, 0, none⟩ (.bool s)).setCell ⟨x, 1, none⟩ (.slice A m c)).setCell ⟨x, 2, none⟩ (.slice B k d))) :
    if Region.wanted ({ dst := none, op := Go.Op.store 25 (Go.Operand.tmp 15) (Go.Operand.tmp 114), type := 0, pos := "outright.go:205", after := #[{ on := 6, ground := Go.Ground.data }, { on := 4, ground := Go.Ground.data }, { on := 2, ground := Go.Ground.chain }, { on := 0, ground := Go.Ground.phase }, { on := 1, ground := Go.Ground.phase }, { on := 2, ground := Go.Ground.phase }, { on := 3, ground := Go.Ground.phase }, { on := 4, ground := Go.Ground.phase }, { on := 5, ground := Go.Ground.textOnly Go.Departure.lateStores }, { on := 6, ground := Go.Ground.phase }], guard := none } : Oper) (yielded opsB5 a.tmps) = true then Oper.wp Tryz.prog ({ dst := none, op := Go.Op.store 25 (Go.Operand.tmp 15) (Go.Operand.tmp 114), type := 0, pos := "outright.go:205", after := #[{ on := 6, ground := Go.Ground.data }, { on := 4, ground := Go.Ground.data }, { on := 2, ground := Go.Ground.chain }, { on := 0, ground := Go.Ground.phase }, { on := 1, ground := Go.Ground.phase }, { on := 2, ground := Go.Ground.phase }, { on := 3, ground := Go.Ground.phase }, { on := 4, ground := Go.Ground.phase }, { on := 5, ground := Go.Ground.textOnly Go.Departure.lateStores }, { on := 6, ground := Go.Ground.phase }], guard := none } : Oper) a w K Q else K (a.put none undef) w := by
  have g1 := ev_get e1
  have g2 := ev_get e2
  obtain ⟨c0, c1, c2⟩ := Rt.cells h
  obtain ⟨f0, f1, f2⟩ := Rt.frozen h
  go_simp
  exact hK
theorem atB57 : opsB5[7]? = some { dst := none, op := Go.Op.store 25 (Go.Operand.tmp 15) (Go.Operand.tmp 114), type := 0, pos := "outright.go:205", after := #[{ on := 6, ground := Go.Ground.data }, { on := 4, ground := Go.Ground.data }, { on := 2, ground := Go.Ground.chain }, { on := 0, ground := Go.Ground.phase }, { on := 1, ground := Go.Ground.phase }, { on := 2, ground := Go.Ground.phase }, { on := 3, ground := Go.Ground.phase }, { on := 4, ground := Go.Ground.phase }, { on := 5, ground := Go.Ground.textOnly Go.Departure.lateStores }, { on := 6, ground := Go.Ground.phase }], guard := none } := rfl
theorem rdyB57 {Q : Exit → Act → World → Prop} {S : World → Prop} {fuel : Nat} {listed : Array Bool} {a : Act} {w W : World} {x : Nat} {s : Bool} {A : Option Addr} {m c : Nat} {B : Option Addr} {k d : Nat} (e1 : a.eval (.tmp 15) = .pointer (some ⟨x, 0, none⟩)) (e2 : a.eval (.tmp 114) = .agg #[.bool s, .slice A m c, .slice B k d]) (h : ResZ x w)
    (hW : W = ((w.setCell ⟨x, 0, none⟩ (.bool s)).setCell ⟨x, 1, none⟩ (.slice A m c)).setCell ⟨x, 2, none⟩ (.slice B k d)) (hS : S W) (hK : wpAnyH Tryz.prog .any opsB5 Q S fuel (listed.setIfInBounds 7 true) a W) : AllReadyH Tryz.prog .any opsB5 Q S fuel listed a w [7] :=
  AllReadyH.cons atB57 (fun K hK' => stpB57 e1 e2 h (by rw [← hW]; exact hK'.out _ _ hS (fun _ => hK))) AllReadyH.nil
theorem stpB58 {Q : Exit → Act → World → Prop} {K : Act → World → Prop} {a : Act} {w : World} {v : Value} (h : a.eval (.tmp 115) = v) (hK : K (a.put (some 4) v) w) :
    if Region.wanted ({ dst := some 4, op := Go.Op.assign (Go.Operand.tmp 115), type := 27, pos := "outright.go:205", after := #[{ on := 5, ground := Go.Ground.data }, { on := 7, ground := Go.Ground.chain }, { on := 0, ground := Go.Ground.phase }, { on := 1, ground := Go.Ground.phase }, { on := 2, ground := Go.Ground.phase }, { on := 3, ground := Go.Ground.phase }, { on := 4, ground := Go.Ground.phase }, { on := 5, ground := Go.Ground.phase }, { on := 6, ground := Go.Ground.phase }, { on := 7, ground := Go.Ground.phase }], guard := none } : Oper) (yielded opsB5 a.tmps) = true then Oper.wp Tryz.prog ({ dst := some 4, op := Go.Op.assign (Go.Operand.tmp 115), type := 27, pos := "outright.go:205", after := #[{ on := 5, ground := Go.Ground.data }, { on := 7, ground := Go.Ground.chain }, { on := 0, ground := Go.Ground.phase }, { on := 1, ground := Go.Ground.phase }, { on := 2, ground := Go.Ground.phase }, { on := 3, ground := Go.Ground.phase }, { on := 4, ground := Go.Ground.phase }, { on := 5, ground := Go.Ground.phase }, { on := 6, ground := Go.Ground.phase }, { on := 7, ground := Go.Ground.phase }], guard := none } : Oper) a w K Q else K (a.put (some 4) undef) w := by
  have h' := ev_get h
  go_simp
  exact hK
theorem atB58 : opsB5[8]? = some { dst := some 4, op := Go.Op.assign (Go.Operand.tmp 115), type := 27, pos := "outright.go:205", after := #[{ on := 5, ground := Go.Ground.data }, { on := 7, ground := Go.Ground.chain }, { on := 0, ground := Go.Ground.phase }, { on := 1, ground := Go.Ground.phase }, { on := 2, ground := Go.Ground.phase }, { on := 3, ground := Go.Ground.phase }, { on := 4, ground := Go.Ground.phase }, { on := 5, ground := Go.Ground.phase }, { on := 6, ground := Go.Ground.phase }, { on := 7, ground := Go.Ground.phase }], guard := none } := rfl
theorem rdyB58 {Q : Exit → Act → World → Prop} {S : World → Prop} {fuel : Nat} {listed : Array Bool} {a : Act} {w : World} {v : Value} (h : a.eval (.tmp 115) = v) (hS : S w) (hK : wpAnyH Tryz.prog .any opsB5 Q S fuel (listed.setIfInBounds 8 true) (a.put (some 4) v) w) : AllReadyH Tryz.prog .any opsB5 Q S fuel listed a w [8] :=
  AllReadyH.cons atB58 (fun K hK' => stpB58 h (hK'.out _ _ hS (fun _ => hK))) AllReadyH.nil
theorem ylB50 {a : Act} {g : Nat} {u : Value} {q : Rat} (e : a.eval (.tmp 13) = .pointer (some ⟨g, 0, none⟩)) : YieldsIf Tryz.prog opsB5 (OneB g u q) ({ dst := some 111, op := Go.Op.load 25 (Go.Operand.tmp 13), type := 25, pos := "outright.go:205", after := #[], guard := none } : Oper) u a := by
  have h1 := ev_get e
  refine Or.inl ⟨rfl, fun w hS => ?_⟩
  obtain ⟨va, vb, rfl, h⟩ := hS
  obtain ⟨c0, c1, c2⟩ := h.cells
  go_simp
theorem ylB53 {a : Act} {S : World → Prop} {v : Value} (e : a.eval (.tmp 113) = v) : YieldsIf Tryz.prog opsB5 S ({ dst := some 110, op := Go.Op.move (Go.Operand.tmp 113), type := 28, pos := "outright.go:205", after := #[{ on := 2, ground := Go.Ground.data }], guard := none } : Oper) v a := by
  have h1 := ev_get e
  refine Or.inl ⟨rfl, fun w hS => ?_⟩
  go_simp
theorem ylB54 {a : Act} {S : World → Prop} {v z : Value} (e : a.eval (.tmp 110) = .tuple #[v, z]) : YieldsIf Tryz.prog opsB5 S ({ dst := some 114, op := Go.Op.extract (Go.Operand.tmp 110) 0, type := 25, pos := "outright.go:205", after := #[{ on := 3, ground := Go.Ground.data }], guard := none } : Oper) v a := by
  have h1 := ev_get e
  refine Or.inl ⟨rfl, fun w hS => ?_⟩
  go_simp
theorem ylB55 {a : Act} {S : World → Prop} {v z : Value} (e : a.eval (.tmp 110) = .tuple #[v, z]) : YieldsIf Tryz.prog opsB5 S ({ dst := some 115, op := Go.Op.extract (Go.Operand.tmp 110) 1, type := 27, pos := "outright.go:205", after := #[{ on := 3, ground := Go.Ground.data }, { on := 7, ground := Go.Ground.gcOnly Go.Departure.lateStores }], guard := none } : Oper) z a := by
  have h1 := ev_get e
  refine Or.inl ⟨rfl, fun w hS => ?_⟩
  go_simp
def sqB5 (u : Value) (a : Act) : Act := a.put (some 111) u
def wpB56 (x : Nat) (a : Act) : Act := a.put (some 15) (.pointer (some ⟨x, 0, none⟩))
def wpB51 (v : Value) (a : Act) : Act := a.put (some 112) v
def wpB52 (v : Value) (a : Act) : Act := (((a.put (some 113) (.tuple #[v, .int .i64 0])).put (some 110) (.tuple #[v, .int .i64 0])).put (some 114) v).put (some 115) (.int .i64 0)
theorem wsB56_1 (x : Nat) (v : Value) (a : Act) : wpB56 x (wpB51 v a) = wpB51 v (wpB56 x a) := put_lt (by decide) _ _ _
theorem wsB56_2 (x : Nat) (v : Value) (a : Act) : wpB56 x (wpB52 v a) = wpB52 v (wpB56 x a) := by
  unfold wpB56 wpB52
  rw [put_lt (d := 115) (e := 15) (by decide), put_lt (d := 114) (e := 15) (by decide), put_lt (d := 110) (e := 15) (by decide), put_lt (d := 113) (e := 15) (by decide)]
section
variable (Q : Exit → Act → World → Prop) (w0 : World) (a : Act) (g : Nat) (u : Value) (q r : Rat) (ha : a.tmps.size = 349) (hg : g < w0.heap.size) (hp : ∀ (d : Nat) v c b w, Q (.panic c) (Act.put b (some d) v) w → Q (.panic c) b w)
  (h1 : ∀ X, Calls Tryz.prog 42 #[.int .i16 1, .int .i16 1] X (SmallPost (smq 1 1) X)) (h2 : ∀ X v, Below w0.heap.size w0 X → OneB g u q X → Rv X v (smq 1 1) → Calls Tryz.prog 25 #[u, v] X (RatPost r X))
  (hQ : ∀ (w : World) (x : Nat) (v1 v2 : Value), Below w0.heap.size w0 w → FB w x v2 r → Q .normal ((wpB52 v2 (wpB51 v1 (wpB56 x (sqB5 u a)))).put (some 4) (.int .i64 0)) w)
include ha hg hp h1 h2 hQ
set_option maxHeartbeats 2000000 in
theorem stB521 (w : World) (x : Nat) (v1 : Value) (v2 : Value) (hS : OneB g u q w) (hb : Below w0.heap.size w0 w) (rx : ResZ x w) (kx : w0.heap.size ≤ x) (f1 : Rv w v1 (smq 1 1)) (f2 : Rv w v2 r) :
    wpAnyH Tryz.prog .any opsB5 Q (OneB g u q) 2 #[true, true, true, true, true, true, true, false, false] (wpB52 v2 (wpB51 v1 (wpB56 x (sqB5 u a)))) w := by
  have _hp := hp
  have _u1 := hg
  have _u2 := h1
  have _u3 := h2
  obtain ⟨A, m, B, d, rfl⟩ := f2.open
  obtain ⟨W, hW⟩ : ∃ W, W = ((w.setCell ⟨x, 0, none⟩ (.bool (qneg r))).setCell ⟨x, 1, none⟩ (.slice A (nat r.num.natAbs).length m)).setCell ⟨x, 2, none⟩ (.slice B (nat r.den).length d) := ⟨_, rfl⟩
  have hS1 : OneB g u q W := by subst hW; exact FB.storeO hS rx.rt (by omega) _ _ _
  refine wpAnyH_ready (rs := [7]) (by kernel_rfl) (by simp) (rdyB57 (by simp [wpB56, wpB51, wpB52, sqB5, eval_put, put_size, ha]) (by simp [wpB56, wpB51, wpB52, sqB5, eval_put, put_size, ha]) rx hW hS1 ?_)
  refine wpAnyH_ready (rs := [8]) (by kernel_rfl) (by simp) (rdyB58 (v := .int .i64 0) (by simp [wpB56, wpB51, wpB52, sqB5, eval_put, put_size, ha]) hS1 ?_)
  have hb1 : Below w0.heap.size w0 W := by subst hW; exact below_store3 hb kx _ _ _
  exact wpAnyH_done (by kernel_rfl) (hQ W x v1 _ hb1 (by subst hW; exact ⟨_, _, rfl, Bq.storeS f2 rx.rt⟩)) _
set_option maxHeartbeats 2000000 in
theorem stB511 (w : World) (x : Nat) (v1 : Value) (hS : OneB g u q w) (hb : Below w0.heap.size w0 w) (rx : ResZ x w) (kx : w0.heap.size ≤ x) (f1 : Rv w v1 (smq 1 1)) :
    wpAnyH Tryz.prog .any opsB5 Q (OneB g u q) 6 #[true, true, false, false, false, false, true, false, false] (wpB51 v1 (wpB56 x (sqB5 u a))) w := by
  have _hp := hp
  have _u1 := hg
  have _u2 := h1
  have _u3 := h2
  refine wpAnyH_ready (rs := [2]) (by kernel_rfl) (by simp) (AllReadyH.cons rfl (fun K hK => ?_) AllReadyH.nil)
  · refine stpB52 (by simp [wpB56, wpB51, wpB52, sqB5, eval_put, put_size, ha]) (by simp [wpB56, wpB51, wpB52, sqB5, eval_put, put_size, ha]) (h2 w v1 hb hS f1) (fun v2 w' hv hb' => ?_)
    refine hK.out _ _ (hS.on hb') (fun _ => ?_)
    refine wpAnyH_take (i := 3) rfl (by kernel_rfl) (by kernel_rfl) (by kernel_rfl) (fun c b w h => hp _ _ c b w h) (ylB53 (v := .tuple #[v2, .int .i64 0]) (by simp [wpB56, wpB51, wpB52, sqB5, eval_put, put_size, ha])) (hS.on hb') ?_
    change wpAnyH _ _ _ _ _ _ _ (((wpB51 v1 (wpB56 x (sqB5 u a))).put (some 113) (.tuple #[v2, .int .i64 0])).put (some 110) (.tuple #[v2, .int .i64 0])) _
    refine wpAnyH_take (i := 4) rfl (by kernel_rfl) (by kernel_rfl) (by kernel_rfl) (fun c b w h => hp _ _ c b w h) (ylB54 (v := v2) (z := .int .i64 0) (by simp [wpB56, wpB51, wpB52, sqB5, eval_put, put_size, ha])) (hS.on hb') ?_
    change wpAnyH _ _ _ _ _ _ _ ((((wpB51 v1 (wpB56 x (sqB5 u a))).put (some 113) (.tuple #[v2, .int .i64 0])).put (some 110) (.tuple #[v2, .int .i64 0])).put (some 114) v2) _
    refine wpAnyH_take (i := 5) rfl (by kernel_rfl) (by kernel_rfl) (by kernel_rfl) (fun c b w h => hp _ _ c b w h) (ylB55 (v := v2) (z := .int .i64 0) (by simp [wpB56, wpB51, wpB52, sqB5, eval_put, put_size, ha])) (hS.on hb') ?_
    change wpAnyH _ _ _ _ _ _ _ (wpB52 v2 (wpB51 v1 (wpB56 x (sqB5 u a)))) _
    exact stB521 Q w0 a g u q r ha hg hp h1 h2 hQ w' x v1 v2 (hS.on hb') (below_join hb hb' hb.size) (rx.on hb' rx.lt) kx (f1.on hb') hv
set_option maxHeartbeats 2000000 in
theorem stB520 (w : World) (v1 : Value) (v2 : Value) (hS : OneB g u q w) (hb : Below w0.heap.size w0 w) (f1 : Rv w v1 (smq 1 1)) (f2 : Rv w v2 r) :
    wpAnyH Tryz.prog .any opsB5 Q (OneB g u q) 3 #[true, true, true, true, true, true, false, false, false] (wpB52 v2 (wpB51 v1 (sqB5 u a))) w := by
  have _hp := hp
  have _u1 := hg
  have _u2 := h1
  have _u3 := h2
  refine wpAnyH_ready (rs := [6]) (by kernel_rfl) (by simp) (AllReadyH.cons rfl (fun K hK => ?_) AllReadyH.nil)
  · refine stpB56 ?_
    refine hK.out _ _ (hS.on (alloc_below w _)) (fun _ => ?_)
    change wpAnyH _ _ _ _ _ _ _ (wpB56 w.heap.size (wpB52 v2 (wpB51 v1 (sqB5 u a)))) _
    rw [wsB56_2, wsB56_1]
    exact stB521 Q w0 a g u q r ha hg hp h1 h2 hQ (w.alloc (.cells #[.bool false, .slice none 0 0, .slice none 0 0] 25)) w.heap.size v1 v2 (hS.on (alloc_below w _)) (below_join hb (alloc_below w _) hb.size) (resz_mk w) hb.size (f1.on (alloc_below w _)) (f2.on (alloc_below w _))
set_option maxHeartbeats 2000000 in
theorem stB501 (w : World) (x : Nat) (hS : OneB g u q w) (hb : Below w0.heap.size w0 w) (rx : ResZ x w) (kx : w0.heap.size ≤ x) :
    wpAnyH Tryz.prog .any opsB5 Q (OneB g u q) 7 #[true, false, false, false, false, false, true, false, false] (wpB56 x (sqB5 u a)) w := by
  have _hp := hp
  have _u1 := hg
  have _u2 := h1
  have _u3 := h2
  refine wpAnyH_ready (rs := [1]) (by kernel_rfl) (by simp) (AllReadyH.cons rfl (fun K hK => ?_) AllReadyH.nil)
  · refine stpB51 (h1 w) (fun v1 w' hv hb' => ?_)
    refine hK.out _ _ (hS.on hb') (fun _ => ?_)
    change wpAnyH _ _ _ _ _ _ _ (wpB51 v1 (wpB56 x (sqB5 u a))) _
    exact stB511 Q w0 a g u q r ha hg hp h1 h2 hQ w' x v1 (hS.on hb') (below_join hb hb' hb.size) (rx.on hb' rx.lt) kx hv
set_option maxHeartbeats 2000000 in
theorem stB510 (w : World) (v1 : Value) (hS : OneB g u q w) (hb : Below w0.heap.size w0 w) (f1 : Rv w v1 (smq 1 1)) :
    wpAnyH Tryz.prog .any opsB5 Q (OneB g u q) 7 #[true, true, false, false, false, false, false, false, false] (wpB51 v1 (sqB5 u a)) w := by
  have _hp := hp
  have _u1 := hg
  have _u2 := h1
  have _u3 := h2
  refine wpAnyH_ready (rs := [2, 6]) (by kernel_rfl) (by simp) (AllReadyH.cons rfl (fun K hK => ?_) (AllReadyH.cons rfl (fun K hK => ?_) AllReadyH.nil))
  · refine stpB52 (by simp [wpB56, wpB51, wpB52, sqB5, eval_put, put_size, ha]) (by simp [wpB56, wpB51, wpB52, sqB5, eval_put, put_size, ha]) (h2 w v1 hb hS f1) (fun v2 w' hv hb' => ?_)
    refine hK.out _ _ (hS.on hb') (fun _ => ?_)
    refine wpAnyH_take (i := 3) rfl (by kernel_rfl) (by kernel_rfl) (by kernel_rfl) (fun c b w h => hp _ _ c b w h) (ylB53 (v := .tuple #[v2, .int .i64 0]) (by simp [wpB56, wpB51, wpB52, sqB5, eval_put, put_size, ha])) (hS.on hb') ?_
    change wpAnyH _ _ _ _ _ _ _ (((wpB51 v1 (sqB5 u a)).put (some 113) (.tuple #[v2, .int .i64 0])).put (some 110) (.tuple #[v2, .int .i64 0])) _
    refine wpAnyH_take (i := 4) rfl (by kernel_rfl) (by kernel_rfl) (by kernel_rfl) (fun c b w h => hp _ _ c b w h) (ylB54 (v := v2) (z := .int .i64 0) (by simp [wpB56, wpB51, wpB52, sqB5, eval_put, put_size, ha])) (hS.on hb') ?_
    change wpAnyH _ _ _ _ _ _ _ ((((wpB51 v1 (sqB5 u a)).put (some 113) (.tuple #[v2, .int .i64 0])).put (some 110) (.tuple #[v2, .int .i64 0])).put (some 114) v2) _
    refine wpAnyH_take (i := 5) rfl (by kernel_rfl) (by kernel_rfl) (by kernel_rfl) (fun c b w h => hp _ _ c b w h) (ylB55 (v := v2) (z := .int .i64 0) (by simp [wpB56, wpB51, wpB52, sqB5, eval_put, put_size, ha])) (hS.on hb') ?_
    change wpAnyH _ _ _ _ _ _ _ (wpB52 v2 (wpB51 v1 (sqB5 u a))) _
    exact stB520 Q w0 a g u q r ha hg hp h1 h2 hQ w' v1 v2 (hS.on hb') (below_join hb hb' hb.size) (f1.on hb') hv
  · refine stpB56 ?_
    refine hK.out _ _ (hS.on (alloc_below w _)) (fun _ => ?_)
    change wpAnyH _ _ _ _ _ _ _ (wpB56 w.heap.size (wpB51 v1 (sqB5 u a))) _
    rw [wsB56_1]
    exact stB511 Q w0 a g u q r ha hg hp h1 h2 hQ (w.alloc (.cells #[.bool false, .slice none 0 0, .slice none 0 0] 25)) w.heap.size v1 (hS.on (alloc_below w _)) (below_join hb (alloc_below w _) hb.size) (resz_mk w) hb.size (f1.on (alloc_below w _))
set_option maxHeartbeats 2000000 in
theorem stB500 (w : World) (hS : OneB g u q w) (hb : Below w0.heap.size w0 w) :
    wpAnyH Tryz.prog .any opsB5 Q (OneB g u q) 8 #[true, false, false, false, false, false, false, false, false] (sqB5 u a) w := by
  have _hp := hp
  have _u1 := hg
  have _u2 := h1
  have _u3 := h2
  refine wpAnyH_ready (rs := [1, 6]) (by kernel_rfl) (by simp) (AllReadyH.cons rfl (fun K hK => ?_) (AllReadyH.cons rfl (fun K hK => ?_) AllReadyH.nil))
  · refine stpB51 (h1 w) (fun v1 w' hv hb' => ?_)
    refine hK.out _ _ (hS.on hb') (fun _ => ?_)
    change wpAnyH _ _ _ _ _ _ _ (wpB51 v1 (sqB5 u a)) _
    exact stB510 Q w0 a g u q r ha hg hp h1 h2 hQ w' v1 (hS.on hb') (below_join hb hb' hb.size) hv
  · refine stpB56 ?_
    refine hK.out _ _ (hS.on (alloc_below w _)) (fun _ => ?_)
    change wpAnyH _ _ _ _ _ _ _ (wpB56 w.heap.size (sqB5 u a)) _
    exact stB501 Q w0 a g u q r ha hg hp h1 h2 hQ (w.alloc (.cells #[.bool false, .slice none 0 0, .slice none 0 0] 25)) w.heap.size (hS.on (alloc_below w _)) (below_join hb (alloc_below w _) hb.size) (resz_mk w) hb.size
end
theorem rgB5 (Q : Exit → Act → World → Prop) (w0 : World) (a : Act) (g : Nat) (u : Value) (q r : Rat) (ha : a.tmps.size = 349) (e1 : a.eval (.tmp 13) = .pointer (some ⟨g, 0, none⟩)) (hS : OneB g u q w0) (hp : ∀ (d : Nat) v c b w, Q (.panic c) (Act.put b (some d) v) w → Q (.panic c) b w)
  (h1 : ∀ X, Calls Tryz.prog 42 #[.int .i16 1, .int .i16 1] X (SmallPost (smq 1 1) X)) (h2 : ∀ X v, Below w0.heap.size w0 X → OneB g u q X → Rv X v (smq 1 1) → Calls Tryz.prog 25 #[u, v] X (RatPost r X))
  (hQ : ∀ (w : World) (x : Nat) (v1 v2 : Value), Below w0.heap.size w0 w → FB w x v2 r → Q .normal ((wpB52 v2 (wpB51 v1 (wpB56 x (sqB5 u a)))).put (some 4) (.int .i64 0)) w) :
    (Code.region 15 opsB5 true).wp Tryz.prog Q a w0 := by
  have hS' : OneB g u q w0.drew := hS.on (Below.refl _ _).drew
  refine wp_region_held (S := OneB g u q) (by kernel_rfl) ?_
  refine wpAnyH_take (i := 0) rfl (by kernel_rfl) (by kernel_rfl) (by kernel_rfl) (fun c b w h => hp _ _ c b w h) (ylB50 e1) hS' ?_
  change wpAnyH _ _ _ _ _ _ _ (sqB5 u a) _
  exact stB500 Q w0 a g u q r ha hS.lt hp h1 h2 hQ w0.drew hS' (Below.refl _ _).drew
end Go.Proofs.YtfdkdloldjfnjaaGreatDoor
