/-
  DERIVED. Numbers, lists of numbers and arcs in memory; the law of a range over an iterator that asks before it yields (stage 5).
-/
import Derived.Test.YtglpaihadongkaaAF
import Derived.Test.YtglpaihadongkaaProg
import Derived.WalkKit
import Derived.ProofKit
import Derived.Below
import Derived.BigQuiet
import Derived.Laws.Rows
import Derived.Laws.OwnMore
import Derived.Lib.Hide
import Derived.RangeFuncNested
import Derived.RangeFuncBound
import Derived.RangeFuncCalls
import Derived.RangeFuncLeaves
import Derived.RangeFuncBox
import Derived.Shelf.Abstract
import Derived.Shelf.RegionOpen
import Derived.OwnWalkIn
import Derived.TacticsInMore
import Derived.LoopNIn
import Derived.LoopIn
import Derived.Deep.DrawnRows
import Derived.Deep.AppendLies
import Derived.StillTailTactics
namespace Go.Proofs.Ytglpaihadongkaa
open Go.RowKit Go.Shelf
attribute [local go_sem] Oper.semAt_some
set_option maxRecDepth 100000

theorem below_join {B C : Nat} {a w w' : World} (h : Below B a w) (k : Below C w w') (hc : B ≤ C) : Below B a w' := h.trans (k.mono hc)
/-- Numbers, as a slice. -/
def IntSl (w : World) (v : Value) (l : List Int) : Prop :=
  ∃ A c, v = .slice A l.length c ∧ l.length ≤ c ∧ c ≤ maxLen ∧ (A = none → c = 0) ∧ (0 < l.length → ∃ b o, A = some ⟨b, o, none⟩ ∧ b < w.heap.size ∧ ∀ j x, l[j]? = some x → w.cell? ⟨b, o + j, none⟩ = some (.int .i64 x))
theorem IntSl.on {w w' : World} {v : Value} {l : List Int} {B : Nat} (h : IntSl w v l) (hb : Below B w w') (hB : w.heap.size ≤ B) : IntSl w' v l := by
  obtain ⟨A, c, h1, h2, h3, h5, h4⟩ := h
  refine ⟨A, c, h1, h2, h3, h5, fun h0 => ?_⟩
  obtain ⟨b, o, e, hlt, hc⟩ := h4 h0
  exact ⟨b, o, e, Nat.lt_of_lt_of_le hlt hb.size, fun j x hj => (hb.cell (p := ⟨b, o + j, none⟩) (by show b < B; omega)).trans (hc j x hj)⟩
theorem IntSl.nil (w : World) : IntSl w (.slice none 0 0) [] := ⟨none, 0, rfl, Nat.le_refl _, Nat.zero_le _, fun _ => rfl, fun h => absurd h (Nat.lt_irrefl _)⟩
theorem IntSl.shape {w : World} {v : Value} {l : List Int} (h : IntSl w v l) : ∃ A c, v = .slice A l.length c ∧ l.length ≤ c ∧ c ≤ maxLen := by
  obtain ⟨A, c, h1, h2, h3, -⟩ := h
  exact ⟨A, c, h1, h2, h3⟩
theorem IntSl.at_ {w : World} {v : Value} {l : List Int} (h : IntSl w v l) {k : Nat} {x : Int} (hk : l[k]? = some x) : ∃ b o c, v = .slice (some ⟨b, o, none⟩) l.length c ∧ b < w.heap.size ∧ l.length ≤ c ∧ c ≤ maxLen ∧ w.cell? ⟨b, o + k, none⟩ = some (.int .i64 x) := by
  obtain ⟨A, c, h1, h2, h3, -, h4⟩ := h
  obtain ⟨b, o, e, hlt, hc⟩ := h4 (by have := (List.getElem?_eq_some_iff.1 hk).1; omega)
  subst e
  exact ⟨b, o, c, h1, hlt, h2, h3, hc k x hk⟩
/-- Lists of numbers, as a slice of slices. -/
def LiSl (w : World) (v : Value) (ls : List (List Int)) : Prop :=
  ∃ A c, v = .slice A ls.length c ∧ ls.length ≤ c ∧ c ≤ maxLen ∧ (0 < ls.length → ∃ b o, A = some ⟨b, o, none⟩ ∧ b < w.heap.size ∧ ∀ j l, ls[j]? = some l → ∃ u, w.cell? ⟨b, o + j, none⟩ = some u ∧ IntSl w u l)
theorem LiSl.on {w w' : World} {v : Value} {ls : List (List Int)} {B : Nat} (h : LiSl w v ls) (hb : Below B w w') (hB : w.heap.size ≤ B) : LiSl w' v ls := by
  obtain ⟨A, c, h1, h2, h3, h4⟩ := h
  refine ⟨A, c, h1, h2, h3, fun h0 => ?_⟩
  obtain ⟨b, o, e, hlt, hc⟩ := h4 h0
  refine ⟨b, o, e, Nat.lt_of_lt_of_le hlt hb.size, fun j l hj => ?_⟩
  obtain ⟨u, hu, hl⟩ := hc j l hj
  exact ⟨u, (hb.cell (p := ⟨b, o + j, none⟩) (by show b < B; omega)).trans hu, hl.on hb hB⟩
theorem LiSl.shape {w : World} {v : Value} {ls : List (List Int)} (h : LiSl w v ls) : ∃ A c, v = .slice A ls.length c ∧ ls.length ≤ c ∧ c ≤ maxLen := by
  obtain ⟨A, c, h1, h2, h3, -⟩ := h
  exact ⟨A, c, h1, h2, h3⟩
theorem LiSl.at_ {w : World} {v : Value} {ls : List (List Int)} (h : LiSl w v ls) {k : Nat} {l : List Int} (hk : ls[k]? = some l) : ∃ b o c u, v = .slice (some ⟨b, o, none⟩) ls.length c ∧ b < w.heap.size ∧ ls.length ≤ c ∧ c ≤ maxLen ∧ w.cell? ⟨b, o + k, none⟩ = some u ∧ IntSl w u l := by
  obtain ⟨A, c, h1, h2, h3, h4⟩ := h
  obtain ⟨b, o, e, hlt, hc⟩ := h4 (by have := (List.getElem?_eq_some_iff.1 hk).1; omega)
  subst e
  obtain ⟨u, hu, hl⟩ := hc k l hk
  exact ⟨b, o, c, u, h1, hlt, h2, h3, hu, hl⟩
/-- Parts, as a slice. -/
def PtSl (w : World) (v : Value) (l : List (Int × Int × Int)) : Prop :=
  ∃ A c, v = .slice A l.length c ∧ l.length ≤ c ∧ c ≤ maxLen ∧ (0 < l.length → ∃ b o, A = some ⟨b, o, none⟩ ∧ b < w.heap.size ∧ ∀ j p, l[j]? = some p → w.cell? ⟨b, o + j * 3, none⟩ = some (.int .i64 p.1) ∧ w.cell? ⟨b, o + j * 3 + 1, none⟩ = some (.int .i64 p.2.1) ∧ w.cell? ⟨b, o + j * 3 + 2, none⟩ = some (.int .i64 p.2.2))
theorem PtSl.on {w w' : World} {v : Value} {l : List (Int × Int × Int)} {B : Nat} (h : PtSl w v l) (hb : Below B w w') (hB : w.heap.size ≤ B) : PtSl w' v l := by
  obtain ⟨A, c, h1, h2, h3, h4⟩ := h
  refine ⟨A, c, h1, h2, h3, fun h0 => ?_⟩
  obtain ⟨b, o, e, hlt, hc⟩ := h4 h0
  refine ⟨b, o, e, Nat.lt_of_lt_of_le hlt hb.size, fun j p hj => ?_⟩
  obtain ⟨c1, c2, c3⟩ := hc j p hj
  exact ⟨(hb.cell (p := ⟨b, o + j * 3, none⟩) (by show b < B; omega)).trans c1, (hb.cell (p := ⟨b, o + j * 3 + 1, none⟩) (by show b < B; omega)).trans c2, (hb.cell (p := ⟨b, o + j * 3 + 2, none⟩) (by show b < B; omega)).trans c3⟩
theorem PtSl.shape {w : World} {v : Value} {l : List (Int × Int × Int)} (h : PtSl w v l) : ∃ A c, v = .slice A l.length c ∧ l.length ≤ c ∧ c ≤ maxLen := by
  obtain ⟨A, c, h1, h2, h3, -⟩ := h
  exact ⟨A, c, h1, h2, h3⟩
theorem PtSl.at_ {w : World} {v : Value} {l : List (Int × Int × Int)} (h : PtSl w v l) {k : Nat} {p : Int × Int × Int} (hk : l[k]? = some p) : ∃ b o c, v = .slice (some ⟨b, o, none⟩) l.length c ∧ b < w.heap.size ∧ l.length ≤ c ∧ c ≤ maxLen ∧ w.cell? ⟨b, o + k * 3, none⟩ = some (.int .i64 p.1) ∧ w.cell? ⟨b, o + k * 3 + 1, none⟩ = some (.int .i64 p.2.1) ∧ w.cell? ⟨b, o + k * 3 + 2, none⟩ = some (.int .i64 p.2.2) := by
  obtain ⟨A, c, h1, h2, h3, h4⟩ := h
  obtain ⟨b, o, e, hlt, hc⟩ := h4 (by have := (List.getElem?_eq_some_iff.1 hk).1; omega)
  subst e
  exact ⟨b, o, c, h1, hlt, h2, h3, hc k p hk⟩
/-- The cells of some blocks stand. -/
structure KpG (Gd : Nat → Prop) (X Y : World) : Prop where
  size : X.heap.size ≤ Y.heap.size
  same : ∀ (k : Nat) (cs : Array Value) (t : TypeId) (fr : Nat × Nat), Gd k → X.heap[k]? = some (.cells cs t fr) → Y.heap[k]? = some (.cells cs t fr)
/-- An iterator's own steps: S: where its blocks begin; m: how many boxes of its own it has. -/
structure OwnIt (S m : Nat) (X Y : World) : Prop where
  os : Y.os = X.os
  tape : Y.tape = X.tape
  output : Y.output = X.output
  size : X.heap.size ≤ Y.heap.size
  same : ∀ (k : Nat) (o : Obj), X.heap[k]? = some o → (k < S ∨ (o.isCells = true ∧ S + m ≤ k)) → Y.heap[k]? = some o
/-- What a round that goes on keeps: the cells of some blocks and of the iterator's boxes; what is no cells from S on. -/
structure KpIt (S m : Nat) (Gd : Nat → Prop) (X Y : World) : Prop where
  size : X.heap.size ≤ Y.heap.size
  cells : ∀ (k : Nat) (cs : Array Value) (t : TypeId) (fr : Nat × Nat), (Gd k ∨ (S ≤ k ∧ k < S + m)) → X.heap[k]? = some (.cells cs t fr) → Y.heap[k]? = some (.cells cs t fr)
  others : ∀ (k : Nat) (o : Obj), S ≤ k → X.heap[k]? = some o → o.isCells = false → Y.heap[k]? = some o
section
variable {Gd : Nat → Prop} {S m : Nat} {X Y Z : World}
theorem at_lt {X : World} {b : Nat} {o : Obj} (h : X.heap[b]? = some o) : b < X.heap.size := (Array.getElem?_eq_some_iff.1 h).1
theorem KpG.refl (X : World) : KpG Gd X X := ⟨Nat.le_refl _, fun _ _ _ _ _ h => h⟩
theorem KpG.trans (h : KpG Gd X Y) (k : KpG Gd Y Z) : KpG Gd X Z := ⟨Nat.le_trans h.size k.size, fun i cs t fr g hi => k.same i cs t fr g (h.same i cs t fr g hi)⟩
theorem KpG.of_below {B : Nat} (h : Below B X Y) (hB : X.heap.size ≤ B) : KpG Gd X Y := ⟨h.size, fun k _ _ _ _ hk => (h.block k (Nat.lt_of_lt_of_le (at_lt hk) hB)).trans hk⟩
theorem OwnIt.refl (X : World) : OwnIt S m X X := ⟨rfl, rfl, rfl, Nat.le_refl _, fun _ _ h _ => h⟩
theorem OwnIt.trans (h : OwnIt S m X Y) (k : OwnIt S m Y Z) : OwnIt S m X Z := ⟨k.os.trans h.os, k.tape.trans h.tape, k.output.trans h.output, Nat.le_trans h.size k.size, fun i o hi ho => k.same i o (h.same i o hi ho) ho⟩
theorem OwnIt.of_below {B : Nat} (h : Below B X Y) (hB : X.heap.size ≤ B) : OwnIt S m X Y := ⟨h.os, h.tape, h.output, h.size, fun k _ hk _ => (h.block k (Nat.lt_of_lt_of_le (at_lt hk) hB)).trans hk⟩
/-- The steps of an iterator within another one's. -/
theorem OwnIt.outer {S' m' : Nat} (h : OwnIt S' m' X Y) (hS : S ≤ S') (hm : m' = 0) : OwnIt S m X Y := ⟨h.os, h.tape, h.output, h.size, fun k o hk ho => h.same k o hk (by
  subst hm
  rcases Nat.lt_or_ge k S' with h1 | h1
  · exact .inl h1
  · rcases ho with h2 | h2
    · omega
    · exact .inr ⟨h2.1, h1⟩)⟩
theorem put_else {W : World} {l k : Nat} {o' : Obj} {o : Obj} (hk : W.heap[k]? = some o) (hne : k ≠ l) : (W.putObj l o').heap[k]? = some o := (World.putObj_heap_other hne).trans hk
theorem put_here {W : World} {l : Nat} {o : Obj} (o' : Obj) (hl : W.heap[l]? = some o) : (W.putObj l o').heap[l]? = some o' := World.putObj_heap_same (Array.getElem?_eq_some_iff.1 hl).1
theorem put_cells {l : Nat} {o o' : Obj} {k : Nat} {cs : Array Value} {T : TypeId} {fr : Nat × Nat} (hk : X.heap[k]? = some (.cells cs T fr)) (hl : X.heap[l]? = some o) (ho : o.isCells = false) : (X.putObj l o').heap[k]? = some (.cells cs T fr) :=
  put_else hk (fun e => by subst e; rw [hl] at hk; cases hk; cases ho)
theorem OwnIt.put {l : Nat} {o : Obj} (o' : Obj) (hS : S ≤ l) (hl : X.heap[l]? = some o) (ho : o.isCells = false) : OwnIt S m X (X.putObj l o') :=
  ⟨rfl, rfl, rfl, by simp, fun k u hk hu => put_else hk (fun e => by
    subst e
    rw [hl] at hk; cases hk
    rcases hu with h | h
    · omega
    · rw [ho] at h; cases h.1)⟩
theorem OwnIt.store {b : Nat} (h : S ≤ b) (h2 : b < S + m) (x : Value) (o : Nat) : OwnIt S m X (X.setCell ⟨b, o, none⟩ x) :=
  ⟨rfl, rfl, rfl, by simp [World.setCell], fun k u hk hu => by
    have hne : k ≠ b := by rcases hu with h1 | h1 <;> omega
    rw [Below.heap_setCell _ ⟨b, o, none⟩ x k hne]; exact hk⟩
theorem KpG.put {l : Nat} {o : Obj} (o' : Obj) (hl : X.heap[l]? = some o) (ho : o.isCells = false) : KpG Gd X (X.putObj l o') :=
  ⟨by simp, fun k cs t fr _ hk => put_cells hk hl ho⟩
theorem KpIt.refl (X : World) : KpIt S m Gd X X := ⟨Nat.le_refl _, fun _ _ _ _ _ h => h, fun _ _ _ h _ => h⟩
theorem KpIt.trans (h : KpIt S m Gd X Y) (k : KpIt S m Gd Y Z) : KpIt S m Gd X Z :=
  ⟨Nat.le_trans h.size k.size, fun i cs t fr g hi => k.cells i cs t fr g (h.cells i cs t fr g hi), fun i o hS hi ho => k.others i o hS (h.others i o hS hi ho) ho⟩
theorem KpIt.put {l : Nat} {o : Obj} (o' : Obj) (hS : l < S) (hl : X.heap[l]? = some o) (ho : o.isCells = false) : KpIt S m Gd X (X.putObj l o') :=
  ⟨by simp, fun k cs t fr _ hk => put_cells hk hl ho, fun k u hk hu _ => put_else hu (by omega)⟩
theorem KpIt.of_below {B : Nat} (h : Below B X Y) (hB : X.heap.size ≤ B) : KpIt S m Gd X Y :=
  ⟨h.size, fun k _ _ _ _ hk => (h.block k (Nat.lt_of_lt_of_le (at_lt hk) hB)).trans hk, fun k _ _ hk _ => (h.block k (Nat.lt_of_lt_of_le (at_lt hk) hB)).trans hk⟩
theorem KpIt.good (h : KpIt S m Gd X Y) : KpG Gd X Y := ⟨h.size, fun k cs t fr g hk => h.cells k cs t fr (.inl g) hk⟩
theorem KpIt.from (h : KpIt S m Gd X Y) : KeepsFrom S X Y := ⟨h.size, fun k o hS hk ho => h.others k o hS hk ho⟩
theorem kf_up {B B' : Nat} (h : KeepsFrom B X Y) (hB : B ≤ B') : KeepsFrom B' X Y := ⟨h.size, fun k o hk ho => h.same k o (by omega) ho⟩
theorem kf_put {B l : Nat} (o' : Obj) (hS : l < B) : KeepsFrom B X (X.putObj l o') := ⟨by simp, fun k u hk hu _ => put_else hu (by omega)⟩
theorem kf_below {A B : Nat} (h : Below B X Y) (hB : X.heap.size ≤ B) : KeepsFrom A X Y := ⟨h.size, fun k _ _ hk _ => (h.block k (Nat.lt_of_lt_of_le (at_lt hk) hB)).trans hk⟩
theorem kf_store {B b o : Nat} (x : Value) {cs : Array Value} {t : TypeId} {fr : Nat × Nat} (hb : X.heap[b]? = some (.cells cs t fr)) : KeepsFrom B X (X.setCell ⟨b, o, none⟩ x) :=
  ⟨by simp [World.setCell], fun k u _ hk hu => by
    have hne : k ≠ b := fun e => by subst e; rw [hb] at hk; cases hk; cases hu
    rw [Below.heap_setCell _ ⟨b, o, none⟩ x k hne]; exact hk⟩
theorem calls_wide {n : Nat} {P : Program} {f : FuncId} {args : Array Value} {w : World} {R : Ending → World → Prop} (h : Calls P f args w R) : CallsIn Fence.wide n P f args w R := callsIn_wide.2 h
end
/-- What an iterator is that asks before it yields: whatever holds between two rounds, abides the iterator's own steps and the elements that it leaves out, holds behind all rounds, or a round has left. -/
def SeqIt {α : Type} (n : Nat) (P : Program) (g : Nat) (lb : Array Value) (m : Nat) (Gd : Nat → Prop) (ok : Array Value → α → Prop) (op cl : World → α → Prop) (ts : List α) (w : World) : Prop :=
  ∀ (l : Nat) (J Jx : List α → World → Prop) (W : World), KpG Gd w W → l < W.heap.size →
    (∀ pre X Y, J pre X → OwnIt W.heap.size m X Y → J pre Y) → (∀ pre X Y, Jx pre X → OwnIt W.heap.size m X Y → Jx pre Y) →
    (∀ pre t X, J pre X → pre ++ [t] <+: ts → op X t ∨ cl X t) → (∀ pre t X, J pre X → pre ++ [t] <+: ts → cl X t → J (pre ++ [t]) X) →
    (∀ pre v t W1, J pre W1 → W.heap.size + m ≤ W1.heap.size → ok v t → op W1 t → pre ++ [t] <+: ts → YieldAt Fence.wide (n - 1) P l v W1 fun e W' =>
      (e = .returned (.bool true) ∧ J (pre ++ [t]) W' ∧ KpIt W.heap.size m Gd W1 W') ∨ (e = .returned (.bool false) ∧ Jx (pre ++ [t]) W' ∧ KeepsFrom W.heap.size W1 W')) →
    J [] W →
    CallsIn Fence.wide n P g (#[.func (.yield l) #[] #[]] ++ lb) W fun e W' => (∃ v, e = .returned v) ∧ (J ts W' ∨ ∃ pre, pre <+: ts ∧ Jx pre W')

theorem YieldAt.any {m : Nat} (m' : Nat) {P : Program} {l : Nat} {args : Array Value} {W : World} {R : Ending → World → Prop} (h : YieldAt Fence.wide m P l args W R) : YieldAt Fence.wide m' P l args W R := by
  obtain ⟨fn, tmps, assign, body, hy, hR⟩ := h
  exact ⟨fn, tmps, assign, body, hy, ⟨hR.1, fun c cs _ => hR.2 c cs (room_wide _)⟩⟩
theorem SeqIt.anyDepth {α : Type} {n : Nat} (n' : Nat) {P : Program} {g : Nat} {lb : Array Value} {m : Nat} {Gd : Nat → Prop} {ok : Array Value → α → Prop} {op cl : World → α → Prop} {ts : List α} {w : World} (h : SeqIt n P g lb m Gd ok op cl ts w) : SeqIt n' P g lb m Gd ok op cl ts w := by
  intro l J Jx W h1 h2 h3 h4 ha hb h5 h6
  have := h l J Jx W h1 h2 h3 h4 ha hb (fun pre v t W1 a b c d e => YieldAt.any _ (h5 pre v t W1 a b c d e)) h6
  exact ⟨this.1, fun cs _ => this.2 cs (room_wide _)⟩

section
variable {α : Type} {n : Nat} {P : Program}
theorem wpIn_it {g : Operand} {ps : Array Tmp} {assign body : Code} {Q : Exit → Act → World → Prop} {a : Act} {w : World}
    (h1 : 1 ≤ n) {gf : Nat} {lb : Array Value} (hg : a.eval g = .func (.func gf) #[] lb) (eg : ∀ args w, (callFunc gf args).run P w = .ok (.enter gf args) w)
    {m : Nat} {Gd : Nat → Prop} {ok : Array Value → α → Prop} {op cl : World → α → Prop} {ts : List α} {w0 : World} (hseq : SeqIt (n - 1) P gf lb m Gd ok op cl ts w0) (hb0 : KpG Gd w0 w) (hps : ∀ v t, ok v t → v.size = ps.size)
    (I : List α → World → Prop) (Ix : Code → List α → World → Prop)
    (hIE : ∀ pre X Y, I pre X → OwnIt (w.heap.size + 2) m X Y → I pre Y) (hXE : ∀ c pre X Y, Ix c pre X → OwnIt (w.heap.size + 2) m X Y → Ix c pre Y)
    (hIP : ∀ (pre : List α) (X : World) (l : Nat) (o o' : Obj), I pre X → l = w.heap.size ∨ l = w.heap.size + 1 → X.heap[l]? = some o → o.isCells = false → I pre (X.putObj l o'))
    (hXP : ∀ (c : Code) (pre : List α) (X : World) (l : Nat) (o o' : Obj), Ix c pre X → l = w.heap.size ∨ l = w.heap.size + 1 → X.heap[l]? = some o → o.isCells = false → Ix c pre (X.putObj l o'))
    (hOB : ∀ (t : α) (X Y : World), op X t → Below X.heap.size X Y → op Y t) (hOP : ∀ (t : α) (X : World) (l : Nat) (o o' : Obj), op X t → X.heap[l]? = some o → o.isCells = false → op (X.putObj l o') t)
    (hRd : ∀ pre t X, I pre X → pre ++ [t] <+: ts → op X t ∨ cl X t) (hSk : ∀ pre t X, I pre X → pre ++ [t] <+: ts → cl X t → I (pre ++ [t]) X)
    (h0 : I [] w)
    (hround : ∀ (l : Nat) (pre : List α) (v : Array Value) (t : α) (W : World) (K : Act → World → Prop), pre ++ [t] <+: ts → ok v t →
      (∀ (a' : Act) (W' : World), Below W.heap.size W W' → (∀ X : World, (∃ o o' : Obj, W'.heap[l]? = some o ∧ o.isCells = false ∧ X = W'.putObj l o') → w.heap.size + 2 + m ≤ X.heap.size → I pre X → op X t → body.wpIn (Fence.wide.inRound l) (n - 1 - 1) P (ownPostG w.heap.size (KpIt (w.heap.size + 2) m Gd) I Ix (pre ++ [t]) X) a' X) → K a' W') →
      assign.wpIn (Fence.wide.inRound l) (n - 1 - 1) P (Exit.then K (fun _ _ _ => False)) { tmps := (ps.zip v).foldl (fun t (p, v) => t.setIfInBounds p v) a.tmps, defers := [] } W)
    (hdone : ∀ (D : Nat) (W : World), D = w.heap.size → I ts W → W.heap[D]? = some (.deferred (some [])) → Q .normal { a with defers := { target := .collected D, args := #[] } :: a.defers } W)
    (hstop : ∀ (D : Nat) (c : Code) (pre : List α) (W : World), D = w.heap.size → pre <+: ts → Ix c pre W → W.heap[D]? = some (.deferred (some [])) → c.wpIn Fence.wide n P Q { a with defers := { target := .collected D, args := #[] } :: a.defers } W) :
    (Code.rangeFunc g ps assign body).wpIn Fence.wide n P Q a w := by
  refine wpIn_rangeFunc fun fn hfn => ?_
  let D := w.heap.size
  let rec0 : LoopState → Option Code → Loop := fun st pe => { state := st, pending := pe, fn, tmps := a.tmps, params := ps, assign, body, defers := D }
  obtain ⟨V, hV⟩ : ∃ V, (w.alloc (.deferred (some []))).alloc (.loop (rec0 .ready none)) = V := ⟨_, rfl⟩
  have sV : (w.alloc (.deferred (some []))).heap.size = D + 1 := World.size_alloc ..
  have sV2 : V.heap.size = w.heap.size + 2 := by rw [← hV, World.size_alloc, sV]
  have lV : V.heap[D + 1]? = some (.loop (rec0 .ready none)) := by
    have := World.alloc_heap_new (w.alloc (.deferred (some []))) (.loop (rec0 .ready none))
    rwa [sV, hV] at this
  have dV : V.heap[D]? = some (.deferred (some [])) := by
    rw [← hV]
    exact (Below.heap_alloc _ _ _ (by rw [sV]; exact Nat.lt_succ_self _)).trans (World.alloc_heap_new w _)
  have bV : Below w.heap.size w V := by rw [← hV]; exact ((Below.refl _ w).alloc (Nat.le_refl _) _).alloc (by rw [sV]; exact Nat.le_succ _) _
  have iV : I [] V := hIE _ _ _ h0 (OwnIt.of_below bV (Nat.le_refl _))
  refine ⟨D + 1, [{ target := .collected D, args := #[] }], V, { target := .fn (.func gf) lb, args := #[.func (.yield (D + 1)) #[] #[]] }, V, gf, #[.func (.yield (D + 1)) #[] #[]] ++ lb, V, ?_, ?_, ?_, ?_, fun _ => h1, ?_⟩
  · rw [← hV]; exact run_enterLoop_outer _ _ _ _ _
  · simp only [resolve, hg]; simp [go_sem]
  · intro f' hf'; trivial
  · simp [invoke, go_sem, eg]
  -- between two rounds the record is ready and nothing is deferred; a round that has left lays its jump
  refine (hseq (D + 1) (fun pre W => I pre W ∧ W.heap[D + 1]? = some (.loop (rec0 .ready none)) ∧ W.heap[D]? = some (.deferred (some [])))
    (fun pre W => ∃ c, Ix c pre W ∧ W.heap[D + 1]? = some (.loop (rec0 .done (some c))) ∧ W.heap[D]? = some (.deferred (some []))) V (hb0.trans (KpG.of_below bV (Nat.le_refl _))) (by rw [sV2]; exact Nat.lt_succ_self _)
    (fun pre X Y h hE => ?_) (fun pre X Y h hE => ?_) (fun pre t X h hp => hRd pre t X h.1 hp) (fun pre t X h hp hc => ⟨hSk pre t X h.1 hp hc, h.2⟩) ?_ ⟨iV, lV, dV⟩).mono ?_
  · rw [sV2] at hE
    exact ⟨hIE _ _ _ h.1 hE, hE.same _ _ h.2.1 (.inl (Nat.lt_succ_self _)), hE.same _ _ h.2.2 (.inl (by show w.heap.size < _; omega))⟩
  · rw [sV2] at hE
    obtain ⟨c, hc, hl, hd⟩ := h
    exact ⟨c, hXE _ _ _ _ hc hE, hE.same _ _ hl (.inl (Nat.lt_succ_self _)), hE.same _ _ hd (.inl (by show w.heap.size < _; omega))⟩
  · rw [sV2]
    rintro pre v t W ⟨hi, hl, hd⟩ hsz hv hop hpre
    refine ⟨fn, _, assign, body, run_yield hl (by simp [rec0, hps _ _ hv]), roundIn_of_wpIn hfn (hround (D + 1) pre v t W _ hpre hv fun a' W' hBW hbody => ⟨_, run_beginRound ((hBW.block _ (Array.getElem?_eq_some_iff.1 hl).1).trans hl) rfl, ?_⟩)⟩
    have hl1 := (hBW.block _ (Array.getElem?_eq_some_iff.1 hl).1).trans hl
    have hd1 := (hBW.block _ (Array.getElem?_eq_some_iff.1 hd).1).trans hd
    have hi1 := hIE pre W W' hi (OwnIt.of_below hBW (Nat.le_refl _))
    have hl2 := put_here (.loop { rec0 .ready none with state := .busy }) hl1
    have hd2 : (W'.putObj (D + 1) (.loop { rec0 .ready none with state := .busy })).heap[D]? = some (.deferred (some [])) := put_else hd1 (by omega)
    have hk2 : KpIt (w.heap.size + 2) m Gd W (W'.putObj (D + 1) (.loop { rec0 .ready none with state := .busy })) := (KpIt.of_below hBW (Nat.le_refl _)).trans (KpIt.put _ (by show w.heap.size + 1 < _; omega) hl1 rfl)
    have hk3 : KeepsFrom (w.heap.size + 2) W (W'.putObj (D + 1) (.loop { rec0 .ready none with state := .busy })) := (kf_below hBW (Nat.le_refl _)).trans (kf_put _ (by show w.heap.size + 1 < _; omega))
    refine wpIn_mono (hbody _ ⟨_, _, hl1, rfl, rfl⟩ (by simp; exact Nat.le_trans hsz hBW.size) (hIP _ _ _ _ _ hi1 (.inr rfl) hl1 rfl) (hOP _ _ _ _ _ (hOB _ _ _ hop hBW) hl1 rfl)) ?_
    generalize W'.putObj (D + 1) (.loop { rec0 .ready none with state := .busy }) = X at hl2 hd2 hk2 hk3
    -- the end of a round
    have fin : ∀ (jump : Option Code) (Y : World), KeepsFrom w.heap.size X Y → Y.heap[D + 1]? = some (.loop { rec0 .ready none with state := .busy }) ∧
        (Instr.endRound (D + 1) jump).run P Y = .ok (.bool jump.isNone) (Y.putObj (D + 1) (.loop (rec0 (if jump.isNone then .ready else .done) jump))) ∧
        (Y.putObj (D + 1) (.loop (rec0 (if jump.isNone then .ready else .done) jump))).heap[D + 1]? = some (.loop (rec0 (if jump.isNone then .ready else .done) jump)) ∧
        (Y.putObj (D + 1) (.loop (rec0 (if jump.isNone then .ready else .done) jump))).heap[D]? = some (.deferred (some [])) := fun jump Y hY => by
      have l3 := hY.same _ _ (Nat.le_succ _) hl2 rfl
      exact ⟨l3, run_endRound jump l3, put_here _ l3, put_else (hY.same _ _ (Nat.le_refl _) hd2 rfl) (by omega)⟩
    intro e a3 Y hp
    have left : ∀ c : Code, KeepsFrom w.heap.size X Y → Ix c (pre ++ [t]) Y → ∃ v w', (Instr.endRound (D + 1) (some c)).run P Y = .ok v w' ∧ ((Ending.returned v = .returned (.bool true) ∧ (I (pre ++ [t]) w' ∧ w'.heap[D + 1]? = some (.loop (rec0 .ready none)) ∧ w'.heap[D]? = some (.deferred (some []))) ∧ KpIt (w.heap.size + 2) m Gd W w') ∨
        (Ending.returned v = .returned (.bool false) ∧ (∃ c, Ix c (pre ++ [t]) w' ∧ w'.heap[D + 1]? = some (.loop (rec0 .done (some c))) ∧ w'.heap[D]? = some (.deferred (some []))) ∧ KeepsFrom (w.heap.size + 2) W w')) := fun c hY hx => by
      obtain ⟨l3, r3, l4, d4⟩ := fin (some c) Y hY
      exact ⟨_, _, r3, .inr ⟨rfl, ⟨c, hXP _ _ _ _ _ _ hx (.inr rfl) l3 rfl, l4, d4⟩, (hk3.trans (kf_up hY (by omega))).trans (kf_put _ (by show w.heap.size + 1 < _; omega))⟩⟩
    cases e with
    | normal =>
      obtain ⟨hY, hkp, hi3⟩ := hp
      obtain ⟨l3, r3, l4, d4⟩ := fin none Y hY
      exact ⟨_, _, r3, .inl ⟨rfl, ⟨hIP _ _ _ _ _ hi3 (.inr rfl) l3 rfl, l4, d4⟩, (hk2.trans hkp).trans (KpIt.put _ (by show w.heap.size + 1 < _; omega) l3 rfl)⟩⟩
    | ret => exact left .ret hp.1 hp.2
    | exit id => exact left (.exit id) hp.1 hp.2
    | goto t => exact left (.goto t) hp.1 hp.2
    | panic ch => exact hp.elim
    | outgrown => exact hp.elim
  · rintro e Y ⟨⟨v, rfl⟩, ⟨hi, hl, hd⟩ | ⟨pre, hpre, c, hx, hl, hd⟩⟩
    · exact ⟨none, _, run_endLoop hl (by simp [rec0]), hdone D _ rfl (hIP _ _ _ _ _ hi (.inr rfl) hl rfl) (put_else hd (by omega))⟩
    · exact ⟨some c, _, run_endLoop hl (by simp [rec0]), hstop D c pre _ rfl hpre (hXP _ _ _ _ _ _ hx (.inr rfl) hl rfl) (put_else hd (by omega))⟩
end
/-- All blocks but b stand. -/
structure But (b : Nat) (X Y : World) : Prop where
  os : Y.os = X.os
  tape : Y.tape = X.tape
  output : Y.output = X.output
  size : X.heap.size ≤ Y.heap.size
  same : ∀ (k : Nat) (o : Obj), k ≠ b → X.heap[k]? = some o → Y.heap[k]? = some o
section
variable {b : Nat} {X Y Z : World}
theorem But.refl (X : World) : But b X X := ⟨rfl, rfl, rfl, Nat.le_refl _, fun _ _ _ h => h⟩
theorem But.trans (h : But b X Y) (k : But b Y Z) : But b X Z := ⟨k.os.trans h.os, k.tape.trans h.tape, k.output.trans h.output, Nat.le_trans h.size k.size, fun i o ho hi => k.same i o ho (h.same i o ho hi)⟩
theorem But.of_below {B : Nat} (h : Below B X Y) (hB : X.heap.size ≤ B) : But b X Y := ⟨h.os, h.tape, h.output, h.size, fun k _ _ hk => (h.block k (Nat.lt_of_lt_of_le (at_lt hk) hB)).trans hk⟩
theorem But.store (x : Value) (o : Nat) : But b X (X.setCell ⟨b, o, none⟩ x) :=
  ⟨rfl, rfl, rfl, by simp [World.setCell], fun k u hne hk => by rw [Below.heap_setCell _ ⟨b, o, none⟩ x k hne]; exact hk⟩
theorem But.drewN (n : Nat) : But b X (X.drewN n) := ⟨rfl, rfl, rfl, Nat.le_refl _, fun _ _ _ h => h⟩
theorem But.drew : But b X X.drew := ⟨rfl, rfl, rfl, Nat.le_refl _, fun _ _ _ h => h⟩
theorem But.below {w : World} (h : But b X Y) (k : Below w.heap.size w X) (hb : w.heap.size ≤ b) : Below w.heap.size w Y := by
  refine ⟨h.os.trans k.os, h.tape.trans k.tape, h.output.trans k.output, Nat.le_trans k.size h.size, fun i hi => ?_⟩
  have hlt : i < X.heap.size := Nat.lt_of_lt_of_le hi k.size
  have h3 := Array.getElem?_eq_getElem hlt
  have := h.same i _ (by omega) h3
  rw [this, ← h3]
  exact k.block i hi
theorem But.good {Gd : Nat → Prop} (h : But b X Y) (hg : ∀ k, Gd k → k ≠ b) : KpG Gd X Y := ⟨h.size, fun k _ _ _ g hk => h.same k _ (hg k g) hk⟩
end
section
variable {Gd : Nat → Prop} {X Y : World}
theorem cell_kept {c o : Nat} {v : Value} (h : X.cell? ⟨c, o, none⟩ = some v) (hk : KpG Gd X Y) (g : Gd c) : Y.cell? ⟨c, o, none⟩ = some v := by
  obtain ⟨ob, hob, hcl⟩ := cells_of_cell h
  cases ob with
  | cells cs t fr => exact (World.cell?_of_block (a := ⟨c, o, none⟩) ((hk.same _ _ _ _ g hob).trans hob.symm)).trans h
  | _ => cases hcl
theorem IntSl.kept {w : World} {v : Value} {l : List Int} (h : IntSl w v l) (h1 : Below w.heap.size w X) (hk : KpG Gd X Y) (hg : ∀ k, k < w.heap.size → Gd k) : IntSl Y v l := by
  obtain ⟨A, c, h1', h2, h3, h5, h4⟩ := h
  refine ⟨A, c, h1', h2, h3, h5, fun h0 => ?_⟩
  obtain ⟨b, o, e, hlt, hc⟩ := h4 h0
  exact ⟨b, o, e, Nat.lt_of_lt_of_le hlt (Nat.le_trans h1.size hk.size), fun j x hj => cell_kept ((h1.cell (p := ⟨b, o + j, none⟩) hlt).trans (hc j x hj)) hk (hg b hlt)⟩
theorem LiSl.kept {w : World} {v : Value} {ls : List (List Int)} (h : LiSl w v ls) (h1 : Below w.heap.size w X) (hk : KpG Gd X Y) (hg : ∀ k, k < w.heap.size → Gd k) : LiSl Y v ls := by
  obtain ⟨A, c, h1', h2, h3, h4⟩ := h
  refine ⟨A, c, h1', h2, h3, fun h0 => ?_⟩
  obtain ⟨b, o, e, hlt, hc⟩ := h4 h0
  refine ⟨b, o, e, Nat.lt_of_lt_of_le hlt (Nat.le_trans h1.size hk.size), fun j l hj => ?_⟩
  obtain ⟨u, hu, hl⟩ := hc j l hj
  exact ⟨u, cell_kept ((h1.cell (p := ⟨b, o + j, none⟩) hlt).trans hu) hk (hg b hlt), hl.kept h1 hk hg⟩
theorem PtSl.kept {w : World} {v : Value} {l : List (Int × Int × Int)} (h : PtSl w v l) (h1 : Below w.heap.size w X) (hk : KpG Gd X Y) (hg : ∀ k, k < w.heap.size → Gd k) : PtSl Y v l := by
  obtain ⟨A, c, h1', h2, h3, h4⟩ := h
  refine ⟨A, c, h1', h2, h3, fun h0 => ?_⟩
  obtain ⟨b, o, e, hlt, hc⟩ := h4 h0
  refine ⟨b, o, e, Nat.lt_of_lt_of_le hlt (Nat.le_trans h1.size hk.size), fun j p hj => ?_⟩
  obtain ⟨c1, c2, c3⟩ := hc j p hj
  exact ⟨cell_kept ((h1.cell (p := ⟨b, o + j * 3, none⟩) hlt).trans c1) hk (hg b hlt), cell_kept ((h1.cell (p := ⟨b, o + j * 3 + 1, none⟩) hlt).trans c2) hk (hg b hlt), cell_kept ((h1.cell (p := ⟨b, o + j * 3 + 2, none⟩) hlt).trans c3) hk (hg b hlt)⟩
end
theorem one_cell {W : World} {b : Nat} {x0 : Value} {T : TypeId} (h : W.heap[b]? = some (.cells #[x0] T (0, 0))) : W.cell? ⟨b, 0, none⟩ = some x0 := by simp [World.cell?, h]
theorem row_new (W : World) (o : Obj) (b : Nat) (hb : b = W.heap.size) : (W.alloc o).heap[b]? = some o := by subst hb; exact heap_alloc_new W o
theorem old_heap {X : World} {b : Nat} {o : Obj} (o' : Obj) (h : X.heap[b]? = some o) : (X.alloc o').heap[b]? = some o := (Below.heap_alloc _ _ _ (at_lt h)).trans h
theorem cell_of {W : World} {b i : Nat} {cs : Array Value} {T : TypeId} {fr : Nat × Nat} {v : Value} (h : W.heap[b]? = some (.cells cs T fr)) (hi : cs[i]? = some v) : W.cell? ⟨b, i, none⟩ = some v := by simp [World.cell?, h, hi]
theorem but_box {bs b : Nat} {X Y : World} {T : TypeId} {v : Value} (h : Boxed X b T v) (k : But bs X Y) (hne : b ≠ bs) : Boxed Y b T v := k.same _ _ hne h
theorem wpListIn_append_lies {F : Fence} {n : Nat} {P : Program} (w : World) {ops : Array Oper} {rest : List Oper} {o : Oper} {a : Act} {Q : Exit → Act → World → Prop}
    (hg : o.guard = none) (s x : Operand) (t : TypeId) (hop : o.op = Op.call { callee := Callee.builtin Builtin.append, args := #[s, x], argTypes := #[t, t] })
    (base : Nat) (e : TypeId) (i : TypeInfo) (z : Value) (size bytes : Nat) (h1 : P.underlying t = some (.slice e)) (h2 : P.info? e = some i) (h3 : i.zero = some z) (h4 : i.size = size) (h5 : i.bytes = bytes) (h6 : z.cells.size = size) (h7 : 0 < size)
    (v : Value) (k : Nat) (xs : List Value) (hs : a.eval s = v) (hown : w.ownsRow base e size v k xs) (ad : Addr) (m c : Nat) (news : List Value) (hx : a.eval x = .slice (some ad) m c) (hn : news.length = m * size)
    (hc : ∀ j u, news[j]? = some u → w.cell? (ad.add j) = some u) (h1c : ∀ u ∈ news, u.oneCell' = true) (hm : 0 < m) (b1 : k + m ≤ maxLen) (b2 : (k + m) * bytes ≤ 140737488355328) (b3 : base ≤ w.heap.size) (H : Nat) (hH : w.heap.size = H)
    (hK : ∀ g cap w', w'.ownsRow base e size (.slice (some ⟨g, 0, none⟩) (k + m) cap) (k + m) (xs ++ news) → w.grownBy w' v.ownBlock → (v.ownBlock = some g ∨ g = H) → wpListIn F n P ops Q rest (a.put o.dst (.slice (some ⟨g, 0, none⟩) (k + m) cap)) w') :
    wpListIn F n P ops Q (o :: rest) a w := by
  refine wpListIn_plain hg fun K hK' => ?_
  obtain ⟨g, cap, w', hrun, r1, r2, r3, -⟩ := run_append_lies (P := P) w t o.type base e i z size bytes h1 h2 h3 h4 h5 h6 h7 v k xs hown ad m c news hn hc h1c hm b1 b2 b3 H hH
  unfold Oper.wpIn
  refine ⟨?_, ?_⟩
  · simp [Oper.about, hop, resolve, Target.leads, Sem.run_pure]
  · rw [Oper.semAt_plain F _ _ (by rw [hop]; intro c hc'; cases hc')]
    simp [execOp, hop, resolve, invoke, builtin, hs, hx, hrun, Result.andThen]
    exact hK' _ _ (hK g cap w' r1 r2 r3)

theorem ownsRow_same {X Y : World} {base : Nat} {e : TypeId} {size n g cap : Nat} {xs : List Value} (h : X.ownsRow base e size (.slice (some ⟨g, 0, none⟩) n cap) n xs) (hs : ∀ o, X.heap[g]? = some o → Y.heap[g]? = some o) : Y.ownsRow base e size (.slice (some ⟨g, 0, none⟩) n cap) n xs := by
  obtain ⟨k1, ⟨e, -⟩ | ⟨g', cap', cur, e, k3, k4, k⟩⟩ := h
  · cases e
  · have e' := e
    injection e with e1 _ e2
    injection e1 with e1
    injection e1 with e1
    subst e1
    exact ⟨k1, .inr ⟨g, cap', cur, e', k3, hs _ k4, k⟩⟩
theorem ownsRow_block {X : World} {base : Nat} {e : TypeId} {size n g cap : Nat} {xs : List Value} (h : X.ownsRow base e size (.slice (some ⟨g, 0, none⟩) n cap) n xs) : ∃ cur, X.heap[g]? = some (.cells cur e (0, 0)) := by
  obtain ⟨k1, ⟨e, -⟩ | ⟨g', cap', cur, e, k3, k4, k⟩⟩ := h
  · cases e
  · injection e with e1 _ e2
    injection e1 with e1
    injection e1 with e1
    subst e1
    exact ⟨cur, k4⟩

/-- Numbers as cells. -/
def ints (l : List Int) : List Value := l.map fun x => .int .i64 x
theorem ints_snoc (l : List Int) (x : Int) : ints (l ++ [x]) = ints l ++ [.int .i64 x] := by simp [ints]
theorem own_intSl {w : World} {base : Nat} {v : Value} {l : List Int} (h : w.ownsRow base 3 1 v l.length (ints l)) : IntSl w v l := by
  have hc := h
  obtain ⟨k1, ⟨e, e2⟩ | ⟨g, cap, cur, e, k3, k4, k5, k6, k7, k8⟩⟩ := h
  · subst e
    obtain rfl : l = [] := List.eq_nil_of_length_eq_zero e2
    exact IntSl.nil w
  · subst e
    refine ⟨some ⟨g, 0, none⟩, cap, rfl, k5, k6, (by intro h; cases h), fun _ => ⟨g, 0, rfl, (Array.getElem?_eq_some_iff.1 k4).1, fun j x hj => ?_⟩⟩
    have hj' := (List.getElem?_eq_some_iff.1 hj).1
    rw [Nat.zero_add]
    have := hc.cellAt j (by simp; omega)
    rw [this]
    simp [ints, hj]
theorem below_own {w0 X Y : World} {S m : Nat} (h : Below w0.heap.size w0 X) (hE : OwnIt S m X Y) (hS : w0.heap.size ≤ S) : Below w0.heap.size w0 Y := by
  refine ⟨hE.os.trans h.os, hE.tape.trans h.tape, hE.output.trans h.output, Nat.le_trans h.size hE.size, fun k hk => ?_⟩
  have hlt : k < X.heap.size := Nat.lt_of_lt_of_le hk h.size
  have h3 := Array.getElem?_eq_getElem hlt
  have := hE.same k _ h3 (.inl (by omega))
  rw [this, ← h3]
  exact h.block k hk
theorem below_put {B l : Nat} {o' : Obj} {w X : World} (h : Below B w X) (hl : B ≤ l) : Below B w (X.putObj l o') :=
  ⟨h.os, h.tape, h.output, by simpa using h.size, fun k hk => (World.putObj_heap_other (by omega)).trans (h.block k hk)⟩
theorem own_row_kept {X Y : World} {base : Nat} {e : TypeId} {size n : Nat} {v : Value} {xs : List Value} (h : X.ownsRow base e size v n xs) (hs : ∀ g cur, v.ownBlock = some g → X.heap[g]? = some (.cells cur e (0, 0)) → Y.heap[g]? = some (.cells cur e (0, 0))) : Y.ownsRow base e size v n xs := by
  obtain ⟨k1, h | ⟨g, cap, cur, rfl, k3, k4, k⟩⟩ := h
  · exact ⟨k1, .inl h⟩
  · exact ⟨k1, .inr ⟨g, cap, cur, rfl, k3, hs g cur rfl k4, k⟩⟩
end Go.Proofs.Ytglpaihadongkaa
