/-
  DERIVED. Several texts in one.
-/
import Derived.Test.YtbbadnlaelgmlaaGreatProg
import Derived.WalkKit
import Derived.ProofKit
import Derived.Below
import Derived.BigQuiet
import Derived.Laws.Rows
import Derived.Lib.Hide
import Derived.RangeFuncNested
import Derived.RangeFuncBound
import Derived.RangeFuncCalls
import Derived.RangeFuncLeaves
import Derived.RangeFuncBox
import Derived.Shelf.Abstract
import Derived.Shelf.RegionOpen
import Derived.OwnWalkIn
import Derived.TacticsInMore
import Derived.LoopNIn
import Derived.LoopIn
import Derived.Deep.RegionHeld3
import Derived.Deep.DrawnRows
import Derived.StillTailTactics
import Derived.BigRegionIn
import Derived.Deep.AppendLies
import Derived.Laws.OwnMore
import Derived.BigRegion
import Derived.Deep.RegionLaw
set_option linter.unusedVariables false
set_option linter.unusedSimpArgs false

namespace Go.Proofs.YtbbadnlaelgmlaaGreat.v6

/-- The level after one tick. -/
def lv1 (C s a : Int) : Int := max 0 (s + a - C)
/-- The last level. -/
def lvE (C s : Int) (l : List Int) : Int := l.foldl (lv1 C) s
end Go.Proofs.YtbbadnlaelgmlaaGreat.v6

namespace Go.Proofs.YtbbadnlaelgmlaaGreat.v6

/-- The first place and the greatest number, from a place on and with what was found before. -/
def pkGo : Int → Int × Int → List Int → Int × Int
  | _, b, [] => b
  | i, b, x :: l => pkGo (i + 1) (if b.2 < x then (i, x) else b) l
end Go.Proofs.YtbbadnlaelgmlaaGreat.v6

namespace Go.Proofs.YtbbadnlaelgmlaaGreat.v6
open Go.RowKit
set_option maxRecDepth 100000

/-- Numbers, as a slice. -/
def IntSl (w : World) (v : Value) (l : List Int) : Prop :=
  ∃ A c, v = .slice A l.length c ∧ l.length ≤ c ∧ c ≤ maxLen ∧ (A = none → c = 0) ∧ (0 < l.length → ∃ b o, A = some ⟨b, o, none⟩ ∧ b < w.heap.size ∧ ∀ j x, l[j]? = some x → w.cell? ⟨b, o + j, none⟩ = some (.int .i64 x))
theorem IntSl.on {w w' : World} {v : Value} {l : List Int} {B : Nat} (h : IntSl w v l) (hb : Below B w w') (hB : w.heap.size ≤ B) : IntSl w' v l := by
  obtain ⟨A, c, h1, h2, h3, h5, h4⟩ := h
  refine ⟨A, c, h1, h2, h3, h5, fun h0 => ?_⟩
  obtain ⟨b, o, e, hlt, hc⟩ := h4 h0
  exact ⟨b, o, e, Nat.lt_of_lt_of_le hlt hb.size, fun j x hj => (hb.cell (p := ⟨b, o + j, none⟩) (by show b < B; omega)).trans (hc j x hj)⟩
theorem IntSl.nil (w : World) : IntSl w (.slice none 0 0) [] := ⟨none, 0, rfl, Nat.le_refl _, Nat.zero_le _, fun _ => rfl, fun h => absurd h (Nat.lt_irrefl _)⟩
theorem IntSl.at_ {w : World} {v : Value} {l : List Int} (h : IntSl w v l) {k : Nat} {x : Int} (hk : l[k]? = some x) : ∃ b o c, v = .slice (some ⟨b, o, none⟩) l.length c ∧ b < w.heap.size ∧ l.length ≤ c ∧ c ≤ maxLen ∧ w.cell? ⟨b, o + k, none⟩ = some (.int .i64 x) := by
  obtain ⟨A, c, h1, h2, h3, -, h4⟩ := h
  obtain ⟨b, o, e, hlt, hc⟩ := h4 (by have := (List.getElem?_eq_some_iff.1 hk).1; omega)
  subst e
  exact ⟨b, o, c, h1, hlt, h2, h3, hc k x hk⟩
/-- Lists of numbers, as a slice of slices. -/
def LiSl (w : World) (v : Value) (ls : List (List Int)) : Prop :=
  ∃ A c, v = .slice A ls.length c ∧ ls.length ≤ c ∧ c ≤ maxLen ∧ (0 < ls.length → ∃ b o, A = some ⟨b, o, none⟩ ∧ b < w.heap.size ∧ ∀ j l, ls[j]? = some l → ∃ u, w.cell? ⟨b, o + j, none⟩ = some u ∧ IntSl w u l)
theorem LiSl.on {w w' : World} {v : Value} {ls : List (List Int)} {B : Nat} (h : LiSl w v ls) (hb : Below B w w') (hB : w.heap.size ≤ B) : LiSl w' v ls := by
  obtain ⟨A, c, h1, h2, h3, h4⟩ := h
  refine ⟨A, c, h1, h2, h3, fun h0 => ?_⟩
  obtain ⟨b, o, e, hlt, hc⟩ := h4 h0
  refine ⟨b, o, e, Nat.lt_of_lt_of_le hlt hb.size, fun j l hj => ?_⟩
  obtain ⟨u, hu, hl⟩ := hc j l hj
  exact ⟨u, (hb.cell (p := ⟨b, o + j, none⟩) (by show b < B; omega)).trans hu, hl.on hb hB⟩
theorem LiSl.at_ {w : World} {v : Value} {ls : List (List Int)} (h : LiSl w v ls) {k : Nat} {l : List Int} (hk : ls[k]? = some l) : ∃ b o c u, v = .slice (some ⟨b, o, none⟩) ls.length c ∧ b < w.heap.size ∧ ls.length ≤ c ∧ c ≤ maxLen ∧ w.cell? ⟨b, o + k, none⟩ = some u ∧ IntSl w u l := by
  obtain ⟨A, c, h1, h2, h3, h4⟩ := h
  obtain ⟨b, o, e, hlt, hc⟩ := h4 (by have := (List.getElem?_eq_some_iff.1 hk).1; omega)
  subst e
  obtain ⟨u, hu, hl⟩ := hc k l hk
  exact ⟨b, o, c, u, h1, hlt, h2, h3, hu, hl⟩
/-- Parts, as a slice. -/
def PtSl (w : World) (v : Value) (l : List (Int × Int × Int)) : Prop :=
  ∃ A c, v = .slice A l.length c ∧ l.length ≤ c ∧ c ≤ maxLen ∧ (0 < l.length → ∃ b o, A = some ⟨b, o, none⟩ ∧ b < w.heap.size ∧ ∀ j p, l[j]? = some p → w.cell? ⟨b, o + j * 3, none⟩ = some (.int .i64 p.1) ∧ w.cell? ⟨b, o + j * 3 + 1, none⟩ = some (.int .i64 p.2.1) ∧ w.cell? ⟨b, o + j * 3 + 2, none⟩ = some (.int .i64 p.2.2))
theorem PtSl.on {w w' : World} {v : Value} {l : List (Int × Int × Int)} {B : Nat} (h : PtSl w v l) (hb : Below B w w') (hB : w.heap.size ≤ B) : PtSl w' v l := by
  obtain ⟨A, c, h1, h2, h3, h4⟩ := h
  refine ⟨A, c, h1, h2, h3, fun h0 => ?_⟩
  obtain ⟨b, o, e, hlt, hc⟩ := h4 h0
  refine ⟨b, o, e, Nat.lt_of_lt_of_le hlt hb.size, fun j p hj => ?_⟩
  obtain ⟨c1, c2, c3⟩ := hc j p hj
  exact ⟨(hb.cell (p := ⟨b, o + j * 3, none⟩) (by show b < B; omega)).trans c1, (hb.cell (p := ⟨b, o + j * 3 + 1, none⟩) (by show b < B; omega)).trans c2, (hb.cell (p := ⟨b, o + j * 3 + 2, none⟩) (by show b < B; omega)).trans c3⟩
theorem PtSl.at_ {w : World} {v : Value} {l : List (Int × Int × Int)} (h : PtSl w v l) {k : Nat} {p : Int × Int × Int} (hk : l[k]? = some p) : ∃ b o c, v = .slice (some ⟨b, o, none⟩) l.length c ∧ b < w.heap.size ∧ l.length ≤ c ∧ c ≤ maxLen ∧ w.cell? ⟨b, o + k * 3, none⟩ = some (.int .i64 p.1) ∧ w.cell? ⟨b, o + k * 3 + 1, none⟩ = some (.int .i64 p.2.1) ∧ w.cell? ⟨b, o + k * 3 + 2, none⟩ = some (.int .i64 p.2.2) := by
  obtain ⟨A, c, h1, h2, h3, h4⟩ := h
  obtain ⟨b, o, e, hlt, hc⟩ := h4 (by have := (List.getElem?_eq_some_iff.1 hk).1; omega)
  subst e
  exact ⟨b, o, c, h1, hlt, h2, h3, hc k p hk⟩
end Go.Proofs.YtbbadnlaelgmlaaGreat.v6

namespace Go.Proofs.YtbbadnlaelgmlaaGreat.v6
open Go.RowKit Go.Shelf

/-- The cells of some blocks stand. -/
structure KpG (Gd : Nat → Prop) (X Y : World) : Prop where
  size : X.heap.size ≤ Y.heap.size
  same : ∀ (k : Nat) (cs : Array Value) (t : TypeId) (fr : Nat × Nat), Gd k → X.heap[k]? = some (.cells cs t fr) → Y.heap[k]? = some (.cells cs t fr)
/-- An iterator's own steps: S: where its blocks begin; m: how many boxes of its own it has. -/
structure OwnIt (S m : Nat) (X Y : World) : Prop where
  os : Y.os = X.os
  tape : Y.tape = X.tape
  output : Y.output = X.output
  size : X.heap.size ≤ Y.heap.size
  same : ∀ (k : Nat) (o : Obj), X.heap[k]? = some o → (k < S ∨ (o.isCells = true ∧ S + m ≤ k)) → Y.heap[k]? = some o
/-- What a round that goes on keeps: the cells of some blocks and of the iterator's boxes; what is no cells from S on. -/
structure KpIt (S m : Nat) (Gd : Nat → Prop) (X Y : World) : Prop where
  size : X.heap.size ≤ Y.heap.size
  cells : ∀ (k : Nat) (cs : Array Value) (t : TypeId) (fr : Nat × Nat), (Gd k ∨ (S ≤ k ∧ k < S + m)) → X.heap[k]? = some (.cells cs t fr) → Y.heap[k]? = some (.cells cs t fr)
  others : ∀ (k : Nat) (o : Obj), S ≤ k → X.heap[k]? = some o → o.isCells = false → Y.heap[k]? = some o
section
variable {Gd : Nat → Prop} {S m : Nat} {X Y Z : World}
theorem at_lt {X : World} {b : Nat} {o : Obj} (h : X.heap[b]? = some o) : b < X.heap.size := (Array.getElem?_eq_some_iff.1 h).1
theorem KpG.refl (X : World) : KpG Gd X X := ⟨Nat.le_refl _, fun _ _ _ _ _ h => h⟩
theorem KpG.trans (h : KpG Gd X Y) (k : KpG Gd Y Z) : KpG Gd X Z := ⟨Nat.le_trans h.size k.size, fun i cs t fr g hi => k.same i cs t fr g (h.same i cs t fr g hi)⟩
theorem KpG.of_below {B : Nat} (h : Below B X Y) (hB : X.heap.size ≤ B) : KpG Gd X Y := ⟨h.size, fun k _ _ _ _ hk => (h.block k (Nat.lt_of_lt_of_le (at_lt hk) hB)).trans hk⟩
theorem OwnIt.refl (X : World) : OwnIt S m X X := ⟨rfl, rfl, rfl, Nat.le_refl _, fun _ _ h _ => h⟩
theorem OwnIt.trans (h : OwnIt S m X Y) (k : OwnIt S m Y Z) : OwnIt S m X Z := ⟨k.os.trans h.os, k.tape.trans h.tape, k.output.trans h.output, Nat.le_trans h.size k.size, fun i o hi ho => k.same i o (h.same i o hi ho) ho⟩
theorem OwnIt.of_below {B : Nat} (h : Below B X Y) (hB : X.heap.size ≤ B) : OwnIt S m X Y := ⟨h.os, h.tape, h.output, h.size, fun k _ hk _ => (h.block k (Nat.lt_of_lt_of_le (at_lt hk) hB)).trans hk⟩
/-- The steps of an iterator within another one's. -/
theorem OwnIt.outer {S' m' : Nat} (h : OwnIt S' m' X Y) (hS : S ≤ S') (hm : m' = 0) : OwnIt S m X Y := ⟨h.os, h.tape, h.output, h.size, fun k o hk ho => h.same k o hk (by
  subst hm
  rcases Nat.lt_or_ge k S' with h1 | h1
  · exact .inl h1
  · rcases ho with h2 | h2
    · omega
    · exact .inr ⟨h2.1, h1⟩)⟩
theorem put_else {W : World} {l k : Nat} {o' : Obj} {o : Obj} (hk : W.heap[k]? = some o) (hne : k ≠ l) : (W.putObj l o').heap[k]? = some o := (World.putObj_heap_other hne).trans hk
theorem put_cells {l : Nat} {o o' : Obj} {k : Nat} {cs : Array Value} {T : TypeId} {fr : Nat × Nat} (hk : X.heap[k]? = some (.cells cs T fr)) (hl : X.heap[l]? = some o) (ho : o.isCells = false) : (X.putObj l o').heap[k]? = some (.cells cs T fr) :=
  put_else hk (fun e => by subst e; rw [hl] at hk; cases hk; cases ho)
theorem OwnIt.put {l : Nat} {o : Obj} (o' : Obj) (hS : S ≤ l) (hl : X.heap[l]? = some o) (ho : o.isCells = false) : OwnIt S m X (X.putObj l o') :=
  ⟨rfl, rfl, rfl, by simp, fun k u hk hu => put_else hk (fun e => by
    subst e
    rw [hl] at hk; cases hk
    rcases hu with h | h
    · omega
    · rw [ho] at h; cases h.1)⟩
theorem OwnIt.store {b : Nat} (h : S ≤ b) (h2 : b < S + m) (x : Value) (o : Nat) : OwnIt S m X (X.setCell ⟨b, o, none⟩ x) :=
  ⟨rfl, rfl, rfl, by simp [World.setCell], fun k u hk hu => by
    have hne : k ≠ b := by rcases hu with h1 | h1 <;> omega
    rw [Below.heap_setCell _ ⟨b, o, none⟩ x k hne]; exact hk⟩
theorem KpG.put {l : Nat} {o : Obj} (o' : Obj) (hl : X.heap[l]? = some o) (ho : o.isCells = false) : KpG Gd X (X.putObj l o') :=
  ⟨by simp, fun k cs t fr _ hk => put_cells hk hl ho⟩
theorem KpIt.refl (X : World) : KpIt S m Gd X X := ⟨Nat.le_refl _, fun _ _ _ _ _ h => h, fun _ _ _ h _ => h⟩
theorem KpIt.trans (h : KpIt S m Gd X Y) (k : KpIt S m Gd Y Z) : KpIt S m Gd X Z :=
  ⟨Nat.le_trans h.size k.size, fun i cs t fr g hi => k.cells i cs t fr g (h.cells i cs t fr g hi), fun i o hS hi ho => k.others i o hS (h.others i o hS hi ho) ho⟩
theorem KpIt.put {l : Nat} {o : Obj} (o' : Obj) (hS : l < S) (hl : X.heap[l]? = some o) (ho : o.isCells = false) : KpIt S m Gd X (X.putObj l o') :=
  ⟨by simp, fun k cs t fr _ hk => put_cells hk hl ho, fun k u hk hu _ => put_else hu (by omega)⟩
theorem KpIt.of_below {B : Nat} (h : Below B X Y) (hB : X.heap.size ≤ B) : KpIt S m Gd X Y :=
  ⟨h.size, fun k _ _ _ _ hk => (h.block k (Nat.lt_of_lt_of_le (at_lt hk) hB)).trans hk, fun k _ _ hk _ => (h.block k (Nat.lt_of_lt_of_le (at_lt hk) hB)).trans hk⟩
theorem KpIt.good (h : KpIt S m Gd X Y) : KpG Gd X Y := ⟨h.size, fun k cs t fr g hk => h.cells k cs t fr (.inl g) hk⟩
theorem KpIt.from (h : KpIt S m Gd X Y) : KeepsFrom S X Y := ⟨h.size, fun k o hS hk ho => h.others k o hS hk ho⟩
end
theorem YieldAt.any {m : Nat} (m' : Nat) {P : Program} {l : Nat} {args : Array Value} {W : World} {R : Ending → World → Prop} (h : YieldAt Fence.wide m P l args W R) : YieldAt Fence.wide m' P l args W R := by
  obtain ⟨fn, tmps, assign, body, hy, hR⟩ := h
  exact ⟨fn, tmps, assign, body, hy, ⟨hR.1, fun c cs _ => hR.2 c cs (room_wide _)⟩⟩
section
variable {α : Type} {n : Nat} {P : Program}
end
end Go.Proofs.YtbbadnlaelgmlaaGreat.v6

namespace Go.Proofs.YtbbadnlaelgmlaaGreat.v6
open Go.RowKit

set_option maxRecDepth 100000

/-- All blocks but b stand. -/
structure But (b : Nat) (X Y : World) : Prop where
  os : Y.os = X.os
  tape : Y.tape = X.tape
  output : Y.output = X.output
  size : X.heap.size ≤ Y.heap.size
  same : ∀ (k : Nat) (o : Obj), k ≠ b → X.heap[k]? = some o → Y.heap[k]? = some o
section
variable {b : Nat} {X Y Z : World}
theorem But.refl (X : World) : But b X X := ⟨rfl, rfl, rfl, Nat.le_refl _, fun _ _ _ h => h⟩
theorem But.trans (h : But b X Y) (k : But b Y Z) : But b X Z := ⟨k.os.trans h.os, k.tape.trans h.tape, k.output.trans h.output, Nat.le_trans h.size k.size, fun i o ho hi => k.same i o ho (h.same i o ho hi)⟩
theorem But.of_below {B : Nat} (h : Below B X Y) (hB : X.heap.size ≤ B) : But b X Y := ⟨h.os, h.tape, h.output, h.size, fun k _ _ hk => (h.block k (Nat.lt_of_lt_of_le (at_lt hk) hB)).trans hk⟩
theorem But.store (x : Value) (o : Nat) : But b X (X.setCell ⟨b, o, none⟩ x) :=
  ⟨rfl, rfl, rfl, by simp [World.setCell], fun k u hne hk => by rw [Below.heap_setCell _ ⟨b, o, none⟩ x k hne]; exact hk⟩
theorem But.drewN (n : Nat) : But b X (X.drewN n) := ⟨rfl, rfl, rfl, Nat.le_refl _, fun _ _ _ h => h⟩
theorem But.drew : But b X X.drew := ⟨rfl, rfl, rfl, Nat.le_refl _, fun _ _ _ h => h⟩
theorem But.below {w : World} (h : But b X Y) (k : Below w.heap.size w X) (hb : w.heap.size ≤ b) : Below w.heap.size w Y := by
  refine ⟨h.os.trans k.os, h.tape.trans k.tape, h.output.trans k.output, Nat.le_trans k.size h.size, fun i hi => ?_⟩
  have hlt : i < X.heap.size := Nat.lt_of_lt_of_le hi k.size
  have h3 := Array.getElem?_eq_getElem hlt
  have := h.same i _ (by omega) h3
  rw [this, ← h3]
  exact k.block i hi
theorem But.good {Gd : Nat → Prop} (h : But b X Y) (hg : ∀ k, Gd k → k ≠ b) : KpG Gd X Y := ⟨h.size, fun k _ _ _ g hk => h.same k _ (hg k g) hk⟩
end
section
variable {Gd : Nat → Prop} {X Y : World}
theorem cell_kept {c o : Nat} {v : Value} (h : X.cell? ⟨c, o, none⟩ = some v) (hk : KpG Gd X Y) (g : Gd c) : Y.cell? ⟨c, o, none⟩ = some v := by
  obtain ⟨ob, hob, hcl⟩ := cells_of_cell h
  cases ob with
  | cells cs t fr => exact (World.cell?_of_block (a := ⟨c, o, none⟩) ((hk.same _ _ _ _ g hob).trans hob.symm)).trans h
  | _ => cases hcl
theorem IntSl.kept {w : World} {v : Value} {l : List Int} (h : IntSl w v l) (h1 : Below w.heap.size w X) (hk : KpG Gd X Y) (hg : ∀ k, k < w.heap.size → Gd k) : IntSl Y v l := by
  obtain ⟨A, c, h1', h2, h3, h5, h4⟩ := h
  refine ⟨A, c, h1', h2, h3, h5, fun h0 => ?_⟩
  obtain ⟨b, o, e, hlt, hc⟩ := h4 h0
  exact ⟨b, o, e, Nat.lt_of_lt_of_le hlt (Nat.le_trans h1.size hk.size), fun j x hj => cell_kept ((h1.cell (p := ⟨b, o + j, none⟩) hlt).trans (hc j x hj)) hk (hg b hlt)⟩
theorem LiSl.kept {w : World} {v : Value} {ls : List (List Int)} (h : LiSl w v ls) (h1 : Below w.heap.size w X) (hk : KpG Gd X Y) (hg : ∀ k, k < w.heap.size → Gd k) : LiSl Y v ls := by
  obtain ⟨A, c, h1', h2, h3, h4⟩ := h
  refine ⟨A, c, h1', h2, h3, fun h0 => ?_⟩
  obtain ⟨b, o, e, hlt, hc⟩ := h4 h0
  refine ⟨b, o, e, Nat.lt_of_lt_of_le hlt (Nat.le_trans h1.size hk.size), fun j l hj => ?_⟩
  obtain ⟨u, hu, hl⟩ := hc j l hj
  exact ⟨u, cell_kept ((h1.cell (p := ⟨b, o + j, none⟩) hlt).trans hu) hk (hg b hlt), hl.kept h1 hk hg⟩
theorem PtSl.kept {w : World} {v : Value} {l : List (Int × Int × Int)} (h : PtSl w v l) (h1 : Below w.heap.size w X) (hk : KpG Gd X Y) (hg : ∀ k, k < w.heap.size → Gd k) : PtSl Y v l := by
  obtain ⟨A, c, h1', h2, h3, h4⟩ := h
  refine ⟨A, c, h1', h2, h3, fun h0 => ?_⟩
  obtain ⟨b, o, e, hlt, hc⟩ := h4 h0
  refine ⟨b, o, e, Nat.lt_of_lt_of_le hlt (Nat.le_trans h1.size hk.size), fun j p hj => ?_⟩
  obtain ⟨c1, c2, c3⟩ := hc j p hj
  exact ⟨cell_kept ((h1.cell (p := ⟨b, o + j * 3, none⟩) hlt).trans c1) hk (hg b hlt), cell_kept ((h1.cell (p := ⟨b, o + j * 3 + 1, none⟩) hlt).trans c2) hk (hg b hlt), cell_kept ((h1.cell (p := ⟨b, o + j * 3 + 2, none⟩) hlt).trans c3) hk (hg b hlt)⟩
end
end Go.Proofs.YtbbadnlaelgmlaaGreat.v6

namespace Go.Proofs.YtbbadnlaelgmlaaGreat.v6
open Go.RowKit
set_option maxRecDepth 100000

theorem PtSl.but {w X Y : World} {v : Value} {l : List (Int × Int × Int)} {bs : Nat} (h : PtSl w v l) (h1 : Below w.heap.size w X) (k : But bs X Y) (hb : w.heap.size ≤ bs) : PtSl Y v l :=
  h.kept (Gd := fun k => k ≠ bs) h1 (k.good fun _ h => h) (fun k hk => by omega)
theorem LiSl.but {w X Y : World} {v : Value} {l : List (List Int)} {bs : Nat} (h : LiSl w v l) (h1 : Below w.heap.size w X) (k : But bs X Y) (hb : w.heap.size ≤ bs) : LiSl Y v l :=
  h.kept (Gd := fun k => k ≠ bs) h1 (k.good fun _ h => h) (fun k hk => by omega)
end Go.Proofs.YtbbadnlaelgmlaaGreat.v6

namespace Go.Proofs.YtbbadnlaelgmlaaGreat.v6
open Go.RowKit Go.Shelf
attribute [local go_sem] Oper.semAt_some
set_option maxRecDepth 100000

/-- The ticks with their levels. -/
def lvI (C : Int) : Nat → Int → List Int → List (Nat × Int)
  | k, s, [] => [(k, s)]
  | k, s, a :: l => (k, s) :: lvI C (k + 1) (lv1 C s a) l
/-- Between two rounds over the amounts. -/
structure LvJ (Gd : Nat → Prop) (w : World) (lp S bt bl : Nat) (C s : Int) (J : List (Nat × Int) → World → Prop) (pre : List Int) (X : World) : Prop where
  yl : Boxed X S 97 (.func (.yield lp) #[] #[])
  tk : Boxed X bt 3 (.int .i64 (pre.length : Int))
  lv : Boxed X bl 3 (.int .i64 (lvE C s pre))
  kp : KpG Gd w X
  sz : S + 3 ≤ X.heap.size
  out : J (lvI C 0 s pre) X
theorem OwnIt.good {S m : Nat} {Gd : Nat → Prop} {X Y : World} (h : OwnIt S m X Y) (hm : m = 0) : KpG Gd X Y := ⟨h.size, fun k cs t fr _ hk => h.same k _ hk (by
  subst hm
  rcases Nat.lt_or_ge k S with h1 | h1
  · exact .inl h1
  · exact .inr ⟨rfl, h1⟩)⟩
section
variable {Gd : Nat → Prop} {w X Y : World} {lp S bt bl : Nat} {C s : Int} {J : List (Nat × Int) → World → Prop} {pre : List Int}
theorem LvJ.own {S2 : Nat} (h : LvJ Gd w lp S bt bl C s J pre X) (hJ : ∀ pre X Y, J pre X → OwnIt S 3 X Y → J pre Y) (hb : bt < S + 3 ∧ bl < S + 3) (h2 : S + 3 ≤ S2) (hE : OwnIt S2 0 X Y) : LvJ Gd w lp S bt bl C s J pre Y :=
  ⟨hE.same _ _ h.yl (.inl (by omega)), hE.same _ _ h.tk (.inl (by omega)), hE.same _ _ h.lv (.inl (by omega)), h.kp.trans (hE.good rfl), Nat.le_trans h.sz hE.size, hJ _ _ _ h.out (hE.outer (by omega) rfl)⟩
theorem LvJ.put {l : Nat} {o o' : Obj} (h : LvJ Gd w lp S bt bl C s J pre X) (hJ : ∀ pre X Y, J pre X → OwnIt S 3 X Y → J pre Y) (hl : S ≤ l) (ho : X.heap[l]? = some o) (hc : o.isCells = false) : LvJ Gd w lp S bt bl C s J pre (X.putObj l o') :=
  ⟨put_cells h.yl ho hc, put_cells h.tk ho hc, put_cells h.lv ho hc, h.kp.trans (KpG.put o' ho hc), by rw [World.putObj_size]; exact h.sz, hJ _ _ _ h.out (OwnIt.put o' hl ho hc)⟩
end
section
variable {Gd : Nat → Prop} {Y : World} {bt bl : Nat} {x y : Value}
end
end Go.Proofs.YtbbadnlaelgmlaaGreat.v6

namespace Go.Proofs.YtbbadnlaelgmlaaGreat.v6
open Go.RowKit Go.Shelf
attribute [local go_sem] Oper.semAt_some
set_option maxRecDepth 100000

/-- Numbers as cells. -/
def ints (l : List Int) : List Value := l.map fun x => .int .i64 x
/-- What was yielded so far lies in a row of its own, from S on, and its variable in the box bc. -/
structure ColI (w0 : World) (bc S : Nat) (xs : List Int) (X : World) : Prop where
  row : ∃ v, Boxed X bc 91 v ∧ X.ownsRow w0.heap.size 3 1 v xs.length (ints xs) ∧ ∀ g, v.ownBlock = some g → S ≤ g
  bel : Below w0.heap.size w0 X
theorem below_own {w0 X Y : World} {S m : Nat} (h : Below w0.heap.size w0 X) (hE : OwnIt S m X Y) (hS : w0.heap.size ≤ S) : Below w0.heap.size w0 Y := by
  refine ⟨hE.os.trans h.os, hE.tape.trans h.tape, hE.output.trans h.output, Nat.le_trans h.size hE.size, fun k hk => ?_⟩
  have hlt : k < X.heap.size := Nat.lt_of_lt_of_le hk h.size
  have h3 := Array.getElem?_eq_getElem hlt
  have := hE.same k _ h3 (.inl (by omega))
  rw [this, ← h3]
  exact h.block k hk
theorem below_put {B l : Nat} {o' : Obj} {w X : World} (h : Below B w X) (hl : B ≤ l) : Below B w (X.putObj l o') :=
  ⟨h.os, h.tape, h.output, by simpa using h.size, fun k hk => (World.putObj_heap_other (by omega)).trans (h.block k hk)⟩
theorem own_row_kept {X Y : World} {base : Nat} {e : TypeId} {size n : Nat} {v : Value} {xs : List Value} (h : X.ownsRow base e size v n xs) (hs : ∀ g cur, v.ownBlock = some g → X.heap[g]? = some (.cells cur e (0, 0)) → Y.heap[g]? = some (.cells cur e (0, 0))) : Y.ownsRow base e size v n xs := by
  obtain ⟨k1, h | ⟨g, cap, cur, rfl, k3, k4, k⟩⟩ := h
  · exact ⟨k1, .inl h⟩
  · exact ⟨k1, .inr ⟨g, cap, cur, rfl, k3, hs g cur rfl k4, k⟩⟩
section
variable {w0 X Y : World} {bc S m : Nat} {xs : List Int}
theorem ColI.own (h : ColI w0 bc (S + m) xs X) (hE : OwnIt S m X Y) (hb : bc < S) (hS : w0.heap.size ≤ S) : ColI w0 bc (S + m) xs Y := by
  obtain ⟨⟨v, k1, k2, k3⟩, k4⟩ := h
  exact ⟨⟨v, hE.same _ _ k1 (.inl hb), own_row_kept k2 (fun g cur hg hc => hE.same _ _ hc (.inr ⟨rfl, k3 g hg⟩)), k3⟩, below_own k4 hE hS⟩
theorem ColI.put {l : Nat} {o o' : Obj} (h : ColI w0 bc S xs X) (hw : w0.heap.size ≤ l) (hl : X.heap[l]? = some o) (ho : o.isCells = false) : ColI w0 bc S xs (X.putObj l o') := by
  obtain ⟨⟨v, k1, k2, k3⟩, k4⟩ := h
  exact ⟨⟨v, put_cells k1 hl ho, own_row_kept k2 (fun g cur hg hc => put_cells hc hl ho), k3⟩, below_put k4 hw⟩
end
end Go.Proofs.YtbbadnlaelgmlaaGreat.v6

namespace Go.Proofs.YtbbadnlaelgmlaaGreat.v6
open Go.RowKit Go.Shelf
attribute [local go_sem] Oper.semAt_some
set_option maxRecDepth 100000

/-- No level so far is above the limit. -/
structure FaI (w : World) (lim : Int) (pre : List (Nat × Int)) (X : World) : Prop where
  lm : Boxed X w.heap.size 3 (.int .i64 lim)
  rs : Boxed X (w.heap.size + 1) 3 (.int .i64 0)
  bel : Below w.heap.size w X
  low : ∀ y ∈ pre, y.2 ≤ lim
/-- A level was above it. -/
structure FaX (w : World) (r : Int) (X : World) : Prop where
  rs : Boxed X (w.heap.size + 1) 3 (.int .i64 r)
  bel : Below w.heap.size w X
section
variable {w X Y : World} {lim r : Int} {pre : List (Nat × Int)} {S m : Nat}
theorem FaI.own (h : FaI w lim pre X) (hE : OwnIt S m X Y) (hS : w.heap.size + 2 ≤ S) : FaI w lim pre Y := ⟨hE.same _ _ h.lm (.inl (by omega)), hE.same _ _ h.rs (.inl (by omega)), below_own h.bel hE (by omega), h.low⟩
theorem FaX.own (h : FaX w r X) (hE : OwnIt S m X Y) (hS : w.heap.size + 2 ≤ S) : FaX w r Y := ⟨hE.same _ _ h.rs (.inl (by omega)), below_own h.bel hE (by omega)⟩
theorem FaI.put {l : Nat} {o o' : Obj} (h : FaI w lim pre X) (hw : w.heap.size ≤ l) (hl : X.heap[l]? = some o) (ho : o.isCells = false) : FaI w lim pre (X.putObj l o') := ⟨put_cells h.lm hl ho, put_cells h.rs hl ho, below_put h.bel hw, h.low⟩
theorem FaX.put {l : Nat} {o o' : Obj} (h : FaX w r X) (hw : w.heap.size ≤ l) (hl : X.heap[l]? = some o) (ho : o.isCells = false) : FaX w r (X.putObj l o') := ⟨put_cells h.rs hl ho, below_put h.bel hw⟩
end
end Go.Proofs.YtbbadnlaelgmlaaGreat.v6

namespace Go.Proofs.YtbbadnlaelgmlaaGreat.v6
open Go.RowKit Go.Shelf
attribute [local go_sem] Oper.semAt_some
attribute [local go_sem ↓] Go.wp_at_zero Go.wp_at_succ
set_option maxRecDepth 100000

/-- The greatest level so far, and its tick, in their boxes. -/
structure PkI (w : World) (b : Nat) (pre : List (Nat × Int)) (X : World) : Prop where
  tk : Boxed X b 3 (.int .i64 (pkGo 0 (0, 0) (pre.map fun x : Nat × Int => x.2)).1)
  lv : Boxed X (b + 1) 3 (.int .i64 (pkGo 0 (0, 0) (pre.map fun x : Nat × Int => x.2)).2)
  bel : Below w.heap.size w X
section
variable {w X Y : World} {b : Nat} {pre : List (Nat × Int)} {S m : Nat}
theorem PkI.own (h : PkI w b pre X) (hE : OwnIt S m X Y) (hS : b + 1 < S) (hw : w.heap.size ≤ S) : PkI w b pre Y := ⟨hE.same _ _ h.tk (.inl (by omega)), hE.same _ _ h.lv (.inl (by omega)), below_own h.bel hE hw⟩
theorem PkI.put {l : Nat} {o o' : Obj} (h : PkI w b pre X) (hw : w.heap.size ≤ l) (hl : X.heap[l]? = some o) (ho : o.isCells = false) : PkI w b pre (X.putObj l o') := ⟨put_cells h.tk hl ho, put_cells h.lv hl ho, below_put h.bel hw⟩
end
end Go.Proofs.YtbbadnlaelgmlaaGreat.v6

namespace Go.Proofs.YtbbadnlaelgmlaaGreat.v6
open Go.RowKit
set_option maxRecDepth 100000

/-- Small loads, as a slice. -/
def U8Sl (w : World) (v : Value) (l : List Nat) : Prop :=
  ∃ A c, v = .slice A l.length c ∧ l.length ≤ c ∧ c ≤ maxLen ∧ (A = none → c = 0) ∧ (∀ x ∈ l, x ≤ 255) ∧ (0 < l.length → ∃ b o, A = some ⟨b, o, none⟩ ∧ b < w.heap.size ∧ ∀ (j : Nat) (x : Nat), l[j]? = some x → w.cell? ⟨b, o + j, none⟩ = some (.int .u8 (x : Int)))
theorem U8Sl.at_ {w : World} {v : Value} {l : List Nat} (h : U8Sl w v l) {k : Nat} {x : Nat} (hk : l[k]? = some x) : ∃ b o c, v = .slice (some ⟨b, o, none⟩) l.length c ∧ b < w.heap.size ∧ x ≤ 255 ∧ w.cell? ⟨b, o + k, none⟩ = some (.int .u8 (x : Int)) := by
  obtain ⟨A, c, h1, h2, h3, -, h5, h4⟩ := h
  have hl := (List.getElem?_eq_some_iff.1 hk).1
  obtain ⟨b, o, rfl, hlt, hc⟩ := h4 (by omega)
  exact ⟨b, o, c, h1, hlt, h5 x (List.mem_of_getElem? hk), hc k x hk⟩
theorem U8Sl.on {w w' : World} {v : Value} {l : List Nat} {B : Nat} (h : U8Sl w v l) (hb : Below B w w') (hB : w.heap.size ≤ B) : U8Sl w' v l := by
  obtain ⟨A, c, h1, h2, h3, h5, h6, h4⟩ := h
  refine ⟨A, c, h1, h2, h3, h5, h6, fun h0 => ?_⟩
  obtain ⟨b, o, e, hlt, hc⟩ := h4 h0
  exact ⟨b, o, e, Nat.lt_of_lt_of_le hlt hb.size, fun j x hj => (hb.cell (p := ⟨b, o + j, none⟩) (by show b < B; omega)).trans (hc j x hj)⟩
end Go.Proofs.YtbbadnlaelgmlaaGreat.v6
