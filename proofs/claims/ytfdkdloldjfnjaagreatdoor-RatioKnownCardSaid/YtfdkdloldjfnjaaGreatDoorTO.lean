/-
  DERIVED. Simplest: what stands between two rounds; one round.
-/
import Derived.Test.YtfdkdloldjfnjaaGreatDoorYTLm
import Derived.Test.YtfdkdloldjfnjaaGreatDoorYRAm
set_option linter.unusedVariables false
set_option linter.unusedSimpArgs false
namespace Go.Proofs.YtfdkdloldjfnjaaGreatDoor
open Go.RowKit Go.Shelf
attribute [local go_sem] Oper.semAt_some
set_option maxRecDepth 100000

/-- The same for one piece of code that goes on. -/
def onlyN (Q : Exit → Act → World → Prop) : Exit → Act → World → Prop
  | .normal, a, w => Q .normal a w
  | _, _, _ => False
theorem only_intro {Q : Exit → Act → World → Prop} {a : Act} {w : World} (h : Q .normal a w) : onlyN Q .normal a w := h
theorem wp_only {P : Program} {Q : Exit → Act → World → Prop} {a : Act} {w : World} {c : Code} (h : c.wp P (onlyN Q) a w) : c.wp P Q a w :=
  wp_mono h fun e a w h => by cases e <;> first | exact h | exact h.elim
/-- A piece of code that goes on with one frame, but for four slices. -/
def only8 (A : Option Addr → Nat → Option Addr → Nat → Option Addr → Nat → Option Addr → Nat → Act) (F : Option Addr → Nat → Option Addr → Nat → Option Addr → Nat → Option Addr → Nat → World → Prop) : Exit → Act → World → Prop
  | .normal, a, w => ∃ E1 j1 E2 j2 E3 j3 E4 j4, a = A E1 j1 E2 j2 E3 j3 E4 j4 ∧ F E1 j1 E2 j2 E3 j3 E4 j4 w
  | _, _, _ => False
theorem wp_only8 {P : Program} {Q : Exit → Act → World → Prop} {a : Act} {w : World} {c : Code} (F : Option Addr → Nat → Option Addr → Nat → Option Addr → Nat → Option Addr → Nat → World → Prop) {A : Option Addr → Nat → Option Addr → Nat → Option Addr → Nat → Option Addr → Nat → Act}
    (h : c.wp P (only8 A F) a w) (k : ∀ E1 j1 E2 j2 E3 j3 E4 j4 V, F E1 j1 E2 j2 E3 j3 E4 j4 V → Q .normal (A E1 j1 E2 j2 E3 j3 E4 j4) V) : c.wp P Q a w :=
  wp_mono h fun e a w h => by
    cases e with
    | normal => obtain ⟨E1, j1, E2, j2, E3, j3, E4, j4, rfl, hF⟩ := h; exact k _ _ _ _ _ _ _ _ _ hF
    | _ => exact h.elim
theorem only8_intro {A : Option Addr → Nat → Option Addr → Nat → Option Addr → Nat → Option Addr → Nat → Act} {F : Option Addr → Nat → Option Addr → Nat → Option Addr → Nat → Option Addr → Nat → World → Prop} {a : Act} {w : World} (E1 : Option Addr) (j1 : Nat) (E2 : Option Addr) (j2 : Nat) (E3 : Option Addr) (j3 : Nat) (E4 : Option Addr) (j4 : Nat)
    (ha : a = A E1 j1 E2 j2 E3 j3 E4 j4) (hF : F E1 j1 E2 j2 E3 j3 E4 j4 w) : only8 A F .normal a w := ⟨E1, j1, E2, j2, E3, j3, E4, j4, ha, hF⟩
theorem Limbs.own {bl bh : Nat} {X Y : World} {v : Value} {t : Nat} (h : Limbs bl bh X v t) (hE : OwnStep bl bh X Y) : Limbs bl bh Y v t :=
  natSl_move h fun b cs T fr hb hx => ⟨hE.same b _ hx (.inr ⟨hb.2.1, hb.2.2⟩), Nat.lt_of_lt_of_le hb.1 hE.size, hb.2⟩
theorem Limbs.below {bl bh B : Nat} {X Y : World} {v : Value} {t : Nat} (h : Limbs bl bh X v t) (hb : Below B X Y) (hB : X.heap.size ≤ B) : Limbs bl bh Y v t := h.kept (KpB.of_below hb hB)
theorem rt_own {bl bh g : Nat} {X Y : World} {s : Bool} {v1 v2 : Value} (h : Rt X g s v1 v2) (hE : OwnStep bl bh X Y) (h1 : g ≠ bl) (h2 : g ≠ bh) : Rt Y g s v1 v2 := hE.same g _ h (.inr ⟨h1, h2⟩)
theorem rt_put {g l : Nat} {X : World} {s : Bool} {v1 v2 : Value} {o o' : Obj} (h : Rt X g s v1 v2) (hl : X.heap[l]? = some o) (ho : o.isCells = false) : Rt (X.putObj l o') g s v1 v2 :=
  put_other h (fun e => by subst e; rw [show X.heap[g]? = _ from h] at hl; cases hl; cases ho)
theorem below_own {B bl bh : Nat} {w X Y : World} (h : Below B w X) (hE : OwnStep bl bh X Y) (h1 : B ≤ bl) (h2 : B ≤ bh) (hX : B ≤ X.heap.size) : Below B w Y :=
  ⟨hE.os.trans h.os, hE.tape.trans h.tape, hE.output.trans h.output, Nat.le_trans h.size hE.size, fun k hk => by
    have hlt : k < X.heap.size := by omega
    have h3 := Array.getElem?_eq_getElem hlt
    have := hE.same k _ h3 (.inr ⟨by omega, by omega⟩)
    rw [this, ← h3]
    exact h.block k hk⟩
theorem below_put {B l : Nat} {w X : World} {o' : Obj} (h : Below B w X) (hl : B ≤ l) : Below B w (X.putObj l o') :=
  ⟨h.os, h.tape, h.output, by simpa using h.size, fun k hk => (World.putObj_heap_other (by omega)).trans (h.block k hk)⟩
theorem natSl_put {X : World} {k : Nat} {v : Value} {l : List Nat} {o o' : Obj} (h : NatSl X (fun i => i < X.heap.size) v l) (hl : X.heap[k]? = some o) (ho : o.isCells = false) : NatSl (X.putObj k o') (fun i => i < (X.putObj k o').heap.size) v l :=
  natSl_move h fun b cs T fr hb hx => ⟨put_other hx (fun e => by subst e; rw [hl] at hx; cases hx; cases ho), by rw [World.putObj_size]; exact hb⟩
/-- Two fractions in their boxes, behind some parts; their limbs are not in the iterator's boxes. -/
def Pair (b7 b8 bl bh : Nat) (s : Two4) (X : World) : Prop :=
  ∃ (x1 x2 y1 y2 : Value), Rt X b7 false x1 x2 ∧ Rt X b8 false y1 y2 ∧ Limbs bl bh X x1 s.p0 ∧ Limbs bl bh X x2 s.q0 ∧ Limbs bl bh X y1 s.p1 ∧ Limbs bl bh X y2 s.q1
section
variable {b7 b8 bl bh : Nat} {s : Two4} {X Y : World}
theorem Pair.own (h : Pair b7 b8 bl bh s X) (hE : OwnStep bl bh X Y) (h1 : b7 ≠ bl) (h2 : b7 ≠ bh) (h3 : b8 ≠ bl) (h4 : b8 ≠ bh) : Pair b7 b8 bl bh s Y := by
  obtain ⟨x1, x2, y1, y2, r1, r2, l1, l2, l3, l4⟩ := h
  exact ⟨x1, x2, y1, y2, rt_own r1 hE h1 h2, rt_own r2 hE h3 h4, l1.own hE, l2.own hE, l3.own hE, l4.own hE⟩
theorem Pair.put (h : Pair b7 b8 bl bh s X) {l : Nat} {o o' : Obj} (hl : X.heap[l]? = some o) (ho : o.isCells = false) : Pair b7 b8 bl bh s (X.putObj l o') := by
  obtain ⟨x1, x2, y1, y2, r1, r2, l1, l2, l3, l4⟩ := h
  exact ⟨x1, x2, y1, y2, rt_put r1 hl ho, rt_put r2 hl ho, l1.put l o o' hl ho, l2.put l o o' hl ho, l3.put l o o' hl ho, l4.put l o o' hl ho⟩
theorem Pair.below {B : Nat} (h : Pair b7 b8 bl bh s X) (hb : Below B X Y) (hB : X.heap.size ≤ B) : Pair b7 b8 bl bh s Y := by
  obtain ⟨x1, x2, y1, y2, r1, r2, l1, l2, l3, l4⟩ := h
  exact ⟨x1, x2, y1, y2, r1.on hb (Nat.lt_of_lt_of_le r1.lt hB), r2.on hb (Nat.lt_of_lt_of_le r2.lt hB), l1.below hb hB, l2.below hb hB, l3.below hb hB, l4.below hb hB⟩
end
/-- Other cells that a round does not touch. -/
def Other (w : World) (br bn : Nat) (sg : Bool) (X : World) : Prop := ResZ br X ∧ X.heap[bn]? = some (.cells #[.bool sg] 4 (0, 0)) ∧ Below w.heap.size w X
theorem Other.own {w X Y : World} {br bn bl bh : Nat} {sg : Bool} (h : Other w br bn sg X) (hE : OwnStep bl bh X Y) (h1 : br ≠ bl) (h2 : br ≠ bh) (h3 : bn ≠ bl) (h4 : bn ≠ bh) (h5 : w.heap.size ≤ bl) (h6 : w.heap.size ≤ bh) : Other w br bn sg Y :=
  ⟨hE.same br _ h.1 (.inr ⟨h1, h2⟩), hE.same bn _ h.2.1 (.inr ⟨h3, h4⟩), below_own h.2.2 hE h5 h6 h.2.2.size⟩
theorem Other.put {w X : World} {br bn l : Nat} {sg : Bool} {o o' : Obj} (h : Other w br bn sg X) (hl : X.heap[l]? = some o) (ho : o.isCells = false) (hw : w.heap.size ≤ l) : Other w br bn sg (X.putObj l o') :=
  ⟨put_other h.1 (fun e => by subst e; rw [show X.heap[br]? = _ from h.1] at hl; cases hl; cases ho), put_other h.2.1 (fun e => by subst e; rw [h.2.1] at hl; cases hl; cases ho), below_put h.2.2 hw⟩
theorem Other.below {w X Y : World} {br bn B : Nat} {sg : Bool} (h : Other w br bn sg X) (hb : Below B X Y) (hB : X.heap.size ≤ B) : Other w br bn sg Y :=
  ⟨(hb.block _ (Nat.lt_of_lt_of_le (Array.getElem?_eq_some_iff.1 h.1).1 hB)).trans h.1, (hb.block _ (Nat.lt_of_lt_of_le (Array.getElem?_eq_some_iff.1 h.2.1).1 hB)).trans h.2.1, below_join h.2.2 hb (Nat.le_trans h.2.2.size hB)⟩
theorem Other.store {w X : World} {br bn g : Nat} {sg : Bool} (h : Other w br bn sg X) (h1 : br ≠ g) (h2 : bn ≠ g) (h3 : w.heap.size ≤ g) (x y z : Value) : Other w br bn sg (((X.setCell ⟨g, 0, none⟩ x).setCell ⟨g, 1, none⟩ y).setCell ⟨g, 2, none⟩ z) :=
  ⟨row_keep3 h.1 h1 x y z, row_keep3 h.2.1 h2 x y z, below_store3 h.2.2 h3 x y z⟩
theorem keeps_store {B g : Nat} (X : World) (x y z : Value) : KeepsFrom B X (((X.setCell ⟨g, 0, none⟩ x).setCell ⟨g, 1, none⟩ y).setCell ⟨g, 2, none⟩ z) :=
  (((KeepsOthers.setCell X _ _).trans (KeepsOthers.setCell _ _ _)).trans (KeepsOthers.setCell _ _ _)).from _
theorem keeps_below {B C : Nat} {X Y : World} (h : Below C X Y) (hC : X.heap.size ≤ C) : KeepsFrom B X Y := ⟨h.size, fun k o _ hk _ => (h.block k (Nat.lt_of_lt_of_le (Array.getElem?_eq_some_iff.1 hk).1 hC)).trans hk⟩
theorem kp_store {b1 b2 g : Nat} (X : World) (hg : g = b1 ∨ g = b2) (x y z : Value) : KpB b1 b2 X (((X.setCell ⟨g, 0, none⟩ x).setCell ⟨g, 1, none⟩ y).setCell ⟨g, 2, none⟩ z) :=
  ⟨by rw [size_store3]; exact Nat.le_refl _, fun k cs t fr hk h1 h2 => by rw [heap_keep3 X (by rcases hg with rfl | rfl <;> assumption)]; exact hk⟩
theorem len_two {x : Nat} (h : x ≤ 2 * BB ^ 32) : (nat x).length ≤ 33 := nat_len_le.2 (by
  have : BB ^ 33 = BB ^ 32 * BB := Nat.pow_succ ..
  have h2 : BB ^ 32 * 3 ≤ BB ^ 32 * BB := Nat.mul_le_mul_left _ (by decide)
  have := pow_pos' 32
  generalize BB ^ 32 = z at *
  omega)
theorem bounds {a b c d : Nat} (hb : 0 < b) (hd : 0 < d) (h : a * d ≤ c * b) (ka : (nat a).length ≤ 32) (kb : (nat b).length ≤ 32) {pre : List Nat} {t : Nat} (hp : pre ++ [t] <+: partsF (b + d) a b c d) :
    (nat (foldT pre).p0).length ≤ 33 ∧ (nat (foldT pre).q0).length ≤ 33 ∧ (nat (foldT pre).p1).length ≤ 33 ∧ (nat (foldT pre).q1).length ≤ 33 ∧ (nat t).length ≤ 33 := by
  obtain ⟨rest, hr⟩ := hp
  have he : partsF (b + d) a b c d = pre ++ t :: rest := by rw [← hr]; simp
  have ha' := Nat.le_of_lt (nat_len_le.1 ka)
  have hb' := Nat.le_of_lt (nat_len_le.1 kb)
  have hM : 1 ≤ BB ^ 32 := pow_pos' 32
  obtain ⟨e1, e2⟩ := fold_le hb hd (Nat.le_refl _) h hM ha' hb' he
  obtain ⟨e3, e4⟩ := fold_prev hb hd (Nat.le_refl _) h hM ha' hb' he
  have e5 := part_le hb hd (Nat.le_refl _) h hM ha' hb' he
  generalize hz : BB ^ 32 = z at *
  exact ⟨len_two (by rw [hz]; omega), len_two (by rw [hz]; omega), len_two (by rw [hz]; omega), len_two (by rw [hz]; omega), len_two (by rw [hz]; omega)⟩
end Go.Proofs.YtfdkdloldjfnjaaGreatDoor
