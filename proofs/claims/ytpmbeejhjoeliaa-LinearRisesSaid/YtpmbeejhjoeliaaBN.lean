/-
  DERIVED. The law LinearRises: what the inputs' rows are while they are added to (stage 6).
-/
import Derived.Test.YtpmbeejhjoeliaaBL
namespace Go.Proofs.Ytpmbeejhjoeliaa
open Go.RowKit
set_option maxRecDepth 100000

/-- All blocks but those from m to b stand. -/
structure Stay (m b : Nat) (X Y : World) : Prop where
  os : Y.os = X.os
  tape : Y.tape = X.tape
  output : Y.output = X.output
  size : X.heap.size ≤ Y.heap.size
  same : ∀ (k : Nat) (o : Obj), (k < m ∨ b ≤ k) → X.heap[k]? = some o → Y.heap[k]? = some o
section
variable {m b : Nat} {X Y Z : World}
theorem Stay.refl (X : World) : Stay m b X X := ⟨rfl, rfl, rfl, Nat.le_refl _, fun _ _ _ h => h⟩
theorem Stay.trans (h : Stay m b X Y) (k : Stay m b Y Z) : Stay m b X Z := ⟨k.os.trans h.os, k.tape.trans h.tape, k.output.trans h.output, Nat.le_trans h.size k.size, fun i o ho hi => k.same i o ho (h.same i o ho hi)⟩
theorem Stay.drew : Stay m b X X.drew := ⟨rfl, rfl, rfl, Nat.le_refl _, fun _ _ _ h => h⟩
theorem Stay.store {g : Nat} (hg : m ≤ g ∧ g < b) (x : Value) (o : Nat) : Stay m b X (X.setCell ⟨g, o, none⟩ x) :=
  ⟨rfl, rfl, rfl, by simp [World.setCell], fun k u hne hk => by rw [Below.heap_setCell _ ⟨g, o, none⟩ x k (by show k ≠ g; omega)]; exact hk⟩
theorem Stay.below {w : World} (h : Stay m b X Y) (k : Below w.heap.size w X) (hb : w.heap.size ≤ m) : Below w.heap.size w Y := by
  refine ⟨h.os.trans k.os, h.tape.trans k.tape, h.output.trans k.output, Nat.le_trans k.size h.size, fun i hi => ?_⟩
  have hlt : i < X.heap.size := Nat.lt_of_lt_of_le hi k.size
  have h3 := Array.getElem?_eq_getElem hlt
  have := h.same i _ (by omega) h3
  rw [this, ← h3]
  exact k.block i hi
end
theorem ints_set (l : List Int) (t : Nat) (x : Int) : (ints l).set t (.int .i64 x) = ints (l.set t x) := by
  unfold ints; rw [List.map_set]
theorem ints_len (l : List Int) : (ints l).length = l.length := by unfold ints; rw [List.length_map]
theorem lin_box2 {X : World} {b : Nat} {C C' : Int} {P : Value} (h : X.heap[b]? = some (.cells #[.int .i64 C, P] 24 (0, 0))) : (X.setCell ⟨b, 0, none⟩ (.int .i64 C')).heap[b]? = some (.cells #[.int .i64 C', P] 24 (0, 0)) := set_field h _
theorem lin_frozen2 {X : World} {b : Nat} {C : Int} {P : Value} (h : X.heap[b]? = some (.cells #[.int .i64 C, P] 24 (0, 0))) : X.frozen? ⟨b, 0, none⟩ = false := by simp [World.frozen?, h]
/-- The two rows while they are added to. -/
structure RsS (w3 : World) (m1 m2 b : Nat) (u1 u2 : Value) (n1 n2 : Nat) (L1 L2 : List Int) (X : World) : Prop where
  st : Stay m1 b w3 X
  r1 : X.ownsRow m1 3 1 u1 n1 (ints L1)
  r2 : X.ownsRow m2 3 1 u2 n2 (ints L2)
  e1 : L1.length = n1
  e2 : L2.length = n2
theorem row_lt {X : World} {base : Nat} {e : TypeId} {size n g cap : Nat} {xs : List Value} (h : X.ownsRow base e size (.slice (some ⟨g, 0, none⟩) n cap) n xs) : base ≤ g ∧ g < X.heap.size := h.lt g rfl
theorem RsS.put1 {w3 X : World} {m1 m2 b g c n1 n2 t : Nat} {u2 : Value} {l L2 m : List Int} {x a : Int} (h : RsS w3 m1 m2 b (.slice (some ⟨g, 0, none⟩) n1 c) u2 n1 n2 (addL l (m.take t)) L2 X)
    (hb : g < m2 ∧ m2 ≤ b) (hx : l[t]? = some x) (ha : m[t]? = some a) : RsS w3 m1 m2 b (.slice (some ⟨g, 0, none⟩) n1 c) u2 n1 n2 (addL l (m.take (t + 1))) L2 (X.drew.setCell ⟨g, t, none⟩ (.int .i64 (x + a))) := by
  have hg := row_lt h.r1
  have hn : t < n1 := by rw [← h.e1, addL_len]; exact (List.getElem?_eq_some_iff.1 hx).1
  refine ⟨(h.st.trans .drew).trans (.store ⟨hg.1, by omega⟩ _ _), ?_, ?_, by rw [addL_len, ← h.e1, addL_len], h.e2⟩
  · have := own_set (v := .int .i64 (x + a)) (show X.drew.ownsRow m1 3 1 _ n1 _ from h.r1) (i := t) (by omega)
    rw [ints_set, addL_step hx ha] at this
    exact this
  · refine own_row_kept (show X.drew.ownsRow m2 3 1 _ n2 _ from h.r2) fun k cur hk hc => ?_
    have := (h.r2.lt k hk).1
    rw [Below.heap_setCell _ ⟨g, t, none⟩ _ k (by show k ≠ g; omega)]; exact hc
theorem RsS.put2 {w3 X : World} {m1 m2 b g c n1 n2 t : Nat} {u1 : Value} {l L1 m : List Int} {x a : Int} (h : RsS w3 m1 m2 b u1 (.slice (some ⟨g, 0, none⟩) n2 c) n1 n2 L1 (addL l (m.take t)) X)
    (hb : (∀ k, u1.ownBlock = some k → k < m2) ∧ m1 ≤ m2 ∧ g < b) (hx : l[t]? = some x) (ha : m[t]? = some a) : RsS w3 m1 m2 b u1 (.slice (some ⟨g, 0, none⟩) n2 c) n1 n2 L1 (addL l (m.take (t + 1))) (X.drew.setCell ⟨g, t, none⟩ (.int .i64 (x + a))) := by
  have hg := row_lt h.r2
  have hn : t < n2 := by rw [← h.e2, addL_len]; exact (List.getElem?_eq_some_iff.1 hx).1
  refine ⟨(h.st.trans .drew).trans (.store ⟨by omega, hb.2.2⟩ _ _), ?_, ?_, h.e1, by rw [addL_len, ← h.e2, addL_len]⟩
  · refine own_row_kept (show X.drew.ownsRow m1 3 1 _ n1 _ from h.r1) fun k cur hk hc => ?_
    have := hb.1 k hk
    rw [Below.heap_setCell _ ⟨g, t, none⟩ _ k (by show k ≠ g; omega)]; exact hc
  · have := own_set (v := .int .i64 (x + a)) (show X.drew.ownsRow m2 3 1 _ n2 _ from h.r2) (i := t) (by omega)
    rw [ints_set, addL_step hx ha] at this
    exact this
theorem RsS.li {w3 X : World} {m1 m2 b : Nat} {u1 u2 : Value} {n1 n2 : Nat} {L1 L2 : List Int} (h : RsS w3 m1 m2 b u1 u2 n1 n2 L1 L2 X) (hb : w3.heap[b]? = some (.cells #[u1, u2] 32 (0, 0))) : LiSl X (.slice (some ⟨b, 0, none⟩) 2 2) [L1, L2] := by
  obtain ⟨st, r1, r2, rfl, rfl⟩ := h
  refine liSl_lit (us := [u1, u2]) [L1, L2] (st.same _ _ (.inr (Nat.le_refl _)) hb) rfl (fun j u l hu hl => ?_) (by decide : 2 ≤ 100000)
  match j, hu, hl with
  | 0, hu, hl => simp at hu hl; subst hu hl; exact own_intSl r1
  | 1, hu, hl => simp at hu hl; subst hu hl; exact own_intSl r2
theorem RsS.li2 {w3 X Z : World} {m1 m2 b p : Nat} {u1 u2 : Value} {n1 n2 : Nat} {L1 L2 : List Int} (h : RsS w3 m1 m2 b u1 u2 n1 n2 L1 L2 X) (hb : w3.heap[b]? = some (.cells #[u1, u2] 32 (0, 0))) (hZ : But p X Z) (hp : b < p)
    (h1 : ∀ k, u1.ownBlock = some k → k < p) (h2 : ∀ k, u2.ownBlock = some k → k < p) : LiSl Z (.slice (some ⟨b, 0, none⟩) 2 2) [L1, L2] := by
  obtain ⟨st, r1, r2, rfl, rfl⟩ := h
  refine liSl_lit (us := [u1, u2]) [L1, L2] (hZ.same _ _ (by omega) (st.same _ _ (.inr (Nat.le_refl _)) hb)) rfl (fun j u l hu hl => ?_) (by decide : 2 ≤ 100000)
  match j, hu, hl with
  | 0, hu, hl => simp at hu hl; subst hu hl; exact own_intSl (own_row_kept r1 fun k _ hk hc => hZ.same _ _ (by have := h1 k hk; omega) hc)
  | 1, hu, hl => simp at hu hl; subst hu hl; exact own_intSl (own_row_kept r2 fun k _ hk hc => hZ.same _ _ (by have := h2 k hk; omega) hc)
end Go.Proofs.Ytpmbeejhjoeliaa
