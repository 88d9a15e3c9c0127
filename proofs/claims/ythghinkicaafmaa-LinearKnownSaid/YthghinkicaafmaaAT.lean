/-
  DERIVED. What an iterator yields, collected; the iterator of the levels of a line (stage 6).
-/
import Derived.Test.YthghinkicaafmaaAR
import Derived.Deep.AppendLies
import Derived.Laws.OwnMore
namespace Go.Proofs.Ythghinkicaafmaa
open Go.RowKit Go.Shelf
attribute [local go_sem] Oper.semAt_some
set_option maxRecDepth 100000

theorem wpListIn_append_lies {F : Fence} {n : Nat} {P : Program} (w : World) {ops : Array Oper} {rest : List Oper} {o : Oper} {a : Act} {Q : Exit → Act → World → Prop}
    (hg : o.guard = none) (s x : Operand) (t : TypeId) (hop : o.op = Op.call { callee := Callee.builtin Builtin.append, args := #[s, x], argTypes := #[t, t] })
    (base : Nat) (e : TypeId) (i : TypeInfo) (z : Value) (size bytes : Nat) (h1 : P.underlying t = some (.slice e)) (h2 : P.info? e = some i) (h3 : i.zero = some z) (h4 : i.size = size) (h5 : i.bytes = bytes) (h6 : z.cells.size = size) (h7 : 0 < size)
    (v : Value) (k : Nat) (xs : List Value) (hs : a.eval s = v) (hown : w.ownsRow base e size v k xs) (ad : Addr) (m c : Nat) (news : List Value) (hx : a.eval x = .slice (some ad) m c) (hn : news.length = m * size)
    (hc : ∀ j u, news[j]? = some u → w.cell? (ad.add j) = some u) (h1c : ∀ u ∈ news, u.oneCell' = true) (hm : 0 < m) (b1 : k + m ≤ maxLen) (b2 : (k + m) * bytes ≤ 140737488355328) (b3 : base ≤ w.heap.size) (H : Nat) (hH : w.heap.size = H)
    (hK : ∀ g cap w', w'.ownsRow base e size (.slice (some ⟨g, 0, none⟩) (k + m) cap) (k + m) (xs ++ news) → w.grownBy w' v.ownBlock → (v.ownBlock = some g ∨ g = H) → wpListIn F n P ops Q rest (a.put o.dst (.slice (some ⟨g, 0, none⟩) (k + m) cap)) w') :
    wpListIn F n P ops Q (o :: rest) a w := by
  refine wpListIn_plain hg fun K hK' => ?_
  obtain ⟨g, cap, w', hrun, r1, r2, r3, -⟩ := run_append_lies (P := P) w t o.type base e i z size bytes h1 h2 h3 h4 h5 h6 h7 v k xs hown ad m c news hn hc h1c hm b1 b2 b3 H hH
  unfold Oper.wpIn
  refine ⟨?_, ?_⟩
  · simp [Oper.about, hop, resolve, Target.leads, Sem.run_pure]
  · rw [Oper.semAt_plain F _ _ (by rw [hop]; intro c hc'; cases hc')]
    simp [execOp, hop, resolve, invoke, builtin, hs, hx, hrun, Result.andThen]
    exact hK' _ _ (hK g cap w' r1 r2 r3)

theorem ownsRow_same {X Y : World} {base : Nat} {e : TypeId} {size n g cap : Nat} {xs : List Value} (h : X.ownsRow base e size (.slice (some ⟨g, 0, none⟩) n cap) n xs) (hs : ∀ o, X.heap[g]? = some o → Y.heap[g]? = some o) : Y.ownsRow base e size (.slice (some ⟨g, 0, none⟩) n cap) n xs := by
  obtain ⟨k1, ⟨e, -⟩ | ⟨g', cap', cur, e, k3, k4, k⟩⟩ := h
  · cases e
  · have e' := e
    injection e with e1 _ e2
    injection e1 with e1
    injection e1 with e1
    subst e1
    exact ⟨k1, .inr ⟨g, cap', cur, e', k3, hs _ k4, k⟩⟩
theorem ownsRow_block {X : World} {base : Nat} {e : TypeId} {size n g cap : Nat} {xs : List Value} (h : X.ownsRow base e size (.slice (some ⟨g, 0, none⟩) n cap) n xs) : ∃ cur, X.heap[g]? = some (.cells cur e (0, 0)) := by
  obtain ⟨k1, ⟨e, -⟩ | ⟨g', cap', cur, e, k3, k4, k⟩⟩ := h
  · cases e
  · injection e with e1 _ e2
    injection e1 with e1
    injection e1 with e1
    subst e1
    exact ⟨cur, k4⟩

/-- Numbers as cells. -/
def ints (l : List Int) : List Value := l.map fun x => .int .i64 x
theorem ints_snoc (l : List Int) (x : Int) : ints (l ++ [x]) = ints l ++ [.int .i64 x] := by simp [ints]
theorem own_intSl {w : World} {base : Nat} {v : Value} {l : List Int} (h : w.ownsRow base 3 1 v l.length (ints l)) : IntSl w v l := by
  have hc := h
  obtain ⟨k1, ⟨e, e2⟩ | ⟨g, cap, cur, e, k3, k4, k5, k6, k7, k8⟩⟩ := h
  · subst e
    obtain rfl : l = [] := List.eq_nil_of_length_eq_zero e2
    exact IntSl.nil w
  · subst e
    refine ⟨some ⟨g, 0, none⟩, cap, rfl, k5, k6, (by intro h; cases h), fun _ => ⟨g, 0, rfl, (Array.getElem?_eq_some_iff.1 k4).1, fun j x hj => ?_⟩⟩
    have hj' := (List.getElem?_eq_some_iff.1 hj).1
    rw [Nat.zero_add]
    have := hc.cellAt j (by simp; omega)
    rw [this]
    simp [ints, hj]
/-- What was yielded so far lies in a row of its own, from S on, and its variable in the box bc. -/
structure ColI (w0 : World) (bc S : Nat) (xs : List Int) (X : World) : Prop where
  row : ∃ v, Boxed X bc 32 v ∧ X.ownsRow w0.heap.size 3 1 v xs.length (ints xs) ∧ ∀ g, v.ownBlock = some g → S ≤ g
  bel : Below w0.heap.size w0 X
theorem below_own {w0 X Y : World} {S m : Nat} (h : Below w0.heap.size w0 X) (hE : OwnIt S m X Y) (hS : w0.heap.size ≤ S) : Below w0.heap.size w0 Y := by
  refine ⟨hE.os.trans h.os, hE.tape.trans h.tape, hE.output.trans h.output, Nat.le_trans h.size hE.size, fun k hk => ?_⟩
  have hlt : k < X.heap.size := Nat.lt_of_lt_of_le hk h.size
  have h3 := Array.getElem?_eq_getElem hlt
  have := hE.same k _ h3 (.inl (by omega))
  rw [this, ← h3]
  exact h.block k hk
theorem below_put {B l : Nat} {o' : Obj} {w X : World} (h : Below B w X) (hl : B ≤ l) : Below B w (X.putObj l o') :=
  ⟨h.os, h.tape, h.output, by simpa using h.size, fun k hk => (World.putObj_heap_other (by omega)).trans (h.block k hk)⟩
theorem own_row_kept {X Y : World} {base : Nat} {e : TypeId} {size n : Nat} {v : Value} {xs : List Value} (h : X.ownsRow base e size v n xs) (hs : ∀ g cur, v.ownBlock = some g → X.heap[g]? = some (.cells cur e (0, 0)) → Y.heap[g]? = some (.cells cur e (0, 0))) : Y.ownsRow base e size v n xs := by
  obtain ⟨k1, h | ⟨g, cap, cur, rfl, k3, k4, k⟩⟩ := h
  · exact ⟨k1, .inl h⟩
  · exact ⟨k1, .inr ⟨g, cap, cur, rfl, k3, hs g cur rfl k4, k⟩⟩
section
variable {w0 X Y : World} {bc S m : Nat} {xs : List Int}
theorem ColI.own (h : ColI w0 bc (S + m) xs X) (hE : OwnIt S m X Y) (hb : bc < S) (hS : w0.heap.size ≤ S) : ColI w0 bc (S + m) xs Y := by
  obtain ⟨⟨v, k1, k2, k3⟩, k4⟩ := h
  exact ⟨⟨v, hE.same _ _ k1 (.inl hb), own_row_kept k2 (fun g cur hg hc => hE.same _ _ hc (.inr ⟨rfl, k3 g hg⟩)), k3⟩, below_own k4 hE hS⟩
theorem ColI.put {l : Nat} {o o' : Obj} (h : ColI w0 bc S xs X) (hw : w0.heap.size ≤ l) (hl : X.heap[l]? = some o) (ho : o.isCells = false) : ColI w0 bc S xs (X.putObj l o') := by
  obtain ⟨⟨v, k1, k2, k3⟩, k4⟩ := h
  exact ⟨⟨v, put_cells k1 hl ho, own_row_kept k2 (fun g cur hg hc => put_cells hc hl ho), k3⟩, below_put k4 hw⟩
end
end Go.Proofs.Ythghinkicaafmaa
