/-
  DERIVED. The law FlowKnown: nets that are not valid, in memory (stage 5).
-/
import Derived.Test.YtglpaihadongkaaFA
namespace Go.Proofs.Ytglpaihadongkaa
open Go.RowKit Go.Shelf
set_option maxRecDepth 100000
set_option linter.unusedSimpArgs false
set_option linter.unusedVariables false

theorem intSl_none (X : World) : IntSl X (.slice none 0 0) [] := own_intSl (base := 0) (l := []) (World.ownsRow_nil _ _ _ _)
theorem ptSl_none (X : World) : PtSl X (.slice none 0 0) [] := own_ptSl (base := 0) (l := []) (World.ownsRow_nil _ _ _ _)
theorem own_block3 {w : World} {base n g : Nat} {T : TypeId} {xs : List Value} (h : w.ownsRow base T 3 (.slice (some ⟨g, 0, none⟩) n n) n xs) : w.heap[g]? = some (.cells xs.toArray T (0, 0)) := by
  obtain ⟨k1, ⟨e, -⟩ | ⟨g', cap', cur, e, k3, k4, k5, k6, k7, k8⟩⟩ := h
  · cases e
  · injection e with e1 _ e2
    injection e1 with e1
    injection e1 with e1
    subst e1 e2
    rw [k4]
    have hl : cur.toList = xs := by rw [← k8, List.take_of_length_le (by simp [k7])]
    rw [← hl]
theorem made129 : (madeCells (Value.agg #[.int .i64 0, .int .i64 0, .int .i64 0]).cells (129 * 3)).toList = cellsA (List.replicate 129 (0, 0, 0)) := by kernel_rfl
def toL (l : List (Int × Int × Int)) (i : Nat) : List (Int × Int × Int) := l.modify i fun a => (a.1, 1, a.2.2)
theorem cellsA_to (l : List (Int × Int × Int)) : ∀ {i : Nat}, i < l.length → cellsA (toL l i) = (cellsA l).set (i * 3 + 1) (.int .i64 1) := by
  induction l with
  | nil => intro i h; cases h
  | cons q l ih =>
    intro i h
    cases i with
    | zero => rfl
    | succ i =>
      have := ih (i := i) (by simpa using h)
      show Value.int .i64 q.1 :: Value.int .i64 q.2.1 :: Value.int .i64 q.2.2 :: cellsA (toL l i) = _
      rw [this, show (i + 1) * 3 + 1 = (i * 3 + 1) + 1 + 1 + 1 by omega]
      rfl
/-- The nets that are not valid, in memory. -/
structure OddS (X : World) (g m : Nat) (l : List (Int × Int × Int)) : Prop where
  len : l.length = 129
  arcs : X.heap[g]? = some (.cells (cellsA l).toArray 39 (0, 0))
  b0 : X.heap[m]? = some (.cells #[.int .i64 0, .int .i64 2, .int .i64 0] 39 (0, 0))
  b1 : X.heap[m + 1]? = some (.cells #[.int .i64 1, .int .i64 1, .int .i64 0] 39 (0, 0))
  b2 : X.heap[m + 1 + 1]? = some (.cells #[.int .i64 0, .int .i64 1, .int .i64 (-1)] 39 (0, 0))
  b3 : X.heap[m + 1 + 1 + 1]? = some (.cells #[.int .i64 0, .int .i64 1, .int .i64 100000001] 39 (0, 0))
  nets : X.heap[m + 1 + 1 + 1 + 1]? = some (.cells #[.int .i64 0, .slice none 0 0, .int .i64 1, .slice none 0 0, .int .i64 65, .slice none 0 0, .int .i64 2, .slice (some ⟨g, 0, none⟩) 129 129, .int .i64 2, .slice (some ⟨m, 0, none⟩) 1 1, .int .i64 2, .slice (some ⟨m + 1, 0, none⟩) 1 1, .int .i64 2, .slice (some ⟨m + 1 + 1, 0, none⟩) 1 1, .int .i64 2, .slice (some ⟨m + 1 + 1 + 1, 0, none⟩) 1 1] 24 (0, 0))
section
variable {X Y : World} {g m : Nat} {l : List (Int × Int × Int)}
theorem OddS.on {B : Nat} (h : OddS X g m l) (hb : Below B X Y) (hB : X.heap.size ≤ B) : OddS Y g m l :=
  have k : ∀ {b : Nat} {o : Obj}, X.heap[b]? = some o → Y.heap[b]? = some o := fun hx => (hb.block _ (Nat.lt_of_lt_of_le (at_lt hx) hB)).trans hx
  ⟨h.len, k h.arcs, k h.b0, k h.b1, k h.b2, k h.b3, k h.nets⟩
theorem OddS.set (h : OddS X g m l) (hg : g < m) {i : Nat} (hi : i < 129) : OddS (X.setCell ⟨g, i * 3 + 1, none⟩ (.int .i64 1)) g m (toL l i) := by
  have k : ∀ {b : Nat} {o : Obj}, m ≤ b → X.heap[b]? = some o → (X.setCell ⟨g, i * 3 + 1, none⟩ (.int .i64 1)).heap[b]? = some o := fun hm hx => (Below.heap_setCell _ ⟨g, i * 3 + 1, none⟩ _ _ (by show _ ≠ g; omega)).trans hx
  refine ⟨by unfold toL; rw [List.length_modify]; exact h.len, ?_, k (by omega) h.b0, k (by omega) h.b1, k (by omega) h.b2, k (by omega) h.b3, k (by omega) h.nets⟩
  have := row_set3 (i := i * 3 + 1) h.arcs (.int .i64 1)
  rw [this, cellsA_to l (by rw [h.len]; exact hi)]
  simp
theorem OddS.at_ (h : OddS X g m l) {k : Nat} (hk : k < 8) : ∃ (N : Int) (A : Option Addr) (c : Nat) (L : List (Int × Int × Int)), X.cell? ⟨m + 1 + 1 + 1 + 1, k * 2, none⟩ = some (.int .i64 N) ∧ X.cell? ⟨m + 1 + 1 + 1 + 1, k * 2 + 1, none⟩ = some (.slice A L.length c) ∧ PtSl X (.slice A L.length c) L ∧ ntOk N L = false := by
  rcases (by omega : k = 0 ∨ k = 1 ∨ k = 2 ∨ k = 3 ∨ k = 4 ∨ k = 5 ∨ k = 6 ∨ k = 7) with rfl | rfl | rfl | rfl | rfl | rfl | rfl | rfl
  · exact ⟨0, none, 0, [], cell_of h.nets rfl, cell_of h.nets rfl, ptSl_none X, by decide⟩
  · exact ⟨1, none, 0, [], cell_of h.nets rfl, cell_of h.nets rfl, ptSl_none X, by decide⟩
  · exact ⟨65, none, 0, [], cell_of h.nets rfl, cell_of h.nets rfl, ptSl_none X, by decide⟩
  · refine ⟨2, some ⟨g, 0, none⟩, 129, l, cell_of h.nets rfl, (cell_of h.nets (v := .slice (some ⟨g, 0, none⟩) 129 129) rfl).trans (by rw [h.len]), ?_, ?_⟩
    · have := ptSl_lit l h.arcs rfl (by rw [h.len]; decide)
      rwa [h.len] at this ⊢
    · rw [Bool.eq_false_iff]
      intro hh
      have := (ntOk_iff.1 hh).2.2.1
      have := h.len
      omega
  · exact ⟨2, some ⟨m, 0, none⟩, 1, [(0, 2, 0)], cell_of h.nets rfl, cell_of h.nets rfl, ptSl_lit [(0, 2, 0)] h.b0 rfl (by decide), by decide⟩
  · exact ⟨2, some ⟨m + 1, 0, none⟩, 1, [(1, 1, 0)], cell_of h.nets rfl, cell_of h.nets rfl, ptSl_lit [(1, 1, 0)] h.b1 rfl (by decide), by decide⟩
  · exact ⟨2, some ⟨m + 1 + 1, 0, none⟩, 1, [(0, 1, -1)], cell_of h.nets rfl, cell_of h.nets rfl, ptSl_lit [(0, 1, -1)] h.b2 rfl (by decide), by decide⟩
  · exact ⟨2, some ⟨m + 1 + 1 + 1, 0, none⟩, 1, [(0, 1, 100000001)], cell_of h.nets rfl, cell_of h.nets rfl, ptSl_lit [(0, 1, 100000001)] h.b3 rfl (by decide), by decide⟩
end
end Go.Proofs.Ytglpaihadongkaa
