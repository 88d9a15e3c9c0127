/-
  DERIVED. Slices that grow side by side, each in a row of its own (stage 5).
-/
import Derived.Test.YtglpaihadongkaaBK
import Derived.Test.YtglpaihadongkaaAI
namespace Go.Proofs.Ytglpaihadongkaa
open Go.RowKit Go.Shelf
set_option maxRecDepth 100000
set_option linter.unusedSimpArgs false
set_option linter.unusedVariables false

/-- Where they stand: the first two in a struct, the others in an array. -/
def plW (rb bm : Nat) : Nat → Addr
  | 0 => ⟨rb, 0, none⟩
  | 1 => ⟨rb, 1, none⟩
  | n + 2 => ⟨bm, n, none⟩
theorem plW_ne {rb bm i j : Nat} (h : i ≠ j) (hb : bm ≠ rb) : plW rb bm i ≠ plW rb bm j := by
  intro e
  match i, j with
  | 0, 0 => exact h rfl
  | 0, 1 => simp [plW] at e
  | 0, n + 2 => simp [plW] at e; exact hb e.1.symm
  | 1, 0 => simp [plW] at e
  | 1, 1 => exact h rfl
  | 1, n + 2 => simp [plW] at e; exact hb e.1.symm
  | n + 2, 0 => simp [plW] at e; exact hb e.1
  | n + 2, 1 => simp [plW] at e; exact hb e.1
  | n + 2, m + 2 => simp [plW] at e; exact h (by rw [e])
theorem plW_block (rb bm i : Nat) : (plW rb bm i).block = rb ∨ (plW rb bm i).block = bm := by
  match i with
  | 0 => exact .inl rfl
  | 1 => exact .inl rfl
  | n + 2 => exact .inr rfl
structure WhO (X : World) (base rb bm : Nat) (vs : List Value) (c : Nat → List Int) : Prop where
  own : ∀ i v, vs[i]? = some v → X.ownsRow base 3 1 v (c i).length (ints (c i))
  sep : ∀ (i j : Nat) (v u : Value) (g : Nat), i ≠ j → vs[i]? = some v → vs[j]? = some u → v.ownBlock = some g → u.ownBlock ≠ some g
  place : ∀ i v, vs[i]? = some v → X.cell? (plW rb bm i) = some v ∧ X.frozen? (plW rb bm i) = false
theorem ints_len (l : List Int) : (ints l).length = l.length := by simp [ints]
theorem ints_append (l m : List Int) : ints (l ++ m) = ints l ++ ints m := by simp [ints]
theorem ownsRow_lt {X : World} {base : Nat} {e : TypeId} {size n : Nat} {v : Value} {xs : List Value} (h : X.ownsRow base e size v n xs) {g : Nat} (hg : v.ownBlock = some g) : base ≤ g ∧ g < X.heap.size := by
  obtain ⟨k1, ⟨e, -⟩ | ⟨g', cap', cur, e, k3, k4, k⟩⟩ := h
  · subst e; cases hg
  · subst e
    obtain rfl : g' = g := by simpa [Value.ownBlock] using hg
    exact ⟨k3, at_lt k4⟩
section
variable {X Y : World} {base rb bm : Nat} {vs : List Value} {c : Nat → List Int}
theorem WhO.moved (h : WhO X base rb bm vs c) (hk : ∀ (k : Nat) (cs : Array Value) (T : TypeId) (fr : Nat × Nat), X.heap[k]? = some (.cells cs T fr) → Y.heap[k]? = some (.cells cs T fr)) : WhO Y base rb bm vs c := by
  refine ⟨fun i v hv => own_row_kept (h.own i v hv) fun g cur _ hc => hk _ _ _ _ hc, h.sep, fun i v hv => ?_⟩
  obtain ⟨h1, h2⟩ := h.place i v hv
  have hb : ∃ cs t fr, X.heap[(plW rb bm i).block]? = some (.cells cs t fr) := by
    obtain ⟨ob, hob, hcl⟩ := cells_of_cell h1
    cases ob with
    | cells cs t fr => exact ⟨cs, t, fr, hob⟩
    | _ => cases hcl
  obtain ⟨cs, t, fr, hb⟩ := hb
  have e := (hk _ _ _ _ hb).trans hb.symm
  exact ⟨(World.cell?_of_block e).trans h1, (World.frozen?_of_block e).trans h2⟩
theorem WhO.alloc (h : WhO X base rb bm vs c) (o : Obj) : WhO (X.alloc o) base rb bm vs c := h.moved fun k cs t fr hk => old_heap o hk
theorem WhO.drew (h : WhO X base rb bm vs c) : WhO X.drew base rb bm vs c := h.moved fun k cs t fr hk => hk
/-- One of them grows, and is stored where it stands. -/
theorem WhO.grow {Z : World} {i n g cap : Nat} {v : Value} {new : List Int} {lit : Obj} (h : WhO X base rb bm vs c) (hi : vs[i]? = some v) (hn : n = (c i).length + new.length) (hbm : bm ≠ rb) (hb : rb < base ∧ bm < base) (hbX : base ≤ X.heap.size)
    (ho : Z.ownsRow base 3 1 (.slice (some ⟨g, 0, none⟩) n cap) n (ints (c i) ++ ints new)) (hg : (X.alloc lit).grownBy Z v.ownBlock) (hat : v.ownBlock = some g ∨ g = X.heap.size + 1) :
    WhO (Z.setCell (plW rb bm i) (.slice (some ⟨g, 0, none⟩) n cap)) base rb bm (vs.set i (.slice (some ⟨g, 0, none⟩) n cap)) (upc c i new) ∧ Z.cell? (plW rb bm i) = some v ∧ Z.frozen? (plW rb bm i) = false := by
  subst hn
  have hil := (List.getElem?_eq_some_iff.1 hi).1
  have hvb := fun k hk => ownsRow_lt (h.own i v hi) (g := k) hk
  have hkeep : ∀ (k : Nat) (o : Obj), v.ownBlock ≠ some k → X.heap[k]? = some o → Z.heap[k]? = some o := fun k o hk ho => (hg.block k (by have := at_lt ho; simp; omega) (fun e => hk e.symm)).trans (old_heap _ ho)
  have hplb : ∀ j, v.ownBlock ≠ some (plW rb bm j).block := fun j e => by
    have := (hvb _ e).1
    rcases plW_block rb bm j with h' | h' <;> omega
  have hcellb : ∀ j u, vs[j]? = some u → ∃ cs t fr, X.heap[(plW rb bm j).block]? = some (.cells cs t fr) := fun j u hu => by
    obtain ⟨ob, hob, hcl⟩ := cells_of_cell (h.place j u hu).1
    cases ob with
    | cells cs t fr => exact ⟨cs, t, fr, hob⟩
    | _ => cases hcl
  have hpl : ∀ j u, vs[j]? = some u → Z.cell? (plW rb bm j) = some u ∧ Z.frozen? (plW rb bm j) = false := fun j u hu => by
    obtain ⟨cs, t, fr, hb'⟩ := hcellb j u hu
    have e := (hkeep _ _ (hplb j) hb').trans hb'.symm
    exact ⟨(World.cell?_of_block e).trans (h.place j u hu).1, (World.frozen?_of_block e).trans (h.place j u hu).2⟩
  have hgb : base ≤ g := (ownsRow_lt ho (g := g) rfl).1
  have hset : ∀ (k : Nat) (o : Obj), base ≤ k → Z.heap[k]? = some o → (Z.setCell (plW rb bm i) (.slice (some ⟨g, 0, none⟩) ((c i).length + new.length) cap)).heap[k]? = some o := fun k o hk ho =>
    (Below.heap_setCell Z (plW rb bm i) _ k (by rcases plW_block rb bm i with h' | h' <;> omega)).trans ho
  refine ⟨⟨fun j u hu => ?_, fun j1 j2 u1 u2 k hj h1 h2 hk => ?_, fun j u hu => ?_⟩, hpl i v hi⟩
  · rw [List.getElem?_set] at hu
    by_cases e : i = j
    · subst e
      rw [if_pos rfl, if_pos hil] at hu
      injection hu with hu
      subst hu
      have e2 : upc c i new i = c i ++ new := by simp [upc]
      rw [e2, List.length_append, ints_append]
      exact own_row_kept ho fun k cur hk hc => hset k _ (ownsRow_lt ho hk).1 hc
    · rw [if_neg e] at hu
      have e2 : upc c i new j = c j := if_neg (fun e' => e e'.symm)
      rw [e2]
      exact own_row_kept (h.own j u hu) fun k cur hk hc => hset k _ (ownsRow_lt (h.own j u hu) hk).1 (hkeep k _ (fun e' => h.sep i j v u k e hi hu e' hk) hc)
  · rw [List.getElem?_set] at h1 h2
    have hnew : ∀ j u k, i ≠ j → vs[j]? = some u → u.ownBlock = some k → k ≠ g := fun j u k e hu hk e2 => by
      subst e2
      rcases hat with h' | h'
      · exact h.sep i j v u k e hi hu h' hk
      · have := (ownsRow_lt (h.own j u hu) hk).2; omega
    by_cases e1 : i = j1 <;> by_cases e2 : i = j2
    · exact absurd (e1.symm.trans e2) hj
    · subst e1
      rw [if_pos rfl, if_pos hil] at h1
      injection h1 with h1
      subst h1
      obtain rfl : g = k := by simpa [Value.ownBlock] using hk
      rw [if_neg e2] at h2
      intro hh
      exact hnew j2 u2 g e2 h2 hh rfl
    · subst e2
      rw [if_pos rfl, if_pos hil] at h2
      injection h2 with h2
      subst h2
      rw [if_neg e1] at h1
      intro hh
      obtain rfl : g = k := by simpa [Value.ownBlock] using hh
      exact hnew j1 u1 g e1 h1 hk rfl
    · rw [if_neg e1] at h1
      rw [if_neg e2] at h2
      exact h.sep j1 j2 u1 u2 k hj h1 h2 hk
  · rw [List.getElem?_set] at hu
    rw [World.frozen?_setCell]
    by_cases e : i = j
    · subst e
      rw [if_pos rfl, if_pos hil] at hu
      injection hu with hu
      subst hu
      exact ⟨World.cell?_setCell_same _ _ _ (hpl i v hi).1, (hpl i v hi).2⟩
    · rw [if_neg e] at hu
      rw [World.cell?_setCell_other _ _ _ _ (fun e' => plW_ne e hbm (e'))]
      exact hpl j u hu
end
end Go.Proofs.Ytglpaihadongkaa
