/-
  DERIVED. whole: what is left of a net while nothing flows (stage 5).
-/
import Derived.Test.YtglpaihadongkaaBL
import Derived.Test.YtglpaihadongkaaBO
import Derived.Laws.EntriesVeiled
namespace Go.Proofs.Ytglpaihadongkaa
open Go.RowKit Go.Shelf
set_option maxRecDepth 100000
set_option linter.unusedSimpArgs false
set_option linter.unusedVariables false

theorem sl_info : (Try.prog.info? 25).map (fun i => (i.zero, i.size, i.bytes)) = some (some (.slice none 0 0), 1, 24) := by kernel_rfl
/-- The memory of whole between two of its statements; q: the box of the arc. -/
structure WhM (w : World) (base rb bm N : Nat) (qs : List Nat) (vs : List Value) (c : Nat → List Int) (X : World) : Prop where
  o : WhO X base rb bm vs c
  len : vs.length = N + 2
  bel : Below w.heap.size w X
  m2 : X.cell? ⟨rb, 2, none⟩ = some (.slice (some ⟨bm, 0, none⟩) N N)
  res : X.heap[w.heap.size + 1]? = some (.cells #[.slice none 0 0, .slice none 0 0, .slice none 0 0] 64 (0, 0))
  sz : base ≤ X.heap.size
  nq : ∀ (i : Nat) (v : Value) (q : Nat), vs[i]? = some v → q ∈ qs → v.ownBlock ≠ some q
  qlt : ∀ q ∈ qs, base ≤ q ∧ q < X.heap.size
section
variable {w X Z : World} {base rb bm N : Nat} {qs : List Nat} {vs : List Value} {c : Nat → List Int}
theorem WhM.grow {i n g cap : Nat} {v : Value} {new : List Int} {lit : Obj} (h : WhM w base rb bm N qs vs c X) (hi : vs[i]? = some v) (hn : n = (c i).length + new.length) (hb : w.heap.size + 1 < bm ∧ bm < rb ∧ rb < base)
    (ho : Z.ownsRow base 3 1 (.slice (some ⟨g, 0, none⟩) n cap) n (ints (c i) ++ ints new)) (hg : (X.alloc lit).grownBy Z v.ownBlock) (hat : v.ownBlock = some g ∨ g = X.heap.size + 1) :
    WhM w base rb bm N qs (vs.set i (.slice (some ⟨g, 0, none⟩) n cap)) (upc c i new) (Z.setCell (plW rb bm i) (.slice (some ⟨g, 0, none⟩) n cap)) ∧ Z.cell? (plW rb bm i) = some v ∧ Z.frozen? (plW rb bm i) = false ∧
      (∀ q ∈ qs, ∀ ob, X.heap[q]? = some ob → (Z.setCell (plW rb bm i) (.slice (some ⟨g, 0, none⟩) n cap)).heap[q]? = some ob ∧ Z.heap[q]? = some ob) ∧ Z.cell? ⟨rb, 2, none⟩ = some (.slice (some ⟨bm, 0, none⟩) N N) := by
  obtain ⟨h1, h2, h3⟩ := h.o.grow hi hn (by omega) ⟨hb.2.2, by omega⟩ h.sz ho hg hat
  have hvb := fun k hk => ownsRow_lt (h.o.own i v hi) (g := k) hk
  have hkeep : ∀ (k : Nat) (o : Obj), v.ownBlock ≠ some k → X.heap[k]? = some o → Z.heap[k]? = some o := fun k o hk ho => (hg.block k (by have := at_lt ho; simp; omega) (fun e => hk e.symm)).trans (old_heap _ ho)
  have hsm : ∀ k, k < base → v.ownBlock ≠ some k := fun k hk e => by have := (hvb k e).1; omega
  have hpb := plW_block rb bm i
  have hset : ∀ (k : Nat) (o : Obj), k ≠ rb → k ≠ bm → Z.heap[k]? = some o → (Z.setCell (plW rb bm i) (.slice (some ⟨g, 0, none⟩) n cap)).heap[k]? = some o := fun k o h1 h2 ho =>
    (Below.heap_setCell Z (plW rb bm i) _ k (by rcases hpb with h' | h' <;> omega)).trans ho
  have hz : X.heap.size + 1 ≤ Z.heap.size := by have := hg.size; simpa using this
  have hm2 : Z.cell? ⟨rb, 2, none⟩ = some (.slice (some ⟨bm, 0, none⟩) N N) := by
    obtain ⟨cs, t, fr, hc⟩ := cell_block h.m2
    exact (World.cell?_of_block (a := ⟨rb, 2, none⟩) ((hkeep rb _ (hsm rb hb.2.2) hc).trans hc.symm)).trans h.m2
  refine ⟨⟨h1, by rw [List.length_set]; exact h.len, ?_, ?_, ?_, ?_, fun j u q hu hq => ?_, fun q hq => ?_⟩, h2, h3, fun q hq ob hob => ?_, hm2⟩
  · have h5 : Below w.heap.size w (X.alloc lit) := h.bel.alloc h.bel.size _
    have h6 : Below w.heap.size w Z := ⟨hg.os.trans h5.os, hg.tape.trans h5.tape, hg.output.trans h5.output, Nat.le_trans h5.size hg.size, fun k hk => (hg.block k (Nat.lt_of_lt_of_le hk h5.size) (fun e => hsm k (by omega) e.symm)).trans (h5.block k hk)⟩
    exact h6.setCell (by rcases hpb with h' | h' <;> omega) _
  · rw [World.cell?_setCell_other _ _ _ _ (fun e => ?_)]
    · exact hm2
    · match i with
      | 0 => simp [plW] at e
      | 1 => simp [plW] at e
      | n + 2 => simp [plW] at e; omega
  · exact hset _ _ (by omega) (by omega) (hkeep _ _ (hsm _ (by omega)) h.res)
  · simp [World.setCell]; have := h.sz; omega
  · rw [List.getElem?_set] at hu
    by_cases e : i = j
    · rw [if_pos e] at hu
      split at hu
      · injection hu with hu
        subst hu
        intro e2
        obtain rfl : g = q := by simpa [Value.ownBlock] using e2
        have h7 := h.qlt g hq
        rcases hat with h8 | h8
        · exact h.nq i v g hi hq h8
        · omega
      · cases hu
    · rw [if_neg e] at hu
      exact h.nq j u q hu hq
  · have := h.qlt q hq
    refine ⟨this.1, ?_⟩
    simp [World.setCell]; omega
  · have h9 := h.qlt q hq
    have h10 := hkeep q ob (h.nq i v q hi hq) hob
    exact ⟨hset q ob (by omega) (by omega) h10, h10⟩
theorem WhM.alloc (h : WhM w base rb bm N qs vs c X) (o : Obj) : WhM w base rb bm N (X.heap.size :: qs) vs c (X.alloc o) := by
  refine ⟨h.o.alloc o, h.len, h.bel.alloc h.bel.size o, alloc_cell h.m2 o, old_heap o h.res, by have := h.sz; simp; omega, fun i v q hv hq => ?_, fun q hq => ?_⟩
  · rcases List.mem_cons.1 hq with rfl | hq
    · intro e
      have := (ownsRow_lt (h.o.own i v hv) e).2
      omega
    · exact h.nq i v q hv hq
  · rcases List.mem_cons.1 hq with rfl | hq
    · have := h.sz; simp; exact this
    · have := h.qlt q hq; simp; omega
theorem WhM.few (h : WhM w base rb bm N qs vs c X) : WhM w base rb bm N [] vs c X := ⟨h.o, h.len, h.bel, h.m2, h.res, h.sz, fun _ _ _ _ hq => (by cases hq), fun _ hq => (by cases hq)⟩
theorem WhM.drew (h : WhM w base rb bm N qs vs c X) : WhM w base rb bm N qs vs c X.drew := ⟨h.o.drew, h.len, h.bel.drew, h.m2, h.res, h.sz, h.nq, h.qlt⟩
end
theorem own_shape {X : World} {base : Nat} {e : TypeId} {size n : Nat} {v : Value} {xs : List Value} (h : X.ownsRow base e size v n xs) : ∃ A m c, v = .slice A m c := by
  obtain ⟨k1, ⟨e, -⟩ | ⟨g', cap', cur, e, -⟩⟩ := h
  · exact ⟨_, _, _, e⟩
  · exact ⟨_, _, _, e⟩
theorem three_cells {W : World} {b : Nat} {x0 x1 x2 : Value} {T : TypeId} (h : W.heap[b]? = some (.cells #[x0, x1, x2] T (0, 0))) : W.cell? ⟨b, 0, none⟩ = some x0 ∧ W.cell? ⟨b, 1, none⟩ = some x1 ∧ W.cell? ⟨b, 2, none⟩ = some x2 := by simp [World.cell?, h]
theorem three_frozen {W : World} {b : Nat} {x0 x1 x2 : Value} {T : TypeId} (h : W.heap[b]? = some (.cells #[x0, x1, x2] T (0, 0))) : W.frozen? ⟨b, 0, none⟩ = false ∧ W.frozen? ⟨b, 1, none⟩ = false ∧ W.frozen? ⟨b, 2, none⟩ = false := by simp [World.frozen?, h]
theorem row_set3 {W : World} {b i : Nat} {xs : Array Value} {T : TypeId} (h : W.heap[b]? = some (.cells xs T (0, 0))) (v : Value) : (W.setCell ⟨b, i, none⟩ v).heap[b]? = some (.cells (xs.setIfInBounds i v) T (0, 0)) := by
  simp only [World.setCell, Array.getElem?_modify, if_pos trivial, h]
  simp
theorem row_store3 {W : World} {b : Nat} {y0 y1 y2 : Value} {T : TypeId} (h : W.heap[b]? = some (.cells #[y0, y1, y2] T (0, 0))) (x0 x1 x2 : Value) : (((W.setCell ⟨b, 0, none⟩ x0).setCell ⟨b, 1, none⟩ x1).setCell ⟨b, 2, none⟩ x2).heap[b]? = some (.cells #[x0, x1, x2] T (0, 0)) :=
  row_set3 (row_set3 (row_set3 h x0) x1) x2
/-- What whole returns. -/
def WhPost (N : Nat) (l : List Ar) (w : World) (e : Ending) (w' : World) : Prop :=
  ∃ r : Rs, e = .returned (r.val N) ∧ RShape r N l ∧ r.bR < w'.heap.size ∧ w.heap.size ≤ r.bR ∧ Row w' r.bR r.oR (rooms l) ∧ (∀ Y, KpG (fun k => k ≠ r.bR ∧ w.heap.size ≤ k) w' Y → RFix Y r N l) ∧ Below w.heap.size w w'
theorem own_cases {X : World} {base n : Nat} {v : Value} {xs : List Value} (h : X.ownsRow base 3 1 v n xs) : (v = .slice none 0 0 ∧ n = 0) ∨ ∃ g cap, v = .slice (some ⟨g, 0, none⟩) n cap ∧ base ≤ g ∧ g < X.heap.size ∧ n ≤ cap ∧ cap ≤ maxLen := by
  obtain ⟨k1, h | ⟨g', cap', cur, e, k3, k4, k5, k6, -⟩⟩ := h
  · exact .inl h
  · exact .inr ⟨g', cap', e, k3, at_lt k4, k5, k6⟩
theorem whole_end {w X : World} {rb bm N : Nat} {l : List Ar} {vs : List Value} {E R : Value} (h : WhM w (rb + 1) rb bm N [] vs (cW l) X) (hb : w.heap.size + 1 < bm ∧ bm < rb) (hl : l.length ≤ 128) (hN : N ≤ 64) (hE : vs[0]? = some E) (hR : vs[1]? = some R) :
    WhPost N l w (.returned (.agg #[E, R, .slice (some ⟨bm, 0, none⟩) N N])) (((X.setCell ⟨w.heap.size + 1, 0, none⟩ E).setCell ⟨w.heap.size + 1, 1, none⟩ R).setCell ⟨w.heap.size + 1, 2, none⟩ (.slice (some ⟨bm, 0, none⟩) N N)) := by
  have hk : ∀ (k : Nat) (o : Obj), k ≠ w.heap.size + 1 → X.heap[k]? = some o → (((X.setCell ⟨w.heap.size + 1, 0, none⟩ E).setCell ⟨w.heap.size + 1, 1, none⟩ R).setCell ⟨w.heap.size + 1, 2, none⟩ (.slice (some ⟨bm, 0, none⟩) N N)).heap[k]? = some o := fun k o hn ho => by
    rw [Below.heap_setCell _ ⟨w.heap.size + 1, 2, none⟩ _ k hn, Below.heap_setCell _ ⟨w.heap.size + 1, 1, none⟩ _ k hn, Below.heap_setCell _ ⟨w.heap.size + 1, 0, none⟩ _ k hn]; exact ho
  have hz : (((X.setCell ⟨w.heap.size + 1, 0, none⟩ E).setCell ⟨w.heap.size + 1, 1, none⟩ R).setCell ⟨w.heap.size + 1, 2, none⟩ (.slice (some ⟨bm, 0, none⟩) N N)).heap.size = X.heap.size := by simp [World.setCell]
  have hB : Below w.heap.size w (((X.setCell ⟨w.heap.size + 1, 0, none⟩ E).setCell ⟨w.heap.size + 1, 1, none⟩ R).setCell ⟨w.heap.size + 1, 2, none⟩ (.slice (some ⟨bm, 0, none⟩) N N)) :=
    ((h.bel.setCell (by show w.heap.size ≤ w.heap.size + 1; omega) _).setCell (by show w.heap.size ≤ w.heap.size + 1; omega) _).setCell (by show w.heap.size ≤ w.heap.size + 1; omega) _
  generalize ((X.setCell ⟨w.heap.size + 1, 0, none⟩ E).setCell ⟨w.heap.size + 1, 1, none⟩ R).setCell ⟨w.heap.size + 1, 2, none⟩ (.slice (some ⟨bm, 0, none⟩) N N) = V at hk hz hB ⊢
  have hsz := h.sz
  have hoE := h.o.own 0 E hE
  have hoR := h.o.own 1 R hR
  have e0 : cW l 0 = endsI l := rfl
  have e1 : cW l 1 = rooms l := rfl
  rw [e0, endsI_len] at hoE
  rw [e1, rooms_len] at hoR
  -- the blocks
  obtain ⟨gE, cE, hgE, hE1, hE2⟩ : ∃ gE cE, (0 < l.length → E = .slice (some ⟨gE, 0, none⟩) (2 * l.length) cE ∧ 2 * l.length ≤ cE ∧ cE ≤ maxLen) ∧ (0 < l.length → rb + 1 ≤ gE) ∧ ∃ A n c, E = .slice A n c := by
    rcases own_cases hoE with ⟨e, e2⟩ | ⟨g, cap, e, q1, q2, q3, q4⟩
    · exact ⟨0, 0, fun h0 => by omega, fun h0 => by omega, _, _, _, e⟩
    · exact ⟨g, cap, fun _ => ⟨e, q3, q4⟩, fun _ => q1, _, _, _, e⟩
  obtain ⟨gR, cR, hgR, hR1, hR2, hR3, hR4, hR5⟩ : ∃ gR cR, (0 < l.length → R = .slice (some ⟨gR, 0, none⟩) (2 * l.length) cR ∧ 2 * l.length ≤ cR ∧ cR ≤ maxLen) ∧ (0 < l.length → rb + 1 ≤ gR) ∧ (∃ A n c, R = .slice A n c) ∧ (gR < X.heap.size ∧ w.heap.size ≤ gR) ∧ (gR ≠ bm ∧ gR ≠ w.heap.size + 1) ∧
      ∀ (i : Nat) (v : Value) (g : Nat), i ≠ 1 → vs[i]? = some v → v.ownBlock = some g → g ≠ gR := by
    rcases own_cases hoR with ⟨e, e2⟩ | ⟨g, cap, e, q1, q2, q3, q4⟩
    · exact ⟨w.heap.size, 0, fun h0 => by omega, fun h0 => by omega, ⟨_, _, _, e⟩, ⟨by omega, Nat.le_refl _⟩, ⟨by omega, by omega⟩, fun i v g _ hi hg => by have := (ownsRow_lt (h.o.own i v hi) hg).1; omega⟩
    · exact ⟨g, cap, fun _ => ⟨e, q3, q4⟩, fun _ => q1, ⟨_, _, _, e⟩, ⟨q2, by omega⟩, ⟨by omega, by omega⟩, fun i v g' hi hv hg e' => by
        subst e'
        exact h.o.sep i 1 v R g' hi hv hR hg (by rw [e]; rfl)⟩
  have hkc : ∀ (k : Nat) (cs : Array Value) (T : TypeId) (fr : Nat × Nat), k ≠ w.heap.size + 1 → X.heap[k]? = some (.cells cs T fr) → V.heap[k]? = some (.cells cs T fr) := fun k cs T fr hn hc => hk k _ hn hc
  have hownV : ∀ i v, vs[i]? = some v → V.ownsRow (rb + 1) 3 1 v (cW l i).length (ints (cW l i)) := fun i v hi => own_row_kept (h.o.own i v hi) fun g cur hg hc => hkc g _ _ _ (by have := (ownsRow_lt (h.o.own i v hi) hg).1; omega) hc
  refine ⟨{ E := E, R := R, bE := gE, oE := 0, cE := cE, bR := gR, oR := 0, cR := cR, bM := bm, oM := 0, cM := N, hd := fun n => (vs[n + 2]?).getD undef }, rfl, ⟨hgE, hgR, ⟨Nat.le_refl _, by show N ≤ maxLen; unfold maxLen; omega⟩, hE2, hR2⟩, by show gR < _; omega, hR3.2, ?_, fun Y hY => ⟨fun k q hq => ?_, fun n hn => ?_⟩, hB⟩
  · intro k x hx
    show V.cell? ⟨gR, 0 + k, none⟩ = _ ∧ V.frozen? ⟨gR, 0 + k, none⟩ = false
    have hk' := (List.getElem?_eq_some_iff.1 hx).1
    rw [rooms_len] at hk'
    obtain ⟨e, -, -⟩ := hgR (by omega)
    have ho := hownV 1 R hR
    rw [e1, rooms_len, e] at ho
    rw [Nat.zero_add]
    refine ⟨?_, ho.frozenAt k⟩
    rw [ho.cellAt k (by omega)]
    unfold ints
    rw [List.getElem?_map, hx]; rfl
  · show Y.cell? ⟨gE, 0 + k, none⟩ = _
    have hk' : k < 2 * l.length := by
      unfold mvTo at hq
      obtain ⟨a, ha, -⟩ := Option.map_eq_some_iff.1 hq
      have := (List.getElem?_eq_some_iff.1 ha).1; omega
    obtain ⟨e, -, -⟩ := hgE (by omega)
    have ho := hownV 0 E hE
    have ho2 : Y.ownsRow (rb + 1) 3 1 E (cW l 0).length (ints (cW l 0)) := own_row_kept ho fun g cur hg hc => hY.same g _ _ _ ⟨hR5 0 E g (by decide) hE hg, by have := (ownsRow_lt (h.o.own 0 E hE) hg).1; omega⟩ hc
    rw [e0, endsI_len, e] at ho2
    rw [Nat.zero_add, ho2.cellAt k (by omega)]
    unfold ints
    rw [List.getElem?_map, endsI_get hq hk']; rfl
  · obtain ⟨v, hv⟩ : ∃ v, vs[n + 2]? = some v := ⟨_, List.getElem?_eq_getElem (by have := h.len; omega)⟩
    have ho := hownV (n + 2) v hv
    have ho2 : Y.ownsRow (rb + 1) 3 1 v (cW l (n + 2)).length (ints (cW l (n + 2))) := own_row_kept ho fun g cur hg hc => hY.same g _ _ _ ⟨hR5 (n + 2) v g (by omega) hv hg, by have := (ownsRow_lt (h.o.own (n + 2) v hv) hg).1; omega⟩ hc
    have hi := own_intSl ho2
    have e3 : cW l (n + 2) = nats (mvs l n) := rfl
    rw [e3] at hi
    obtain ⟨A, c, e4, -, -⟩ := hi.shape
    rw [nats_len] at e4
    have hd : ((vs[n + 2]?).getD undef) = v := by rw [hv]; rfl
    refine ⟨A, c, ?_, ?_, ?_⟩
    · show (vs[n + 2]?).getD undef = _
      rw [hd]; exact e4
    · show Y.cell? ⟨bm, 0 + n, none⟩ = some ((vs[n + 2]?).getD undef)
      rw [hd, Nat.zero_add]
      have hp := (h.o.place (n + 2) v hv).1
      obtain ⟨cs, t, fr, hc⟩ := cell_block (b := bm) (o := n) hp
      have hc2 := hY.same bm _ _ _ ⟨fun e => hR4.1 e.symm, by omega⟩ (hkc bm _ _ _ (by omega) hc)
      exact (World.cell?_of_block (a := ⟨bm, n, none⟩) (hc2.trans hc.symm)).trans hp
    · show IntSl Y ((vs[n + 2]?).getD undef) _
      rw [hd]; exact hi
set_option maxHeartbeats 16000000 in
theorem c_whole (N : Nat) (L : Value) (l : List (Int × Int × Int)) (w : World) (hL : PtSl w L l) (hok : ntOk (N : Int) l = true) :
    Calls Try.prog 42 #[ntV (N : Int) L] w (WhPost N (arsOf l) w) := by
  obtain ⟨A, c, rfl, hc1, hc2⟩ := hL.shape
  unfold maxLen at hc2
  unfold ntV
  obtain ⟨hN2, hN64, hl128, hall⟩ := ntOk_iff.1 hok
  have hN0 : 0 ≤ (N : Int) := by omega
  have hN64' : N ≤ 64 := by omega
  have HL := Lib.hid hL
  have HALL := Lib.hid hall
  clear hL hok hall
  go_enter Try.func42, Try.ntmps42
  obtain ⟨i0, hi0, hzz0, hzz1, hzz2⟩ := info_parts sl_info
  have HU : Try.prog.underlying 62 = some (.slice 25) := Try.underlying62
  go_wp2_with (at_make; refine wpList_make_full (P := Try.prog) _ rfl _ _ 62 rfl (w.heap.size + 2) 25 i0 (.slice none 0 0) 1 HU hi0 hzz0 hzz1 .i64 .i64 _ _ N rfl rfl rfl rfl (by rw [hzz2]; omega) (by unfold maxLen; omega) (by simp) ?_; intro w1 ho1 hg1; simp only [World.size_alloc] at ho1; have x1 := alloc_cell (show w1.cell? ⟨w.heap.size, 1, none⟩ = some (.slice A l.length c) from cell_of ((hg1.block w.heap.size (by simp; omega) (by simp)).trans (old_heap _ (heap_alloc_new _ _))) rfl); have HO1 := Lib.hid ho1; have HG1 := Lib.hid hg1; clear ho1 hg1)
  obtain ⟨bm, hbm⟩ : ∃ b, b = w.heap.size + 1 + 1 := ⟨_, rfl⟩
  obtain ⟨rb, hrb⟩ : ∃ b, b = w1.heap.size := ⟨_, rfl⟩
  rw [← hbm] at HO1 ⊢
  rw [← hrb]
  obtain ⟨V, hV⟩ : ∃ V, V = w1.alloc (.cells #[.slice none 0 0, .slice none 0 0, .slice (some ⟨bm, 0, none⟩) N N] 64) := ⟨_, rfl⟩
  have hbr : w.heap.size + 2 ≤ bm ∧ bm ≤ w.heap.size + 2 ∧ bm < rb := by
    have := (ownsRow_lt HO1.out (g := bm) rfl).2; omega
  have hWM : WhM w (rb + 1) rb bm N [] (List.replicate (N + 2) (.slice none 0 0)) (cW (arsOf (l.take 0))) V := by
    have hB1 : Below w.heap.size w w1 := by
      have hg := HG1.out
      have h0 : Below w.heap.size w ((w.alloc (.cells #[.int .i64 (N : Int), .slice A l.length c] 24)).alloc (.cells #[.slice none 0 0, .slice none 0 0, .slice none 0 0] 64)) := ((Below.refl _ _).alloc (Nat.le_refl _) _).alloc (by simp) _
      exact ⟨hg.os.trans h0.os, hg.tape.trans h0.tape, hg.output.trans h0.output, Nat.le_trans h0.size hg.size, fun k hk => (hg.block k (Nat.lt_of_lt_of_le hk h0.size) (by simp)).trans (h0.block k hk)⟩
    have hres : w1.heap[w.heap.size + 1]? = some (.cells #[.slice none 0 0, .slice none 0 0, .slice none 0 0] 64 (0, 0)) := (HG1.out.block _ (by simp) (by simp)).trans (row_new _ _ _ (by simp))
    have hr : V.heap[rb]? = some (.cells #[.slice none 0 0, .slice none 0 0, .slice (some ⟨bm, 0, none⟩) N N] 64 (0, 0)) := by rw [hV]; exact row_new _ _ _ hrb
    have hz : V.heap.size = rb + 1 := by rw [hV]; simp [hrb]
    have hnil : arsOf (l.take 0) = [] := by simp [arsOf]
    rw [hnil]
    have hget : ∀ i v, (List.replicate (N + 2) (Value.slice none 0 0))[i]? = some v → v = .slice none 0 0 ∧ i < N + 2 := fun i v hv => by
      rw [List.getElem?_replicate] at hv
      split at hv
      · injection hv with hv; exact ⟨hv.symm, by assumption⟩
      · cases hv
    refine ⟨⟨fun i v hv => ?_, fun i j v u g _ hv _ hg => ?_, fun i v hv => ?_⟩, by simp, by rw [hV]; exact hB1.alloc hB1.size _, ?_, by rw [hV]; exact old_heap _ hres, by omega, fun _ _ _ _ hq => (by cases hq), fun _ hq => (by cases hq)⟩
    · obtain ⟨rfl, -⟩ := hget i v hv
      rw [cW_nil]
      exact World.ownsRow_nil _ _ _ _
    · obtain ⟨rfl, -⟩ := hget i v hv
      cases hg
    · obtain ⟨rfl, hi⟩ := hget i v hv
      obtain ⟨c0, c1, c2⟩ := three_cells hr
      obtain ⟨f0, f1, f2⟩ := three_frozen hr
      match i, hi with
      | 0, _ => exact ⟨c0, f0⟩
      | 1, _ => exact ⟨c1, f1⟩
      | n + 2, hi =>
        have h1 := HO1.out.cellAt n (by omega)
        have h2 := HO1.out.frozenAt n
        have h3 : (madeCells (Value.slice none 0 0).cells (N * 1)).toList[n]? = some (.slice none 0 0) := by
          have e : (Value.slice none 0 0).cells = #[.slice none 0 0] := rfl
          rw [e, Nat.mul_one, toList_madeCells_one, List.getElem?_replicate, if_pos (by omega)]
        rw [h3] at h1
        obtain ⟨cs, t, fr, hc⟩ := cell_block h1
        have e : V.heap[bm]? = w1.heap[bm]? := by rw [hV]; exact (old_heap _ hc).trans hc.symm
        exact ⟨(World.cell?_of_block (a := ⟨bm, n, none⟩) e).trans h1, (frozen_of_block e).trans h2⟩
    · exact (three_cells hr).2.2
  rw [← hV]
  clear hV x1 hbm hrb HO1 HG1
  go_loopw [13] (fun i wr => ∃ (k : Nat) (vs : List Value), k ≤ l.length ∧ i = .int .i64 (k : Int) ∧ Hid (WhM w (rb + 1) rb bm N [] vs (cW (arsOf (l.take k))) wr)) (fun i _ => l.length - (intOf i).toNat)
  case atStart => exact ⟨0, _, Nat.zero_le _, rfl, Lib.hid hWM⟩
  case round =>
    clear hWM V
    obtain ⟨k, vs, hk, rfl, hM⟩ := hrel
    have hki : ((k : Nat) : Int).toNat = k := by omega
    by_cases hlt : k < l.length
    · obtain ⟨⟨ui, vi, cp⟩, hx⟩ : ∃ p, l[k]? = some p := ⟨_, List.getElem?_eq_getElem hlt⟩
      obtain ⟨b, o, c', e, hb, -, -, y0, y1, y2⟩ := (HL.out.on hM.out.bel (Nat.le_refl _)).at_ hx
      injection e with e1 hle e2
      clear hle
      subst e1 e2
      obtain ⟨hu, hv, huv, hcp0, hcp1⟩ := arOk_iff.1 (HALL.out _ (List.mem_of_getElem? hx))
      obtain ⟨u, hu'⟩ : ∃ u : Nat, ui = (u : Int) := ⟨ui.toNat, by have := hu.1; simp at this; omega⟩
      obtain ⟨v, hv'⟩ : ∃ v : Nat, vi = (v : Int) := ⟨vi.toNat, by have := hv.1; simp at this; omega⟩
      subst hu' hv'
      have huN : u < N := by have := hu.2; simp at this; exact this
      have hvN : v < N := by have := hv.2; simp at this; exact this
      have hne : u ≠ v := fun e => huv (by simp [e])
      obtain ⟨V0, hV0⟩ : ∃ V, V = wr.alloc (.cells #[.int .i64 (u : Int), .int .i64 (v : Int), .int .i64 cp] 39) := ⟨_, rfl⟩
      have HM0 := Lib.hid (show WhM w (rb + 1) rb bm N [wr.heap.size] vs (cW (arsOf (l.take k))) V0 by subst hV0; exact hM.out.alloc _)
      have HA0 := Lib.hid (show V0.heap[wr.heap.size]? = some (.cells #[.int .i64 (u : Int), .int .i64 (v : Int), .int .i64 cp] 39 (0, 0)) by subst hV0; exact heap_alloc_new _ _)
      obtain ⟨q, hq⟩ : ∃ q, q = wr.heap.size := ⟨_, rfl⟩
      obtain ⟨E, hE⟩ : ∃ v, vs[0]? = some v := ⟨_, List.getElem?_eq_getElem (by have := hM.out.len; omega)⟩
      have e0 := (HM0.out.o.place 0 E hE).1
      unfold plW at e0
      have a0 : V0.cell? ⟨wr.heap.size, 0, none⟩ = some (.int .i64 (u : Int)) := cell_of HA0.out rfl
      have a1 : V0.cell? ⟨wr.heap.size, 1, none⟩ = some (.int .i64 (v : Int)) := cell_of HA0.out rfl
      have HX := Lib.hid hx
      clear hx hu hv huv
      have HOW0 := Lib.hid (HM0.out.o.own 0 E hE)
      rw [hV0] at e0 a0 a1 HOW0
      obtain ⟨i1, hi1, hz1, hz2, hz3⟩ := info_parts int_info
      have HV0 := Lib.hid hV0
      clear hV0
      have hl2 : (arsOf (l.take k)).length = k := by rw [arsOf_len, List.length_take]; omega
      have hc0 : (cW (arsOf (l.take k)) 0).length = 2 * k := by show (endsI _).length = _; rw [endsI_len, hl2]
      rw [hc0] at HOW0
      have HC0 := Lib.hid hc0
      clear hc0
      have hmlen := HM0.out.len
      obtain ⟨R, hR⟩ : ∃ v, vs[1]? = some v := ⟨_, List.getElem?_eq_getElem (by omega)⟩
      have HRR := Lib.hid hR
      have HEE := Lib.hid hE
      clear hR hE
      have HC1 := Lib.hid (show (cW (arsOf (l.take k)) 1).length = 2 * k by show (rooms _).length = _; rw [rooms_len, hl2])
      go_wp2_with (first | (at_builtin; refine wpList_append_lies _ rfl _ _ 25 rfl (rb + 1) 3 i1 (.int .i64 0) 1 8 Try.underlying25 hi1 hz1 hz2 hz3 rfl (by decide) E _ _ rfl (HOW0.out.alloc _) ⟨wr.heap.size + 1, 0, none⟩ 2 2 [.int .i64 (v : Int), .int .i64 (u : Int)] rfl rfl (World.news_of_block (row_new _ _ _ (by simp [World.setCell]))) (by simp [Value.oneCell']) (by decide) (by unfold maxLen; omega) (by omega) (by have := HM0.out.sz; rw [HV0.out] at this; simp at this ⊢; omega) (wr.heap.size + 1 + 1) (by simp [World.setCell]) ?_; intro g0 cap0 Z0 hown hgrow hat _; obtain ⟨hM1, hz1', hf1, hq1, -⟩ := HM0.out.grow (i := 0) (new := [(v : Int), (u : Int)]) HEE.out (by rw [HC0.out]; try rfl) (by omega) hown (by rw [HV0.out]; exact hgrow) (by rw [HV0.out, World.size_alloc]; exact hat); clear hown hgrow hat; unfold plW at hz1' hf1; have HM1 := Lib.hid (show WhM w (rb + 1) rb bm N [wr.heap.size] _ _ (Z0.setCell ⟨rb, 0, none⟩ (.slice (some ⟨g0, 0, none⟩) (2 * k + 2) cap0)) from hM1); have HQ1 := Lib.hid (show (Z0.setCell ⟨rb, 0, none⟩ (.slice (some ⟨g0, 0, none⟩) (2 * k + 2) cap0)).heap[wr.heap.size]? = _ from (hq1 _ (by simp) _ HA0.out).1); clear hM1 hq1; have HR1 := Lib.hid (show (vs.set 0 (Value.slice (some ⟨g0, 0, none⟩) (2 * k + 2) cap0))[1]? = some R by rw [List.getElem?_set_ne (by decide)]; exact HRR.out); have r1 := (show (Z0.setCell ⟨rb, 0, none⟩ (.slice (some ⟨g0, 0, none⟩) (2 * k + 2) cap0)).cell? ⟨rb, 1, none⟩ = some R from (HM1.out.o.place 1 R HR1.out).1); have a2 := (show (Z0.setCell ⟨rb, 0, none⟩ (.slice (some ⟨g0, 0, none⟩) (2 * k + 2) cap0)).cell? ⟨wr.heap.size, 2, none⟩ = some (.int .i64 cp) from cell_of HQ1.out rfl); have HOW1 := Lib.hid (show (Z0.setCell ⟨rb, 0, none⟩ (.slice (some ⟨g0, 0, none⟩) (2 * k + 2) cap0)).ownsRow (rb + 1) 3 1 R (2 * k) (ints (cW (arsOf (l.take k)) 1)) by have := HM1.out.o.own 1 R HR1.out; rw [show upc (cW (arsOf (l.take k))) 0 [(v : Int), (u : Int)] 1 = cW (arsOf (l.take k)) 1 from if_neg (by decide), HC1.out] at this; exact this)) | (at_builtin; refine wpList_append_lies _ rfl _ _ 25 rfl (rb + 1) 3 i1 (.int .i64 0) 1 8 Try.underlying25 hi1 hz1 hz2 hz3 rfl (by decide) R _ _ rfl (HOW1.out.alloc _) ⟨Z0.heap.size, 0, none⟩ 2 2 [.int .i64 cp, .int .i64 0] rfl rfl (World.news_of_block (row_new _ _ _ (by simp [World.setCell]))) (by simp [Value.oneCell']) (by decide) (by unfold maxLen; omega) (by omega) (by have := HM1.out.sz; simp [World.setCell] at this ⊢; omega) (Z0.heap.size + 1) (by simp [World.setCell]) ?_; intro g1 cap1 Z1 hown hgrow hat _; obtain ⟨hM2, hz2', hf2, hq2, -⟩ := HM1.out.grow (i := 1) (new := [cp, 0]) HR1.out (by rw [show upc (cW (arsOf (l.take k))) 0 [(v : Int), (u : Int)] 1 = cW (arsOf (l.take k)) 1 from if_neg (by decide), HC1.out]; try rfl) (by omega) (by rw [show upc (cW (arsOf (l.take k))) 0 [(v : Int), (u : Int)] 1 = cW (arsOf (l.take k)) 1 from if_neg (by decide)]; exact hown) hgrow (by simp [World.setCell]; simpa using hat); clear hown hgrow hat; unfold plW at hz2' hf2; have HM2 := Lib.hid (show WhM w (rb + 1) rb bm N [wr.heap.size] _ _ (Z1.setCell ⟨rb, 1, none⟩ (.slice (some ⟨g1, 0, none⟩) (2 * k + 2) cap1)) from hM2); have HQ2 := Lib.hid (show (Z1.setCell ⟨rb, 1, none⟩ (.slice (some ⟨g1, 0, none⟩) (2 * k + 2) cap1)).heap[wr.heap.size]? = _ from (hq2 _ (by simp) _ HQ1.out).1); clear hM2 hq2 r1 a2 hz1' hf1))
      have hfm : Try.prog.follows Departure.mixedOrders = true := by kernel_rfl
      obtain ⟨W2, hW2⟩ : ∃ W, W = Z1.setCell ⟨rb, 1, none⟩ (.slice (some ⟨g1, 0, none⟩) (2 * k + 2) cap1) := ⟨_, rfl⟩
      rw [← hW2] at HM2 HQ2 ⊢
      clear hW2 hz2' hf2
      obtain ⟨VS7, hVS7⟩ : ∃ l, l = ((vs.set 0 (Value.slice (some ⟨g0, 0, none⟩) (2 * k + 2) cap0)).set 1 (.slice (some ⟨g1, 0, none⟩) (2 * k + 2) cap1)) := ⟨_, rfl⟩
      obtain ⟨C7, hC7⟩ : ∃ c, c = upc (upc (cW (arsOf (l.take k))) 0 [(v : Int), (u : Int)]) 1 [cp, 0] := ⟨_, rfl⟩
      have HM7 := Lib.hid (show WhM w (rb + 1) rb bm N [wr.heap.size] VS7 C7 W2 by rw [hVS7, hC7]; exact HM2.out)
      have HQ7 := HQ2
      have CLL : ∀ x : Nat, (upc (upc (cW (arsOf (l.take k))) 0 [(v : Int), (u : Int)]) 1 [cp, 0] (x + 2)).length ≤ 256 := fun x => by
        rw [show upc (upc (cW (arsOf (l.take k))) 0 [(v : Int), (u : Int)]) 1 [cp, 0] (x + 2) = cW (arsOf (l.take k)) (x + 2) from rfl]
        show (natsI (mvs _ x)).length ≤ 256
        unfold natsI mvs
        rw [List.length_map]
        exact Nat.le_trans (List.length_filter_le _ _) (by rw [List.length_range, hl2]; omega)
      have CL7 : (C7 (u + 2)).length ≤ 256 := by rw [hC7]; exact CLL u
      have HVS7 := Lib.hid hVS7
      have HC7 := Lib.hid hC7
      clear hVS7 hC7
      have hl7 := HM7.out.len
      obtain ⟨B7, hB7⟩ : ∃ b, VS7[u + 2]? = some b := ⟨_, List.getElem?_eq_getElem (by omega)⟩
      have c70 := HM7.out.m2
      have c71 : W2.cell? ⟨wr.heap.size, 0, none⟩ = some (.int .i64 (u : Int)) := cell_of HQ7.out rfl
      have c72 := (HM7.out.o.place (u + 2) B7 hB7).1
      have hw7 : IntKind.i64.wrap (2 * (k : Int)) = 2 * (k : Int) := IntWalk.i64_in _ (by omega)
      have HW7 := Lib.hid hw7
      have HB7 := Lib.hid hB7
      unfold plW at c72
      have hnN : (u : Int) < (N : Int) := by omega
      have hZ7 := Lib.hid (show WhM w (rb + 1) rb bm N [wr.heap.size] VS7 C7 W2.drew from HM7.out.drew)
      have HOW7 := Lib.hid (hZ7.out.o.own (u + 2) B7 hB7)
      have hcl7 : (C7 (u + 2)).length ≤ 256 := CL7
      obtain ⟨nn7, hnn7⟩ : ∃ n, n = (C7 (u + 2)).length := ⟨_, rfl⟩
      rw [← hnn7] at HOW7 hcl7
      have HNN7 := Lib.hid hnn7
      clear hw7 hB7 hnn7 hl7
      refine region_z 15 hfm (S := fun X => X.cell? ⟨rb, 2, none⟩ = some (.slice (some ⟨bm, 0, none⟩) N N) ∧ X.cell? ⟨wr.heap.size, 0, none⟩ = some (.int .i64 (u : Int)) ∧ X.cell? ⟨bm, u, none⟩ = some B7) ⟨c70, c71, c72⟩ (fun hHeld => ?_)
      refine takeZ 0 (some 34) (by kernel_rfl) rfl rfl (by kernel_rfl) (by kernel_rfl) (by kernel_rfl) (fun _ _ _ h => h) (by rfl) (by intro w ⟨g1, g2, g3⟩; go_simp; try with_reducible rfl) hHeld ?_
      simp only [Act.put, List.setIfInBounds_toArray, List.set_cons_zero, List.set_cons_succ]
      refine takeZ 1 (some 35) (by kernel_rfl) rfl rfl (by kernel_rfl) (by kernel_rfl) (by kernel_rfl) (fun _ _ _ h => h) (by rfl) (by intro w ⟨g1, g2, g3⟩; go_simp; try with_reducible rfl) hHeld ?_
      simp only [Act.put, List.setIfInBounds_toArray, List.set_cons_zero, List.set_cons_succ]
      refine takeZ 2 (some 36) (by kernel_rfl) rfl rfl (by kernel_rfl) (by kernel_rfl) (by kernel_rfl) (fun _ _ _ h => h) (by rfl) (by intro w ⟨g1, g2, g3⟩; go_simp; try with_reducible rfl) hHeld ?_
      simp only [Act.put, List.setIfInBounds_toArray, List.set_cons_zero, List.set_cons_succ]
      refine takeZ 3 (some 37) (by kernel_rfl) rfl rfl (by kernel_rfl) (by kernel_rfl) (by kernel_rfl) (fun _ _ _ h => h) (by rfl) (by intro w ⟨g1, g2, g3⟩; go_simp; try with_reducible rfl) hHeld ?_
      simp only [Act.put, List.setIfInBounds_toArray, List.set_cons_zero, List.set_cons_succ]
      refine takeZ 4 (some 38) (by kernel_rfl) rfl rfl (by kernel_rfl) (by kernel_rfl) (by kernel_rfl) (fun _ _ _ h => h) (by rfl) (by intro w ⟨g1, g2, g3⟩; go_simp; try with_reducible rfl) hHeld ?_
      simp only [Act.put, List.setIfInBounds_toArray, List.set_cons_zero, List.set_cons_succ]
      refine takeZ 5 (some 39) (by kernel_rfl) rfl rfl (by kernel_rfl) (by kernel_rfl) (by kernel_rfl) (fun _ _ _ h => h) (by rfl) (by intro w ⟨g1, g2, g3⟩; go_simp; try with_reducible rfl) hHeld ?_
      simp only [Act.put, List.setIfInBounds_toArray, List.set_cons_zero, List.set_cons_succ]
      refine takeZ 6 (some 40) (by kernel_rfl) rfl rfl (by kernel_rfl) (by kernel_rfl) (by kernel_rfl) (fun _ _ _ h => h) (by rfl) (by intro w ⟨g1, g2, g3⟩; go_simp; try with_reducible rfl) hHeld ?_
      simp only [Act.put, List.setIfInBounds_toArray, List.set_cons_zero, List.set_cons_succ]
      refine takeZ 7 (some 41) (by kernel_rfl) rfl rfl (by kernel_rfl) (by kernel_rfl) (by kernel_rfl) (fun _ _ _ h => h) (by rfl) (by intro w ⟨g1, g2, g3⟩; go_simp; try with_reducible rfl) hHeld ?_
      simp only [Act.put, List.setIfInBounds_toArray, List.set_cons_zero, List.set_cons_succ]
      refine takeZ 8 (some 42) (by kernel_rfl) rfl rfl (by kernel_rfl) (by kernel_rfl) (by kernel_rfl) (fun _ _ _ h => h) (by rfl) (by intro w ⟨g1, g2, g3⟩; go_simp; try with_reducible rfl) hHeld ?_
      simp only [Act.put, List.setIfInBounds_toArray, List.set_cons_zero, List.set_cons_succ]
      refine takeZ 9 (some 43) (by kernel_rfl) rfl rfl (by kernel_rfl) (by kernel_rfl) (by kernel_rfl) (fun _ _ _ h => h) (by rfl) (by intro w ⟨g1, g2, g3⟩; go_simp; try with_reducible rfl) hHeld ?_
      simp only [Act.put, List.setIfInBounds_toArray, List.set_cons_zero, List.set_cons_succ]
      refine takeZ 10 (some 44) (by kernel_rfl) rfl rfl (by kernel_rfl) (by kernel_rfl) (by kernel_rfl) (fun _ _ _ h => h) (by rfl) (by intro w ⟨g1, g2, g3⟩; go_simp; try with_reducible rfl) hHeld ?_
      simp only [Act.put, List.setIfInBounds_toArray, List.set_cons_zero, List.set_cons_succ]
      refine takeZ 11 (some 45) (by kernel_rfl) rfl rfl (by kernel_rfl) (by kernel_rfl) (by kernel_rfl) (fun _ _ _ h => h) (by rfl) (by intro w ⟨g1, g2, g3⟩; go_simp; try with_reducible rfl) hHeld ?_
      simp only [Act.put, List.setIfInBounds_toArray, List.set_cons_zero, List.set_cons_succ]
      rw [HW7.out]
      refine oneZ 12 rfl (by kernel_rfl) (fun K hK => ?_)
      go_simp
      refine hK.out _ _ (.inr ⟨alloc_cell c70 _, alloc_cell c71 _, alloc_cell c72 _⟩) ?_
      clear hK K
      refine oneZ 13 rfl (by kernel_rfl) (fun K hK => ?_)
      refine step_append_lies _ rfl _ _ 25 rfl (rb + 1) 3 i1 (.int .i64 0) 1 8 Try.underlying25 hi1 hz1 hz2 hz3 rfl (by decide) B7 nn7 _ (by simp [Act.eval, Act.put]) (show World.ownsRow ((W2.alloc (.cells #[.int .i64 (2 * (k : Int))] 3)).drew) _ _ _ _ _ _ from HOW7.out.alloc _) ⟨W2.heap.size, 0, none⟩ 1 1 [.int .i64 (2 * (k : Int))] (by simp [Act.eval, Act.put]) rfl (World.news_of_block (heap_alloc_new _ _)) (by simp [Value.oneCell']) (by decide) (by unfold maxLen; omega) (by omega) (by have := hZ7.out.sz; simp at this ⊢; omega) (W2.heap.size + 1) (by simp) ?_
      intro g7 cap7 Z7 hown hgrow hat _
      obtain ⟨hM, hzc, hzf, hqs, hmm⟩ := hZ7.out.grow (i := u + 2) (new := [2 * (k : Int)]) HB7.out (by rw [← HNN7.out]; rfl) (by omega) hown (show World.grownBy ((W2.alloc (.cells #[.int .i64 (2 * (k : Int))] 3)).drew) Z7 _ from hgrow) hat
      obtain ⟨hqf, hqz⟩ := hqs _ (by simp) _ HQ7.out
      have HMN7 := Lib.hid hM
      have HQN7 := Lib.hid hqf
      unfold plW at hzc hzf
      clear hown hgrow hat hM hqs hqf hHeld
      refine hK.out _ _ (.inr ⟨hmm, cell_of hqz rfl, hzc⟩) ?_
      clear hK K
      try simp only [Act.put, List.setIfInBounds_toArray, List.set_cons_zero, List.set_cons_succ]
      have hHeld : Z7.cell? ⟨rb, 2, none⟩ = some (.slice (some ⟨bm, 0, none⟩) N N) ∧ Z7.cell? ⟨wr.heap.size, 0, none⟩ = some (.int .i64 (u : Int)) ∧ Z7.cell? ⟨bm, u, none⟩ = some B7 := ⟨hmm, cell_of hqz rfl, hzc⟩
      refine takeZ 14 (some 48) (by kernel_rfl) rfl rfl (by kernel_rfl) (by kernel_rfl) (by kernel_rfl) (fun _ _ _ h => h) (by rfl) (by intro w ⟨g1, g2, g3⟩; go_simp; try with_reducible rfl) hHeld ?_
      simp only [Act.put, List.setIfInBounds_toArray, List.set_cons_zero, List.set_cons_succ]
      clear hHeld hqz hmm
      refine oneZ 15 rfl (by kernel_rfl) (fun K hK => ?_)
      go_simp
      refine hK.out _ _ (.inl rfl) ?_
      clear hK K hzc hzf c70 c71 c72
      refine doneZ (by kernel_rfl) ?_ _
      go_wp2_with (fail)
      obtain ⟨W3, hW3⟩ : ∃ W, W = Z7.setCell ⟨bm, u, none⟩ (.slice (some ⟨g7, 0, none⟩) (nn7 + 1) cap7) := ⟨_, rfl⟩
      obtain ⟨VS8, hVS8⟩ : ∃ l, l = VS7.set (u + 2) (Value.slice (some ⟨g7, 0, none⟩) (nn7 + 1) cap7) := ⟨_, rfl⟩
      obtain ⟨C8, hC8⟩ : ∃ c, c = upc C7 (u + 2) [2 * (k : Int)] := ⟨_, rfl⟩
      have HM8 := Lib.hid (show WhM w (rb + 1) rb bm N [wr.heap.size] VS8 C8 W3 by rw [hVS8, hC8, hW3]; exact HMN7.out)
      have HQ8 := Lib.hid (show W3.heap[wr.heap.size]? = some (.cells #[.int .i64 (u : Int), .int .i64 (v : Int), .int .i64 cp] 39 (0, 0)) by rw [hW3]; exact HQN7.out)
      have CL8 : (C8 (v + 2)).length ≤ 256 := by
        rw [hC8]
        rw [show upc C7 (u + 2) [2 * (k : Int)] (v + 2) = C7 (v + 2) from if_neg (by omega), HC7.out]
        exact CLL v
      have HC8 := Lib.hid hC8
      rw [← hW3]
      clear hVS8 hC8 hW3 HMN7 HQN7
      have hl8 := HM8.out.len
      obtain ⟨B8, hB8⟩ : ∃ b, VS8[v + 2]? = some b := ⟨_, List.getElem?_eq_getElem (by omega)⟩
      have c80 := HM8.out.m2
      have c81 : W3.cell? ⟨wr.heap.size, 1, none⟩ = some (.int .i64 (v : Int)) := cell_of HQ8.out rfl
      have c82 := (HM8.out.o.place (v + 2) B8 hB8).1
      have hw8 : IntKind.i64.wrap (2 * (k : Int)) = 2 * (k : Int) := IntWalk.i64_in _ (by omega)
      have hwp8 : IntKind.i64.wrap (2 * (k : Int) + 1) = 2 * (k : Int) + 1 := IntWalk.i64_in _ (by omega)
      have HWP8 := Lib.hid hwp8
      clear hwp8
      have HW8 := Lib.hid hw8
      have HB8 := Lib.hid hB8
      unfold plW at c82
      have hnN : (v : Int) < (N : Int) := by omega
      have hZ8 := Lib.hid (show WhM w (rb + 1) rb bm N [wr.heap.size] VS8 C8 W3.drew from HM8.out.drew)
      have HOW8 := Lib.hid (hZ8.out.o.own (v + 2) B8 hB8)
      have hcl8 : (C8 (v + 2)).length ≤ 256 := CL8
      obtain ⟨nn8, hnn8⟩ : ∃ n, n = (C8 (v + 2)).length := ⟨_, rfl⟩
      rw [← hnn8] at HOW8 hcl8
      have HNN8 := Lib.hid hnn8
      clear hw8 hB8 hnn8 hl8
      refine region_z 16 hfm (S := fun X => X.cell? ⟨rb, 2, none⟩ = some (.slice (some ⟨bm, 0, none⟩) N N) ∧ X.cell? ⟨wr.heap.size, 1, none⟩ = some (.int .i64 (v : Int)) ∧ X.cell? ⟨bm, v, none⟩ = some B8) ⟨c80, c81, c82⟩ (fun hHeld => ?_)
      refine takeZ 0 (some 49) (by kernel_rfl) rfl rfl (by kernel_rfl) (by kernel_rfl) (by kernel_rfl) (fun _ _ _ h => h) (by rfl) (by intro w ⟨g1, g2, g3⟩; go_simp; try with_reducible rfl) hHeld ?_
      simp only [Act.put, List.setIfInBounds_toArray, List.set_cons_zero, List.set_cons_succ]
      refine takeZ 1 (some 50) (by kernel_rfl) rfl rfl (by kernel_rfl) (by kernel_rfl) (by kernel_rfl) (fun _ _ _ h => h) (by rfl) (by intro w ⟨g1, g2, g3⟩; go_simp; try with_reducible rfl) hHeld ?_
      simp only [Act.put, List.setIfInBounds_toArray, List.set_cons_zero, List.set_cons_succ]
      refine takeZ 2 (some 51) (by kernel_rfl) rfl rfl (by kernel_rfl) (by kernel_rfl) (by kernel_rfl) (fun _ _ _ h => h) (by rfl) (by intro w ⟨g1, g2, g3⟩; go_simp; try with_reducible rfl) hHeld ?_
      simp only [Act.put, List.setIfInBounds_toArray, List.set_cons_zero, List.set_cons_succ]
      refine takeZ 3 (some 52) (by kernel_rfl) rfl rfl (by kernel_rfl) (by kernel_rfl) (by kernel_rfl) (fun _ _ _ h => h) (by rfl) (by intro w ⟨g1, g2, g3⟩; go_simp; try with_reducible rfl) hHeld ?_
      simp only [Act.put, List.setIfInBounds_toArray, List.set_cons_zero, List.set_cons_succ]
      refine takeZ 4 (some 53) (by kernel_rfl) rfl rfl (by kernel_rfl) (by kernel_rfl) (by kernel_rfl) (fun _ _ _ h => h) (by rfl) (by intro w ⟨g1, g2, g3⟩; go_simp; try with_reducible rfl) hHeld ?_
      simp only [Act.put, List.setIfInBounds_toArray, List.set_cons_zero, List.set_cons_succ]
      refine takeZ 5 (some 54) (by kernel_rfl) rfl rfl (by kernel_rfl) (by kernel_rfl) (by kernel_rfl) (fun _ _ _ h => h) (by rfl) (by intro w ⟨g1, g2, g3⟩; go_simp; try with_reducible rfl) hHeld ?_
      simp only [Act.put, List.setIfInBounds_toArray, List.set_cons_zero, List.set_cons_succ]
      refine takeZ 6 (some 55) (by kernel_rfl) rfl rfl (by kernel_rfl) (by kernel_rfl) (by kernel_rfl) (fun _ _ _ h => h) (by rfl) (by intro w ⟨g1, g2, g3⟩; go_simp; try with_reducible rfl) hHeld ?_
      simp only [Act.put, List.setIfInBounds_toArray, List.set_cons_zero, List.set_cons_succ]
      refine takeZ 7 (some 56) (by kernel_rfl) rfl rfl (by kernel_rfl) (by kernel_rfl) (by kernel_rfl) (fun _ _ _ h => h) (by rfl) (by intro w ⟨g1, g2, g3⟩; go_simp; try with_reducible rfl) hHeld ?_
      simp only [Act.put, List.setIfInBounds_toArray, List.set_cons_zero, List.set_cons_succ]
      refine takeZ 8 (some 57) (by kernel_rfl) rfl rfl (by kernel_rfl) (by kernel_rfl) (by kernel_rfl) (fun _ _ _ h => h) (by rfl) (by intro w ⟨g1, g2, g3⟩; go_simp; try with_reducible rfl) hHeld ?_
      simp only [Act.put, List.setIfInBounds_toArray, List.set_cons_zero, List.set_cons_succ]
      refine takeZ 9 (some 58) (by kernel_rfl) rfl rfl (by kernel_rfl) (by kernel_rfl) (by kernel_rfl) (fun _ _ _ h => h) (by rfl) (by intro w ⟨g1, g2, g3⟩; go_simp; try with_reducible rfl) hHeld ?_
      simp only [Act.put, List.setIfInBounds_toArray, List.set_cons_zero, List.set_cons_succ]
      refine takeZ 10 (some 59) (by kernel_rfl) rfl rfl (by kernel_rfl) (by kernel_rfl) (by kernel_rfl) (fun _ _ _ h => h) (by rfl) (by intro w ⟨g1, g2, g3⟩; go_simp; try with_reducible rfl) hHeld ?_
      simp only [Act.put, List.setIfInBounds_toArray, List.set_cons_zero, List.set_cons_succ]
      refine takeZ 11 (some 60) (by kernel_rfl) rfl rfl (by kernel_rfl) (by kernel_rfl) (by kernel_rfl) (fun _ _ _ h => h) (by rfl) (by intro w ⟨g1, g2, g3⟩; go_simp; try with_reducible rfl) hHeld ?_
      simp only [Act.put, List.setIfInBounds_toArray, List.set_cons_zero, List.set_cons_succ]
      refine takeZ 12 (some 61) (by kernel_rfl) rfl rfl (by kernel_rfl) (by kernel_rfl) (by kernel_rfl) (fun _ _ _ h => h) (by rfl) (by intro w ⟨g1, g2, g3⟩; go_simp; try with_reducible rfl) hHeld ?_
      simp only [Act.put, List.setIfInBounds_toArray, List.set_cons_zero, List.set_cons_succ]
      rw [HW8.out, HWP8.out]
      refine oneZ 13 rfl (by kernel_rfl) (fun K hK => ?_)
      go_simp
      refine hK.out _ _ (.inr ⟨alloc_cell c80 _, alloc_cell c81 _, alloc_cell c82 _⟩) ?_
      clear hK K
      refine oneZ 14 rfl (by kernel_rfl) (fun K hK => ?_)
      refine step_append_lies _ rfl _ _ 25 rfl (rb + 1) 3 i1 (.int .i64 0) 1 8 Try.underlying25 hi1 hz1 hz2 hz3 rfl (by decide) B8 nn8 _ (by simp [Act.eval, Act.put]) (show World.ownsRow ((W3.alloc (.cells #[.int .i64 (2 * (k : Int) + 1)] 3)).drew) _ _ _ _ _ _ from HOW8.out.alloc _) ⟨W3.heap.size, 0, none⟩ 1 1 [.int .i64 (2 * (k : Int) + 1)] (by simp [Act.eval, Act.put]) rfl (World.news_of_block (heap_alloc_new _ _)) (by simp [Value.oneCell']) (by decide) (by unfold maxLen; omega) (by omega) (by have := hZ8.out.sz; simp at this ⊢; omega) (W3.heap.size + 1) (by simp) ?_
      intro g8 cap8 Z8 hown hgrow hat _
      obtain ⟨hM, hzc, hzf, hqs, hmm⟩ := hZ8.out.grow (i := v + 2) (new := [2 * (k : Int) + 1]) HB8.out (by rw [← HNN8.out]; rfl) (by omega) hown (show World.grownBy ((W3.alloc (.cells #[.int .i64 (2 * (k : Int) + 1)] 3)).drew) Z8 _ from hgrow) hat
      obtain ⟨hqf, hqz⟩ := hqs _ (by simp) _ HQ8.out
      have HMN8 := Lib.hid hM
      have HQN8 := Lib.hid hqf
      unfold plW at hzc hzf
      clear hown hgrow hat hM hqs hqf hHeld
      refine hK.out _ _ (.inr ⟨hmm, cell_of hqz rfl, hzc⟩) ?_
      clear hK K
      try simp only [Act.put, List.setIfInBounds_toArray, List.set_cons_zero, List.set_cons_succ]
      have hHeld : Z8.cell? ⟨rb, 2, none⟩ = some (.slice (some ⟨bm, 0, none⟩) N N) ∧ Z8.cell? ⟨wr.heap.size, 1, none⟩ = some (.int .i64 (v : Int)) ∧ Z8.cell? ⟨bm, v, none⟩ = some B8 := ⟨hmm, cell_of hqz rfl, hzc⟩
      refine takeZ 15 (some 64) (by kernel_rfl) rfl rfl (by kernel_rfl) (by kernel_rfl) (by kernel_rfl) (fun _ _ _ h => h) (by rfl) (by intro w ⟨g1, g2, g3⟩; go_simp; try with_reducible rfl) hHeld ?_
      simp only [Act.put, List.setIfInBounds_toArray, List.set_cons_zero, List.set_cons_succ]
      clear hHeld hqz hmm
      refine oneZ 16 rfl (by kernel_rfl) (fun K hK => ?_)
      go_simp
      refine hK.out _ _ (.inl rfl) ?_
      clear hK K hzc hzf c80 c81 c82
      refine doneZ (by kernel_rfl) ?_ _
      have HFIN := Lib.hid (show WhM w (rb + 1) rb bm N [] (VS8.set (v + 2) (Value.slice (some ⟨g8, 0, none⟩) (nn8 + 1) cap8)) (cW (arsOf (l.take (k + 1)))) (Z8.setCell ⟨bm, v, none⟩ (.slice (some ⟨g8, 0, none⟩) (nn8 + 1) cap8)) by
        have h := HMN8.out.few
        rw [HC8.out, HC7.out] at h
        rw [arsOf_take HX.out, cW_snoc, hl2]
        have e1 : (arOf ((u : Int), (v : Int), cp)).u = u := by simp [arOf]
        have e2 : (arOf ((u : Int), (v : Int), cp)).v = v := by simp [arOf]
        have e3 : (arOf ((u : Int), (v : Int), cp)).cap - (arOf ((u : Int), (v : Int), cp)).x = cp := by simp [arOf]
        have e4 : (arOf ((u : Int), (v : Int), cp)).x = 0 := rfl
        rw [e1, e2, e3, e4]
        exact h)
      clear HMN8 HQN8
      go_wp2_with (fail)
      go_roundw
      case rel => exact ⟨k + 1, _, by omega, by go_num, HFIN⟩
      case measure => simp only [intOf]; omega
    · obtain rfl : k = l.length := by omega
      rw [List.take_length] at hM
      obtain ⟨E, hE⟩ : ∃ v, vs[0]? = some v := ⟨_, List.getElem?_eq_getElem (by have := hM.out.len; omega)⟩
      obtain ⟨R, hR⟩ : ∃ v, vs[1]? = some v := ⟨_, List.getElem?_eq_getElem (by have := hM.out.len; omega)⟩
      have e0 := (hM.out.o.place 0 E hE).1
      have e1 := (hM.out.o.place 1 R hR).1
      have e2 := hM.out.m2
      unfold plW at e0 e1
      obtain ⟨AE, nE, cE, rfl⟩ := own_shape (hM.out.o.own 0 E hE)
      obtain ⟨AR, nR, cR, rfl⟩ := own_shape (hM.out.o.own 1 R hR)
      have hres := hM.out.res
      obtain ⟨q0, q1, q2⟩ := three_cells hres
      obtain ⟨f0, f1, f2⟩ := three_frozen hres
      have HE := Lib.hid hE
      have HR := Lib.hid hR
      have HRES := Lib.hid hres
      clear hE hR hres
      go_wp2_with (fail)
      refine bodyPost_ret (v := .agg #[.slice AE nE cE, .slice AR nR cR, .slice (some ⟨bm, 0, none⟩) N N]) ?_ rfl ?_
      · have h3 := row_store3 HRES.out (.slice AE nE cE) (.slice AR nR cR) (.slice (some ⟨bm, 0, none⟩) N N)
        obtain ⟨c0, c1, c2⟩ := three_cells h3
        simp [results, Try.results42, go_sem, c0, c1, c2]
      · exact whole_end hM.out (by omega) (by rw [arsOf_len]; exact hl128) hN64' HE.out HR.out
end Go.Proofs.Ytglpaihadongkaa
