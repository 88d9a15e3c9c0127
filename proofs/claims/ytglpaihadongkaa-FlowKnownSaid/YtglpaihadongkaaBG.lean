/-
  DERIVED. A queue in memory, and the marks of loops over an iterator within a loop (stage 5).
-/
import Derived.Test.YtglpaihadongkaaBF
import Derived.ArgAppend
import Derived.Deep.LoopGhost
namespace Go.Proofs.Ytglpaihadongkaa
open Go.RowKit Go.Shelf
attribute [local go_sem] Oper.semAt_some
set_option maxRecDepth 100000
set_option linter.unusedSimpArgs false
set_option linter.unusedVariables false

/-- Numbers that wait: a slice in a block of its own, its spare cells too. -/
def QOwn (X : World) (v : Value) (q : List Int) (K : Nat → Prop) : Prop :=
  ∃ g o c, v = .slice (some ⟨g, o, none⟩) q.length c ∧ K g ∧ (∃ cs t fr, X.heap[g]? = some (.cells cs t fr)) ∧ q.length ≤ c ∧ c ≤ maxLen ∧ (∀ j, j < c → (X.cell? ⟨g, o + j, none⟩).isSome = true ∧ X.frozen? ⟨g, o + j, none⟩ = false) ∧ ∀ j x, q[j]? = some x → X.cell? ⟨g, o + j, none⟩ = some (.int .i64 x)
theorem QOwn.kept {X Y : World} {v : Value} {q : List Int} {K K' : Nat → Prop} (h : QOwn X v q K) (hk : ∀ g cs t fr, K g → X.heap[g]? = some (.cells cs t fr) → Y.heap[g]? = some (.cells cs t fr)) (hK : ∀ g, K g → g < X.heap.size → K' g) : QOwn Y v q K' := by
  obtain ⟨g, o, c, e, h1, ⟨cs, t, fr, hb⟩, h2, h3, h4, h5⟩ := h
  have hY := hk g cs t fr h1 hb
  have e2 : Y.heap[g]? = X.heap[g]? := hY.trans hb.symm
  refine ⟨g, o, c, e, hK g h1 (at_lt hb), ⟨cs, t, fr, hY⟩, h2, h3, fun j hj => ?_, fun j x hx => (World.cell?_of_block (a := ⟨g, o + j, none⟩) e2).trans (h5 j x hx)⟩
  rw [World.cell?_of_block (a := ⟨g, o + j, none⟩) e2, World.frozen?_of_block (a := ⟨g, o + j, none⟩) e2]
  exact h4 j hj
theorem QOwn.own {X : World} {v : Value} {q : List Int} {K : Nat → Prop} (h : QOwn X v q K) {k : Nat} (hk : v.ownBlock = some k) : K k ∧ ∃ cs t fr, X.heap[k]? = some (.cells cs t fr) := by
  obtain ⟨g, o, c, rfl, h1, h2, -⟩ := h
  obtain rfl : g = k := by simpa [Value.ownBlock] using hk
  exact ⟨h1, h2⟩
theorem setCells_one (w : World) (b o : Nat) (x : Value) : w.setCells b o [x] = w.setCell ⟨b, o, none⟩ x := rfl
theorem setCell_cells {w : World} {b o : Nat} {x : Value} {cs : Array Value} {t : TypeId} {fr : Nat × Nat} (h : w.heap[b]? = some (.cells cs t fr)) : ∃ cs', (w.setCell ⟨b, o, none⟩ x).heap[b]? = some (.cells cs' t fr) := by
  simp only [World.setCell, Array.getElem?_modify, if_pos trivial, h]
  exact ⟨_, rfl⟩
/-- One more. -/
theorem run_append_q {w : World} {v : Value} {q : List Int} {K : Nat → Prop} (h : QOwn w v q K) (b : Nat) (x : Int) (hx : w.cell? ⟨b, 0, none⟩ = some (.int .i64 x)) (ty : TypeId) (hq : q.length ≤ 1000000) :
    ∃ v' w', (Builtin.append_ #[25, 25] ty #[v, .slice (some ⟨b, 0, none⟩) 1 1]).run Try.prog w = .ok v' w' ∧ QOwn w' v' (q ++ [x]) (fun g => v.ownBlock = some g ∨ w.heap.size ≤ g) ∧ Out (fun k => v.ownBlock = some k) w w' := by
  obtain ⟨g, o, c, rfl, h1, ⟨cs, t, fr, hb⟩, h2, h3, h4, h5⟩ := h
  obtain ⟨i0, hi0, hz0, hz1, hz2⟩ := info_parts int_info
  have hnews : ∀ j u, [Value.int .i64 x][j]? = some u → w.cell? ((⟨b, 0, none⟩ : Addr).add j) = some u := fun j u hj => by
    match j, hj with
    | 0, hj => simp at hj; subst hj; exact hx
  by_cases hr : q.length + 1 ≤ c
  · have hrun := run_append_room_cells (P := Try.prog) w 25 ty 3 i0 Try.underlying25 hi0 g o q.length c ⟨b, 0, none⟩ 1 1 [.int .i64 x] (by rw [hz1]; rfl) hnews (by simp [Value.oneCell']) hr
      (fun j hj => by
        have : j = 0 := by simp at hj; omega
        subst this
        rw [hz1, Nat.mul_one]
        exact (h4 q.length (by omega)).1)
      (fun j hj => by
        have : j = 0 := by simp at hj; omega
        subst this
        rw [hz1, Nat.mul_one]
        exact (h4 q.length (by omega)).2)
    rw [hz1, Nat.mul_one, setCells_one] at hrun
    obtain ⟨cs', hb'⟩ := setCell_cells (o := o + q.length) (x := .int .i64 x) hb
    refine ⟨_, _, hrun, ⟨g, o, c, by rw [List.length_append]; rfl, .inl rfl, ⟨cs', t, fr, hb'⟩, by rw [List.length_append]; exact hr, h3, fun j hj => ?_, fun j y hj => ?_⟩, Out.store (S := fun k => (Value.slice (some ⟨g, o, none⟩) q.length c).ownBlock = some k) (show some g = some g from rfl) _⟩
    · obtain ⟨g1, g2⟩ := h4 j hj
      rw [World.frozen?_setCell]
      refine ⟨?_, g2⟩
      by_cases e : j = q.length
      · subst e
        obtain ⟨u, hu⟩ := Option.isSome_iff_exists.1 g1
        rw [World.cell?_setCell_same _ _ _ hu]; rfl
      · rw [World.cell?_setCell_other _ _ _ _ (fun e' => e (by injection e' with _ e'; omega))]; exact g1
    · by_cases e : j = q.length
      · subst e
        obtain ⟨u, hu⟩ := Option.isSome_iff_exists.1 (h4 q.length (by omega)).1
        rw [World.cell?_setCell_same _ _ _ hu]
        rw [List.getElem?_append_right (Nat.le_refl _), Nat.sub_self] at hj
        simp at hj
        rw [hj]
      · have hjl : j < q.length := by have := (List.getElem?_eq_some_iff.1 hj).1; rw [List.length_append, List.length_singleton] at this; omega
        rw [World.cell?_setCell_other _ _ _ _ (fun e' => e (by injection e' with _ e'; omega))]
        rw [List.getElem?_append_left hjl] at hj
        exact h5 j y hj
  · obtain ⟨v', w', hrun, r1, r2⟩ := run_append_arg_grows (P := Try.prog) w 25 ty 3 i0 (.int .i64 0) 1 8 Try.underlying25 hi0 hz0 hz1 hz2 rfl (by decide) ⟨g, o, none⟩ q.length c (ints q) (by simp [ints])
      (fun j u hj => by
        have hjl : j < q.length := by have := (List.getElem?_eq_some_iff.1 hj).1; simpa [ints] using this
        have e : (⟨g, o, none⟩ : Addr).add j = ⟨g, o + j, none⟩ := by unfold Addr.add; split <;> simp_all
        rw [e, h5 j _ (List.getElem?_eq_getElem hjl)]
        unfold ints at hj
        rw [List.getElem?_map, List.getElem?_eq_getElem hjl] at hj
        exact hj) ⟨b, 0, none⟩ 1 1 [.int .i64 x] (by simp) hnews (by omega) (by unfold maxLen; omega) (by omega)
    refine ⟨v', w', hrun, ?_, ⟨r2.os, r2.tape, r2.output, r2.size, fun k ob _ hk => (r2.block k (at_lt hk) (by simp)).trans hk⟩⟩
    obtain ⟨g', cap', rfl, hge, hlt⟩ := r1.form (by omega)
    obtain ⟨cur, hcur⟩ := ownsRow_block r1
    have hcap : q.length + 1 ≤ cap' ∧ cap' ≤ maxLen ∧ cur.size = cap' := by
      obtain ⟨k1, ⟨e, -⟩ | ⟨g2, cap2, cur2, e, k3, k4, k5, k6, k7, k8⟩⟩ := r1
      · cases e
      · injection e with e1 _ e2
        injection e1 with e1
        injection e1 with e1
        subst e1 e2
        rw [hcur] at k4
        injection k4 with k4
        injection k4 with k4
        subst k4
        exact ⟨k5, k6, by omega⟩
    refine ⟨g', 0, cap', by rw [List.length_append]; rfl, .inr hge, ⟨cur, _, _, hcur⟩, by rw [List.length_append]; exact hcap.1, hcap.2.1, fun j hj => ?_, fun j y hj => ?_⟩
    · rw [Nat.zero_add]
      refine ⟨?_, r1.frozenAt j⟩
      simp only [World.cell?, hcur]
      rw [Array.getElem?_eq_getElem (by omega)]; rfl
    · have hjl := (List.getElem?_eq_some_iff.1 hj).1
      rw [List.length_append, List.length_singleton] at hjl
      rw [Nat.zero_add, r1.cellAt j (by omega)]
      rw [← ints_snoc]
      unfold ints
      rw [List.getElem?_map, hj]; rfl
theorem wpListIn_append_q {F : Fence} {n : Nat} {w : World} {ops : Array Oper} {rest : List Oper} {o : Oper} {a : Act} {Q : Exit → Act → World → Prop}
    (hg : o.guard = none) (s x : Operand) (hop : o.op = Op.call { callee := Callee.builtin Builtin.append, args := #[s, x], argTypes := #[25, 25] })
    {v : Value} {q : List Int} {K : Nat → Prop} (h : QOwn w v q K) (hs : a.eval s = v) (b : Nat) (y : Int) (hx : a.eval x = .slice (some ⟨b, 0, none⟩) 1 1) (hc : w.cell? ⟨b, 0, none⟩ = some (.int .i64 y)) (hq : q.length ≤ 1000000)
    (hK : ∀ v' w', QOwn w' v' (q ++ [y]) (fun g => v.ownBlock = some g ∨ w.heap.size ≤ g) → Out (fun k => v.ownBlock = some k) w w' → wpListIn F n Try.prog ops Q rest (a.put o.dst v') w') :
    wpListIn F n Try.prog ops Q (o :: rest) a w := by
  refine wpListIn_plain hg fun K0 hK' => ?_
  obtain ⟨v', w', hrun, r1, r2⟩ := run_append_q h b y hc o.type hq
  unfold Oper.wpIn
  refine ⟨?_, ?_⟩
  · simp [Oper.about, hop, resolve, Target.leads, Sem.run_pure]
  · rw [Oper.semAt_plain F _ _ (by rw [hop]; intro c hc'; cases hc')]
    simp [execOp, hop, resolve, invoke, builtin, hs, hx, hrun, Result.andThen]
    exact hK' _ _ (hK v' w' r1 r2)
theorem row_of_block {X : World} {b : Nat} {cur : List Value} {L : List Int} {T : TypeId} (h : X.heap[b]? = some (.cells cur.toArray T (0, 0))) (hc : cur = ints L) : Row X b 0 L := fun k x hx => by
  rw [Nat.zero_add]
  refine ⟨?_, by simp [World.frozen?, h]⟩
  rw [Lib.cell_of_row' h, hc]
  unfold ints
  rw [List.getElem?_map, hx]; rfl
/-- The first one taken away. -/
theorem QOwn.tail {X : World} {x : Int} {q : List Int} {K : Nat → Prop} {v : Value} (h : QOwn X v (x :: q) K) : ∃ g o c, v = .slice (some ⟨g, o, none⟩) (q.length + 1) c ∧ q.length + 1 ≤ c ∧ c ≤ maxLen ∧ K g ∧ X.cell? ⟨g, o, none⟩ = some (.int .i64 x) ∧
    (c ≠ 1 → QOwn X (.slice (some ⟨g, o + 1, none⟩) q.length (c - 1)) q K) ∧ (c = 1 → QOwn X (.slice (some ⟨g, o, none⟩) 0 0) q K) := by
  obtain ⟨g, o, c, e, h1, hb, h2, h3, h4, h5⟩ := h
  rw [List.length_cons] at e h2
  refine ⟨g, o, c, e, h2, h3, h1, h5 0 x rfl, fun hc => ⟨g, o + 1, c - 1, rfl, h1, hb, by omega, by omega, fun j hj => ?_, fun j y hy => ?_⟩, fun hc => ?_⟩
  · rw [show o + 1 + j = o + (j + 1) by omega]; exact h4 (j + 1) (by omega)
  · rw [show o + 1 + j = o + (j + 1) by omega]; exact h5 (j + 1) y hy
  · obtain rfl : q = [] := List.eq_nil_of_length_eq_zero (by omega)
    exact ⟨g, o, 0, rfl, h1, hb, Nat.le_refl _, Nat.zero_le _, fun j hj => by omega, fun j y hy => by simp at hy⟩
theorem QOwn.tail_run {X : World} {x : Int} {q : List Int} {K : Nat → Prop} {v : Value} (h : QOwn X v (x :: q) K) (hq : q.length ≤ 1000000) : ∃ g o c v2, v = .slice (some ⟨g, o, none⟩) (q.length + 1) c ∧ q.length + 1 ≤ c ∧ c ≤ maxLen ∧ K g ∧ X.cell? ⟨g, o, none⟩ = some (.int .i64 x) ∧
    (∀ W' : World, (Instr.slice 25 (.slice (some ⟨g, o, none⟩) (q.length + 1) c) (some (.int .i64 1)) none none).run Try.prog W' = .ok v2 W') ∧ QOwn X v2 q K := by
  obtain ⟨g, o, c, e, h1, h2, h3, h4, h5, h6⟩ := h.tail
  by_cases hc : c = 1
  · refine ⟨g, o, c, _, e, h1, h2, h3, h4, fun W' => ?_, h6 hc⟩
    have hq0 : q.length = 0 := by omega
    have hu := Try.underlying25
    have e8 := int_size
    subst hc
    rw [hq0]
    go_simp
  · refine ⟨g, o, c, _, e, h1, h2, h3, h4, fun W' => ?_, h5 hc⟩
    have hu := Try.underlying25
    have e8 := int_size
    unfold maxLen at h2
    go_simp
    intro hh
    omega
/-- The marks that loops over an iterator leave. -/
def markOf (D : Nat) : Deferred := { target := .collected D, args := #[] }
def putMarks (Ds : List Nat) (w : World) : World := Ds.foldl (fun w D => w.putObj D (.deferred none)) w
structure Marks (B : Nat) (Ds : List Nat) (w : World) : Prop where
  nd : Ds.Nodup
  at_ : ∀ D ∈ Ds, B ≤ D ∧ w.heap[D]? = some (.deferred (some []))
theorem Marks.nil (B : Nat) (w : World) : Marks B [] w := ⟨List.nodup_nil, fun D h => by cases h⟩
theorem Marks.kept {B : Nat} {Ds : List Nat} {w w' : World} (h : Marks B Ds w) (hk : ∀ (k : Nat) (o : Obj), B ≤ k → o.isCells = false → w.heap[k]? = some o → w'.heap[k]? = some o) : Marks B Ds w' :=
  ⟨h.nd, fun D hD => ⟨(h.at_ D hD).1, hk _ _ (h.at_ D hD).1 rfl (h.at_ D hD).2⟩⟩
theorem Marks.cons {B : Nat} {Ds : List Nat} {w : World} {D : Nat} (h : Marks B Ds w) (hB : B ≤ D) (hd : w.heap[D]? = some (.deferred (some []))) (hn : D ∉ Ds) : Marks B (D :: Ds) w :=
  ⟨List.nodup_cons.2 ⟨hn, h.nd⟩, fun E hE => by
    rcases List.mem_cons.1 hE with rfl | hE
    · exact ⟨hB, hd⟩
    · exact h.at_ E hE⟩
theorem putMarks_cells {B : Nat} : ∀ {Ds : List Nat} {w : World}, Marks B Ds w → ∀ (k : Nat) (cs : Array Value) (t : TypeId) (fr : Nat × Nat), w.heap[k]? = some (.cells cs t fr) → (putMarks Ds w).heap[k]? = some (.cells cs t fr)
  | [], _, _, _, _, _, _, h => h
  | D :: Ds, w, hm, k, cs, t, fr, h => by
    have hd := (hm.at_ D (by simp)).2
    have hn := List.nodup_cons.1 hm.nd
    refine putMarks_cells (Ds := Ds) (w := w.putObj D (.deferred none)) ⟨hn.2, fun E hE => ⟨(hm.at_ E (List.mem_cons_of_mem _ hE)).1, ?_⟩⟩ k cs t fr (put_cells h hd rfl)
    exact put_else (hm.at_ E (List.mem_cons_of_mem _ hE)).2 (fun e => hn.1 (e ▸ hE))
theorem putMarks_below {B : Nat} {w0 : World} : ∀ {Ds : List Nat} {w : World}, (∀ D ∈ Ds, B ≤ D) → Below B w0 w → Below B w0 (putMarks Ds w)
  | [], _, _, h => h
  | D :: Ds, w, hm, h => putMarks_below (Ds := Ds) (fun E hE => hm E (List.mem_cons_of_mem _ hE)) (below_put h (hm D (by simp)))
theorem leaves_marks {F : Fence} {n : Nat} {P : Program} {fn : Func} {tmps : Array Value} {R : Ending → World → Prop} {B : Nat} : ∀ {Ds : List Nat} {w : World}, Marks B Ds w → LeavesInM F n P fn tmps R [] .returning (putMarks Ds w) → LeavesInM F n P fn tmps R (Ds.map markOf) .returning w
  | [], _, _, h => h
  | D :: Ds, w, hm, h => by
    have hn := List.nodup_cons.1 hm.nd
    refine ⟨by simp, .inl ⟨D, _, rfl, run_takeDeferred (hm.at_ D (by simp)).2, ?_⟩⟩
    exact leaves_marks (Ds := Ds) ⟨hn.2, fun E hE => ⟨(hm.at_ E (List.mem_cons_of_mem _ hE)).1, put_else (hm.at_ E (List.mem_cons_of_mem _ hE)).2 (fun e => hn.1 (e ▸ hE))⟩⟩ h
end Go.Proofs.Ytglpaihadongkaa
