/-
  DERIVED. Several texts in one.
-/
import Derived.Test.YtglpaihadongkaaAI
import Derived.Test.YtglpaihadongkaaCF
import Derived.Deep.LoopGhost
set_option linter.unusedVariables false
set_option linter.unusedSimpArgs false

/- PLAIN. The reference's search: which nodes are reached, and by which step (stage 5): no program is named. -/
namespace Go.Proofs.Ytglpaihadongkaa
set_option linter.unusedSimpArgs false
set_option linter.unusedVariables false

/-- A step: by which arc, from which node, whether against the arc, and whether it is there. -/
structure Stp where
  arc : Int
  src : Int
  back : Bool
  is : Bool
def stp0 : Stp := ⟨0, 0, false, false⟩
def mvOf (i : Nat) (b : Bool) : Nat := 2 * i + (if b = true then 1 else 0)
theorem mvOf_div (i : Nat) (b : Bool) : mvOf i b / 2 = i := by unfold mvOf; cases b <;> simp <;> omega
theorem mvOf_mod (i : Nat) (b : Bool) : mvOf i b % 2 = if b = true then 1 else 0 := by unfold mvOf; cases b <;> simp <;> omega
theorem mv_along {l : List Ar} {i : Nat} {a : Ar} (h : l[i]? = some a) : mvFrom l (mvOf i false) = some a.u ∧ mvTo l (mvOf i false) = some a.v ∧ mvRoom l (mvOf i false) = a.cap - a.x := by
  unfold mvFrom mvTo mvRoom
  rw [mvOf_div, mvOf_mod, h]
  simp
theorem mv_back {l : List Ar} {i : Nat} {a : Ar} (h : l[i]? = some a) : mvFrom l (mvOf i true) = some a.v ∧ mvTo l (mvOf i true) = some a.u ∧ mvRoom l (mvOf i true) = a.x := by
  unfold mvFrom mvTo mvRoom
  rw [mvOf_div, mvOf_mod, h]
  simp
theorem mv_cases {l : List Ar} {m p q : Nat} (h1 : mvFrom l m = some p) (h2 : mvTo l m = some q) : ∃ a, l[m / 2]? = some a ∧ ((m = mvOf (m / 2) false ∧ a.u = p ∧ a.v = q ∧ mvRoom l m = a.cap - a.x) ∨ (m = mvOf (m / 2) true ∧ a.v = p ∧ a.u = q ∧ mvRoom l m = a.x)) := by
  unfold mvFrom at h1
  unfold mvTo at h2
  unfold mvRoom
  rcases ha : l[m / 2]? with _ | a
  · rw [ha] at h1; cases h1
  · rw [ha] at h1 h2
    refine ⟨a, rfl, ?_⟩
    rcases Nat.mod_two_eq_zero_or_one m with e | e
    · simp [e] at h1 h2
      refine .inl ⟨?_, h1, h2, by simp [e]⟩
      show m = 2 * (m / 2) + (if false = true then 1 else 0)
      simp; omega
    · simp [e] at h1 h2
      refine .inr ⟨?_, h1, h2, by simp [e]⟩
      show m = 2 * (m / 2) + (if true = true then 1 else 0)
      simp; omega
/-- A search under way: the steps so far, and the nodes in the order in which they were reached. -/
structure Srch (l : List Ar) (s N : Nat) (B : List Stp) (seen : List Nat) : Prop where
  len : B.length = N
  nodup : seen.Nodup
  lt : ∀ v ∈ seen, v < N
  first : seen[0]? = some s
  is_ : ∀ v x, B[v]? = some x → (x.is = true ↔ v ∈ seen)
  step : ∀ k v, seen[k]? = some v → 0 < k → ∃ (i u j : Nat) (b : Bool), B[v]? = some ⟨(i : Int), (u : Int), b, true⟩ ∧ i < l.length ∧ mvFrom l (mvOf i b) = some u ∧ mvTo l (mvOf i b) = some v ∧ 0 < mvRoom l (mvOf i b) ∧ seen[j]? = some u ∧ j < k
section
variable {l : List Ar} {s N : Nat} {B : List Stp} {seen : List Nat}
theorem Srch.bound (h : Srch l s N B seen) : seen.length ≤ N := nodup_le N seen h.nodup h.lt
theorem Srch.start (hs : s < N) : Srch l s N ((List.replicate N stp0).set s ⟨-1, (s : Int), false, true⟩) [s] := by
  refine ⟨by simp, by simp, fun v hv => ?_, rfl, fun v x hx => ?_, fun k v hk h0 => ?_⟩
  · rw [List.mem_singleton] at hv; omega
  · rw [List.getElem?_set] at hx
    rw [List.mem_singleton]
    by_cases e : s = v
    · subst e
      rw [if_pos rfl, if_pos (by simpa using hs)] at hx
      injection hx with hx
      subst hx
      simp
    · rw [if_neg e] at hx
      have hv : v < N := by have := (List.getElem?_eq_some_iff.1 hx).1; simpa using this
      rw [List.getElem?_replicate, if_pos hv] at hx
      injection hx with hx
      subst hx
      simp [stp0]
      exact fun e2 => e e2.symm
  · have := (List.getElem?_eq_some_iff.1 hk).1
    simp at this
    omega
theorem Srch.visit (h : Srch l s N B seen) {i u j q : Nat} {b : Bool} (hi : i < l.length) (hf : mvFrom l (mvOf i b) = some u) (ht : mvTo l (mvOf i b) = some q) (hr : 0 < mvRoom l (mvOf i b)) (hj : seen[j]? = some u) (hq : q ∉ seen) (hqN : q < N) :
    Srch l s N (B.set q ⟨(i : Int), (u : Int), b, true⟩) (seen ++ [q]) := by
  have hjl := (List.getElem?_eq_some_iff.1 hj).1
  refine ⟨by rw [List.length_set]; exact h.len, ?_, fun v hv => ?_, ?_, fun v x hx => ?_, fun k v hk h0 => ?_⟩
  · rw [List.nodup_append]
    refine ⟨h.nodup, by simp, fun a ha b hb => ?_⟩
    rw [List.mem_singleton] at hb
    subst hb
    exact fun e => hq (e ▸ ha)
  · rcases List.mem_append.1 hv with h1 | h1
    · exact h.lt v h1
    · rw [List.mem_singleton] at h1; omega
  · rw [List.getElem?_append_left (by omega)]; exact h.first
  · rw [List.getElem?_set] at hx
    rw [List.mem_append, List.mem_singleton]
    by_cases e : q = v
    · subst e
      rw [if_pos rfl, if_pos (by rw [h.len]; exact hqN)] at hx
      injection hx with hx
      subst hx
      simp
    · rw [if_neg e] at hx
      rw [h.is_ v x hx]
      exact ⟨Or.inl, fun h1 => h1.elim id fun h2 => absurd h2.symm e⟩
  · have hkl := (List.getElem?_eq_some_iff.1 hk).1
    rw [List.length_append, List.length_singleton] at hkl
    by_cases e : k < seen.length
    · rw [List.getElem?_append_left e] at hk
      obtain ⟨i', u', j', b', g1, g2, g3, g4, g5, g6, g7⟩ := h.step k v hk h0
      have hvq : v ≠ q := fun e => hq (e ▸ List.mem_of_getElem? hk)
      refine ⟨i', u', j', b', ?_, g2, g3, g4, g5, ?_, g7⟩
      · rw [List.getElem?_set, if_neg (fun e => hvq e.symm)]; exact g1
      · rw [List.getElem?_append_left (by omega)]; exact g6
    · obtain rfl : k = seen.length := by omega
      rw [List.getElem?_append_right (Nat.le_refl _), Nat.sub_self] at hk
      obtain rfl : q = v := by simpa using hk
      refine ⟨i, u, j, b, ?_, hi, hf, ht, hr, ?_, hjl⟩
      · rw [List.getElem?_set, if_pos rfl, if_pos (by rw [h.len]; exact hqN)]
      · rw [List.getElem?_append_left hjl]; exact hj
/-- All moves of the first p nodes have been looked at. -/
def Clo (l : List Ar) (seen : List Nat) (p : Nat) : Prop := ∀ j u, j < p → seen[j]? = some u → ∀ m q, mvFrom l m = some u → mvTo l m = some q → 0 < mvRoom l m → q ∈ seen
/-- The moves along the first i arcs from a node have been looked at. -/
def Par (l : List Ar) (seen : List Nat) (u i : Nat) : Prop := ∀ m q, m / 2 < i → mvFrom l m = some u → mvTo l m = some q → 0 < mvRoom l m → q ∈ seen
theorem Clo.more {seen' : List Nat} {p : Nat} (h : Clo l seen p) (hp : p ≤ seen.length) (hs : ∀ q, q ∈ seen → q ∈ seen') (hpre : ∀ j, j < seen.length → seen'[j]? = seen[j]?) : Clo l seen' p := fun j u hj hu m q h1 h2 h3 => hs q (h j u hj (by rw [← hpre j (by omega)]; exact hu) m q h1 h2 h3)
theorem Clo.next {p u : Nat} (h : Clo l seen p) (hu : seen[p]? = some u) (hp : Par l seen u l.length) : Clo l seen (p + 1) := fun j v hj hv m q h1 h2 h3 => by
  by_cases e : j < p
  · exact h j v e hv m q h1 h2 h3
  · obtain rfl : j = p := by omega
    rw [hu] at hv
    injection hv with hv
    subst hv
    obtain ⟨a, ha, -⟩ := mv_cases h1 h2
    exact hp m q (List.getElem?_eq_some_iff.1 ha).1 h1 h2 h3
theorem Par.zero (u : Nat) : Par l seen u 0 := fun m q h => absurd h (Nat.not_lt_zero _)
theorem Par.more {seen' : List Nat} {u i : Nat} (h : Par l seen u i) (hs : ∀ q, q ∈ seen → q ∈ seen') : Par l seen' u i := fun m q h0 h1 h2 h3 => hs q (h m q h0 h1 h2 h3)
theorem Par.next {u i : Nat} {a : Ar} (h : Par l seen u i) (ha : l[i]? = some a) (h1 : a.u = u → a.x < a.cap → a.v ∈ seen) (h2 : a.v = u → 0 < a.x → a.u ∈ seen) : Par l seen u (i + 1) := fun m q h0 g1 g2 g3 => by
  by_cases e : m / 2 < i
  · exact h m q e g1 g2 g3
  · have e2 : m / 2 = i := by omega
    obtain ⟨b, hb, hc⟩ := mv_cases g1 g2
    rw [e2, ha] at hb
    injection hb with hb
    subst hb
    rcases hc with ⟨-, c1, c2, c3⟩ | ⟨-, c1, c2, c3⟩
    · rw [c3] at g3; rw [← c2]; exact h1 c1 (by omega)
    · rw [c3] at g3; rw [← c2]; exact h2 c1 g3
theorem Srch.reach (h : Srch l s N B seen) : ∀ (k v : Nat), seen[k]? = some v → Reach l s v := by
  intro k
  induction k using Nat.strongRecOn with
  | ind k ih =>
    intro v hv
    rcases Nat.eq_zero_or_pos k with rfl | h0
    · rw [h.first] at hv
      injection hv with hv
      subst hv
      exact Reach.here
    · obtain ⟨i, u, j, b, -, -, g3, g4, g5, g6, g7⟩ := h.step k v hv h0
      exact reach_move g3 g4 g5 (ih j g7 u g6)
/-- What has been reached when nothing waits any more. -/
theorem Srch.done (h : Srch l s N B seen) (hc : Clo l seen seen.length) (n : Nat) : Reach l s n ↔ n ∈ seen := by
  constructor
  · intro hn
    refine reach_in (S := fun n => n ∈ seen) ?_ (fun m p q h1 h2 h3 hp => ?_) hn
    · exact List.mem_of_getElem? h.first
    · obtain ⟨j, hj⟩ := List.getElem?_of_mem hp
      exact hc j p (List.getElem?_eq_some_iff.1 hj).1 hj m q h1 h2 h3
  · intro hn
    obtain ⟨j, hj⟩ := List.getElem?_of_mem hn
    exact h.reach j n hj
end
end Go.Proofs.Ytglpaihadongkaa

/- DERIVED. The reference's steps in memory (stage 5). -/
namespace Go.Proofs.Ytglpaihadongkaa
open Go.RowKit Go.Shelf
set_option maxRecDepth 100000
set_option linter.unusedSimpArgs false
set_option linter.unusedVariables false

theorem wpList_append_q {w : World} {ops : Array Oper} {rest : List Oper} {o : Oper} {a : Act} {Q : Exit → Act → World → Prop}
    (hg : o.guard = none) (s x : Operand) (hop : o.op = Op.call { callee := Callee.builtin Builtin.append, args := #[s, x], argTypes := #[25, 25] })
    {v : Value} {q : List Int} {K : Nat → Prop} (h : QOwn w v q K) (hs : a.eval s = v) (b : Nat) (y : Int) (hx : a.eval x = .slice (some ⟨b, 0, none⟩) 1 1) (hc : w.cell? ⟨b, 0, none⟩ = some (.int .i64 y)) (hq : q.length ≤ 1000000)
    (hK : ∀ v' w', QOwn w' v' (q ++ [y]) (fun g => v.ownBlock = some g ∨ w.heap.size ≤ g) → Out (fun k => v.ownBlock = some k) w w' → wpList Try.prog ops Q rest (a.put o.dst v') w') :
    wpList Try.prog ops Q (o :: rest) a w := by
  refine wpList_plain hg fun K0 hK' => ?_
  obtain ⟨v', w', hrun, r1, r2⟩ := run_append_q h b y hc o.type hq
  unfold Oper.wp
  simp [execOp, hop, resolve, invoke, builtin, hs, hx, hrun, Result.andThen]
  exact hK' _ _ (hK v' w' r1 r2)
/-- Steps as cells. -/
def cellsT (l : List Stp) : List Value := l.flatMap fun x => [.int .i64 x.arc, .int .i64 x.src, .bool x.back, .bool x.is]
theorem cellsT_len (l : List Stp) : (cellsT l).length = l.length * 4 := by
  induction l with
  | nil => rfl
  | cons q l ih => show (cellsT l).length + 1 + 1 + 1 + 1 = _; rw [ih, List.length_cons]; omega
theorem cellsT_cons (q : Stp) (l : List Stp) : cellsT (q :: l) = .int .i64 q.arc :: .int .i64 q.src :: .bool q.back :: .bool q.is :: cellsT l := rfl
theorem cellsT_get (l : List Stp) : ∀ j x, l[j]? = some x → (cellsT l)[j * 4]? = some (.int .i64 x.arc) ∧ (cellsT l)[j * 4 + 1]? = some (.int .i64 x.src) ∧ (cellsT l)[j * 4 + 2]? = some (.bool x.back) ∧ (cellsT l)[j * 4 + 3]? = some (.bool x.is) := by
  induction l with
  | nil => intro j p h; simp at h
  | cons q l ih =>
    intro j p h
    cases j with
    | zero => simp at h; subst h; exact ⟨rfl, rfl, rfl, rfl⟩
    | succ j =>
      have := ih j p (by simpa using h)
      rw [show (j + 1) * 4 = j * 4 + 1 + 1 + 1 + 1 by omega]
      exact this
theorem cellsT_set (l : List Stp) : ∀ (j : Nat) (x : Stp), cellsT (l.set j x) = ((((cellsT l).set (j * 4) (.int .i64 x.arc)).set (j * 4 + 1) (.int .i64 x.src)).set (j * 4 + 2) (.bool x.back)).set (j * 4 + 3) (.bool x.is) := by
  induction l with
  | nil => intro j x; simp [cellsT]
  | cons q l ih =>
    intro j x
    cases j with
    | zero => rfl
    | succ j =>
      have e : (q :: l).set (j + 1) x = q :: l.set j x := rfl
      rw [e, cellsT_cons, cellsT_cons, ih, show (j + 1) * 4 = j * 4 + 1 + 1 + 1 + 1 by omega]
      rfl
def StpAt (w : World) (g : Nat) (B : List Stp) : Prop := w.heap[g]? = some (.cells (cellsT B).toArray 73 (0, 0))
section
variable {X Y : World} {g : Nat} {B : List Stp}
theorem StpAt.cells (h : StpAt X g B) {j : Nat} {x : Stp} (hj : B[j]? = some x) : X.cell? ⟨g, j * 4, none⟩ = some (.int .i64 x.arc) ∧ X.cell? ⟨g, j * 4 + 1, none⟩ = some (.int .i64 x.src) ∧ X.cell? ⟨g, j * 4 + 2, none⟩ = some (.bool x.back) ∧ X.cell? ⟨g, j * 4 + 3, none⟩ = some (.bool x.is) := by
  obtain ⟨c0, c1, c2, c3⟩ := cellsT_get B j x hj
  exact ⟨cell_of h (by simpa using c0), cell_of h (by simpa using c1), cell_of h (by simpa using c2), cell_of h (by simpa using c3)⟩
theorem StpAt.frz (h : StpAt X g B) (o : Nat) : X.frozen? ⟨g, o, none⟩ = false := by simp [World.frozen?, show X.heap[g]? = _ from h]
theorem StpAt.set (h : StpAt X g B) (j : Nat) (x : Stp) : StpAt ((((X.setCell ⟨g, j * 4, none⟩ (.int .i64 x.arc)).setCell ⟨g, j * 4 + 1, none⟩ (.int .i64 x.src)).setCell ⟨g, j * 4 + 2, none⟩ (.bool x.back)).setCell ⟨g, j * 4 + 3, none⟩ (.bool x.is)) g (B.set j x) := by
  unfold StpAt
  rw [cellsT_set]
  have h1 := row_set3 (i := j * 4) h (.int .i64 x.arc)
  have h2 := row_set3 (i := j * 4 + 1) h1 (.int .i64 x.src)
  have h3 := row_set3 (i := j * 4 + 2) h2 (.bool x.back)
  have h4 := row_set3 (i := j * 4 + 3) h3 (.bool x.is)
  rw [h4]
  simp
end
theorem step_info : (Try.prog.info? 73).map (fun i => (i.zero, i.size, i.bytes)) = some (some (.agg #[.int .i64 0, .int .i64 0, .bool false, .bool false]), 4, 24) := by kernel_rfl
theorem own_block4 {w : World} {base n g : Nat} {T : TypeId} {xs : List Value} (h : w.ownsRow base T 4 (.slice (some ⟨g, 0, none⟩) n n) n xs) : w.heap[g]? = some (.cells xs.toArray T (0, 0)) := by
  obtain ⟨k1, ⟨e, -⟩ | ⟨g', cap', cur, e, k3, k4, k5, k6, k7, k8⟩⟩ := h
  · cases e
  · injection e with e1 _ e2
    injection e1 with e1
    injection e1 with e1
    subst e1 e2
    rw [k4]
    have hl : cur.toList = xs := by rw [← k8, List.take_of_length_le (by simp [k7])]
    rw [← hl]
theorem made_steps (N : Nat) : (madeCells (Value.agg #[.int .i64 0, .int .i64 0, .bool false, .bool false]).cells (N * 4)).toList = cellsT (List.replicate N stp0) := by
  have e : (Value.agg #[.int .i64 0, .int .i64 0, .bool false, .bool false]).cells = #[.int .i64 0, .int .i64 0, .bool false, .bool false] := rfl
  rw [e]
  apply List.ext_getElem?
  intro j
  by_cases hj : j < N * 4
  · obtain ⟨q, r, hr, rfl⟩ : ∃ q r, r < 4 ∧ j = q * 4 + r := ⟨j / 4, j % 4, by omega, by omega⟩
    have hd : (List.replicate N stp0)[q]? = some stp0 := by rw [List.getElem?_replicate, if_pos (by omega)]
    obtain ⟨c0, c1, c2, c3⟩ := cellsT_get _ _ _ hd
    have hl0 : ∀ j, j < N * 4 → (madeCells #[.int .i64 0, .int .i64 0, .bool false, .bool false] (N * 4)).toList[j]? = some ((#[Value.int .i64 0, .int .i64 0, .bool false, .bool false])[j % 4]!) := fun j hj => by
      unfold madeCells
      rw [Array.getElem?_toList, Array.getElem?_map, Array.getElem?_range, if_pos hj]
      rfl
    have hl : (madeCells #[.int .i64 0, .int .i64 0, .bool false, .bool false] (N * 4)).toList[q * 4 + r]? = some ((#[Value.int .i64 0, .int .i64 0, .bool false, .bool false])[r]!) := by
      rw [hl0 _ hj, show (q * 4 + r) % 4 = r by omega]
    rw [hl]
    rcases (by omega : r = 0 ∨ r = 1 ∨ r = 2 ∨ r = 3) with rfl | rfl | rfl | rfl
    · rw [Nat.add_zero, c0]; rfl
    · rw [c1]; rfl
    · rw [c2]; rfl
    · rw [c3]; rfl
  · rw [List.getElem?_eq_none (by simp [madeCells]; omega), List.getElem?_eq_none (by rw [cellsT_len, List.length_replicate]; omega)]
end Go.Proofs.Ytglpaihadongkaa
