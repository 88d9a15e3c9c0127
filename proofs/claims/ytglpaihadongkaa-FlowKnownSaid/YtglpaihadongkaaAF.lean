/-
  PLAIN. Searches, while they go on (stage 5): no program is named.
-/
import Derived.Test.YtglpaihadongkaaAE
namespace Go.Proofs.Ytglpaihadongkaa

/-- Distances, while they are being found: each node that has one is done or waits. -/
structure Bfs (l : List Ar) (s : Nat) (far : Nat → Int) (done : Nat → Prop) : Prop where
  low : ∀ n, -1 ≤ far n
  zero : ∀ n, far n = 0 ↔ n = s
  from_ : ∀ n, 0 < far n → ∃ m p, mvFrom l m = some p ∧ mvTo l m = some n ∧ 0 < mvRoom l m ∧ far n = far p + 1
  on : ∀ m p q, mvFrom l m = some p → mvTo l m = some q → 0 < mvRoom l m → done p → 0 ≤ far q
theorem Bfs.start (l : List Ar) (s : Nat) : Bfs l s (fun n => if n = s then 0 else -1) fun _ => False :=
  ⟨fun n => by by_cases e : n = s <;> simp [e], fun n => by by_cases e : n = s <;> simp [e], fun n h => by by_cases e : n = s <;> simp [e] at h, fun _ _ _ _ _ _ h => h.elim⟩
/-- A node is found by a move from one that has a distance. -/
theorem Bfs.visit {l : List Ar} {s m p q : Nat} {far : Nat → Int} {done : Nat → Prop} (h : Bfs l s far done) (h1 : mvFrom l m = some p) (h2 : mvTo l m = some q) (hr : 0 < mvRoom l m) (hp : 0 ≤ far p) (hq : far q = -1) :
    Bfs l s (fun n => if n = q then far p + 1 else far n) done := by
  have hpq : p ≠ q := fun e => by subst e; omega
  have hsq : s ≠ q := fun e => by subst e; have := (h.zero s).2 rfl; omega
  refine ⟨fun n => ?_, fun n => ?_, fun n hn => ?_, fun m' p' q' g1 g2 g3 g4 => ?_⟩
  · have := h.low n
    show -1 ≤ if n = q then far p + 1 else far n
    split <;> omega
  · show (if n = q then far p + 1 else far n) = 0 ↔ n = s
    by_cases e : n = q
    · subst e
      rw [if_pos rfl]
      exact ⟨fun h => by omega, fun h => absurd h.symm hsq⟩
    · rw [if_neg e]; exact h.zero n
  · show ∃ m p', _ ∧ _ ∧ _ ∧ (if n = q then far p + 1 else far n) = (if p' = q then far p + 1 else far p') + 1
    by_cases e : n = q
    · subst e
      exact ⟨m, p, h1, h2, hr, by rw [if_pos rfl, if_neg hpq]⟩
    · have hn' : 0 < far n := by simpa [e] using hn
      obtain ⟨m', p', g1, g2, g3, g4⟩ := h.from_ n hn'
      refine ⟨m', p', g1, g2, g3, ?_⟩
      have : p' ≠ q := fun e' => by subst e'; omega
      rw [if_neg e, if_neg this, g4]
  · have := h.on m' p' q' g1 g2 g3 g4
    show 0 ≤ if q' = q then far p + 1 else far q'
    split <;> omega
/-- All moves of a node have been looked at. -/
theorem Bfs.finish {l : List Ar} {s p : Nat} {far : Nat → Int} {done : Nat → Prop} (h : Bfs l s far done) (hp : ∀ m q, mvFrom l m = some p → mvTo l m = some q → 0 < mvRoom l m → 0 ≤ far q) : Bfs l s far fun n => done n ∨ n = p :=
  ⟨h.low, h.zero, h.from_, fun m p' q g1 g2 g3 g4 => by
    rcases g4 with g4 | rfl
    · exact h.on m p' q g1 g2 g3 g4
    · exact hp m q g1 g2 g3⟩
theorem Bfs.far {l : List Ar} {s : Nat} {far : Nat → Int} {done : Nat → Prop} (h : Bfs l s far done) (hd : ∀ n, 0 ≤ far n → done n) : IsFar l s far :=
  ⟨h.low, h.zero, h.from_, fun m p q g1 g2 g3 g4 => h.on m p q g1 g2 g3 (hd p g4)⟩
/-- The reference's steps: each node but s that was reached has a move from one that was reached before it. -/
structure Steps (l : List Ar) (s : Nat) (is : Nat → Prop) (by_ : Nat → Nat) (rank : Nat → Nat) : Prop where
  here : is s
  step : ∀ v, is v → v ≠ s → ∃ u, mvFrom l (by_ v) = some u ∧ mvTo l (by_ v) = some v ∧ 0 < mvRoom l (by_ v) ∧ is u ∧ rank u < rank v
/-- The way back from a node: its moves have room and are of different arcs. -/
theorem Steps.chain {l : List Ar} {s : Nat} {is : Nat → Prop} {by_ rank : Nat → Nat} (h : Steps l s is by_ rank) : ∀ (k : Nat) (v : Nat), rank v ≤ k → is v →
    ∃ ms : List Nat, Chain l s v ms ∧ (∀ m ∈ ms, 0 < mvRoom l m ∧ ∃ w, m = by_ w ∧ is w ∧ w ≠ s ∧ rank w ≤ rank v) ∧ (ms.map (· / 2)).Nodup := by
  intro k
  induction k with
  | zero =>
    intro v hk hv
    by_cases e : v = s
    · exact ⟨[], e, fun m hm => (by cases hm), List.nodup_nil⟩
    · obtain ⟨u, -, -, -, -, g⟩ := h.step v hv e
      omega
  | succ k ih =>
    intro v hk hv
    by_cases e : v = s
    · exact ⟨[], e, fun m hm => (by cases hm), List.nodup_nil⟩
    · obtain ⟨u, g1, g2, g3, g4, g5⟩ := h.step v hv e
      obtain ⟨ms, c1, c2, c3⟩ := ih u (by omega) g4
      refine ⟨by_ v :: ms, ⟨g2, u, g1, c1⟩, fun m hm => ?_, ?_⟩
      · rcases List.mem_cons.1 hm with rfl | hm
        · exact ⟨g3, v, rfl, hv, e, Nat.le_refl _⟩
        · obtain ⟨d1, w, d2, d3, d4, d5⟩ := c2 m hm
          exact ⟨d1, w, d2, d3, d4, by omega⟩
      · rw [List.map_cons, List.nodup_cons]
        refine ⟨fun hm => ?_, c3⟩
        obtain ⟨m, hm, em⟩ := List.mem_map.1 hm
        obtain ⟨d1, w, rfl, d3, d4, d5⟩ := c2 m hm
        obtain ⟨x, f1, f2, f3, f4, f5⟩ := h.step w d3 d4
        have em' : by_ w / 2 = by_ v / 2 := em
        have hcase : by_ w = by_ v ∨ by_ w % 2 ≠ by_ v % 2 := by omega
        rcases hcase with hc | hc
        · rw [hc, g2] at f2
          injection f2 with f2
          subst f2
          omega
        · unfold mvFrom mvTo at *
          rw [em'] at f1 f2
          rcases ha : l[by_ v / 2]? with _ | a
          · rw [ha] at g1; cases g1
          · rw [ha] at g1 g2 f1 f2
            have p1 : by_ v % 2 = 0 ∨ by_ v % 2 = 1 := by omega
            have p2 : by_ w % 2 = 0 ∨ by_ w % 2 = 1 := by omega
            rcases p1 with p1 | p1 <;> rcases p2 with p2 | p2
            · omega
            · simp [p1, p2] at g1 g2 f1 f2
              subst g1 g2
              subst f1
              omega
            · simp [p1, p2] at g1 g2 f1 f2
              subst g1 g2
              subst f1
              omega
            · omega
end Go.Proofs.Ytglpaihadongkaa
