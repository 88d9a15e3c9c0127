/-
  PLAIN. The reference's search: which nodes are reached, and by which step (stage 5): no program is named.
-/
import Derived.Test.YtglpaihadongkaaAI
namespace Go.Proofs.Ytglpaihadongkaa
set_option linter.unusedSimpArgs false
set_option linter.unusedVariables false

/-- A step: by which arc, from which node, whether against the arc, and whether it is there. -/
structure Stp where
  arc : Int
  src : Int
  back : Bool
  is : Bool
def stp0 : Stp := ⟨0, 0, false, false⟩
def mvOf (i : Nat) (b : Bool) : Nat := 2 * i + (if b = true then 1 else 0)
theorem mvOf_div (i : Nat) (b : Bool) : mvOf i b / 2 = i := by unfold mvOf; cases b <;> simp <;> omega
theorem mvOf_mod (i : Nat) (b : Bool) : mvOf i b % 2 = if b = true then 1 else 0 := by unfold mvOf; cases b <;> simp <;> omega
theorem mv_along {l : List Ar} {i : Nat} {a : Ar} (h : l[i]? = some a) : mvFrom l (mvOf i false) = some a.u ∧ mvTo l (mvOf i false) = some a.v ∧ mvRoom l (mvOf i false) = a.cap - a.x := by
  unfold mvFrom mvTo mvRoom
  rw [mvOf_div, mvOf_mod, h]
  simp
theorem mv_back {l : List Ar} {i : Nat} {a : Ar} (h : l[i]? = some a) : mvFrom l (mvOf i true) = some a.v ∧ mvTo l (mvOf i true) = some a.u ∧ mvRoom l (mvOf i true) = a.x := by
  unfold mvFrom mvTo mvRoom
  rw [mvOf_div, mvOf_mod, h]
  simp
theorem mv_cases {l : List Ar} {m p q : Nat} (h1 : mvFrom l m = some p) (h2 : mvTo l m = some q) : ∃ a, l[m / 2]? = some a ∧ ((m = mvOf (m / 2) false ∧ a.u = p ∧ a.v = q ∧ mvRoom l m = a.cap - a.x) ∨ (m = mvOf (m / 2) true ∧ a.v = p ∧ a.u = q ∧ mvRoom l m = a.x)) := by
  unfold mvFrom at h1
  unfold mvTo at h2
  unfold mvRoom
  rcases ha : l[m / 2]? with _ | a
  · rw [ha] at h1; cases h1
  · rw [ha] at h1 h2
    refine ⟨a, rfl, ?_⟩
    rcases Nat.mod_two_eq_zero_or_one m with e | e
    · simp [e] at h1 h2
      refine .inl ⟨?_, h1, h2, by simp [e]⟩
      show m = 2 * (m / 2) + (if false = true then 1 else 0)
      simp; omega
    · simp [e] at h1 h2
      refine .inr ⟨?_, h1, h2, by simp [e]⟩
      show m = 2 * (m / 2) + (if true = true then 1 else 0)
      simp; omega
/-- A search under way: the steps so far, and the nodes in the order in which they were reached. -/
structure Srch (l : List Ar) (s N : Nat) (B : List Stp) (seen : List Nat) : Prop where
  len : B.length = N
  nodup : seen.Nodup
  lt : ∀ v ∈ seen, v < N
  first : seen[0]? = some s
  is_ : ∀ v x, B[v]? = some x → (x.is = true ↔ v ∈ seen)
  step : ∀ k v, seen[k]? = some v → 0 < k → ∃ (i u j : Nat) (b : Bool), B[v]? = some ⟨(i : Int), (u : Int), b, true⟩ ∧ i < l.length ∧ mvFrom l (mvOf i b) = some u ∧ mvTo l (mvOf i b) = some v ∧ 0 < mvRoom l (mvOf i b) ∧ seen[j]? = some u ∧ j < k
section
variable {l : List Ar} {s N : Nat} {B : List Stp} {seen : List Nat}
theorem Srch.bound (h : Srch l s N B seen) : seen.length ≤ N := nodup_le N seen h.nodup h.lt
theorem Srch.start (hs : s < N) : Srch l s N ((List.replicate N stp0).set s ⟨-1, (s : Int), false, true⟩) [s] := by
  refine ⟨by simp, by simp, fun v hv => ?_, rfl, fun v x hx => ?_, fun k v hk h0 => ?_⟩
  · rw [List.mem_singleton] at hv; omega
  · rw [List.getElem?_set] at hx
    rw [List.mem_singleton]
    by_cases e : s = v
    · subst e
      rw [if_pos rfl, if_pos (by simpa using hs)] at hx
      injection hx with hx
      subst hx
      simp
    · rw [if_neg e] at hx
      have hv : v < N := by have := (List.getElem?_eq_some_iff.1 hx).1; simpa using this
      rw [List.getElem?_replicate, if_pos hv] at hx
      injection hx with hx
      subst hx
      simp [stp0]
      exact fun e2 => e e2.symm
  · have := (List.getElem?_eq_some_iff.1 hk).1
    simp at this
    omega
theorem Srch.visit (h : Srch l s N B seen) {i u j q : Nat} {b : Bool} (hi : i < l.length) (hf : mvFrom l (mvOf i b) = some u) (ht : mvTo l (mvOf i b) = some q) (hr : 0 < mvRoom l (mvOf i b)) (hj : seen[j]? = some u) (hq : q ∉ seen) (hqN : q < N) :
    Srch l s N (B.set q ⟨(i : Int), (u : Int), b, true⟩) (seen ++ [q]) := by
  have hjl := (List.getElem?_eq_some_iff.1 hj).1
  refine ⟨by rw [List.length_set]; exact h.len, ?_, fun v hv => ?_, ?_, fun v x hx => ?_, fun k v hk h0 => ?_⟩
  · rw [List.nodup_append]
    refine ⟨h.nodup, by simp, fun a ha b hb => ?_⟩
    rw [List.mem_singleton] at hb
    subst hb
    exact fun e => hq (e ▸ ha)
  · rcases List.mem_append.1 hv with h1 | h1
    · exact h.lt v h1
    · rw [List.mem_singleton] at h1; omega
  · rw [List.getElem?_append_left (by omega)]; exact h.first
  · rw [List.getElem?_set] at hx
    rw [List.mem_append, List.mem_singleton]
    by_cases e : q = v
    · subst e
      rw [if_pos rfl, if_pos (by rw [h.len]; exact hqN)] at hx
      injection hx with hx
      subst hx
      simp
    · rw [if_neg e] at hx
      rw [h.is_ v x hx]
      exact ⟨Or.inl, fun h1 => h1.elim id fun h2 => absurd h2.symm e⟩
  · have hkl := (List.getElem?_eq_some_iff.1 hk).1
    rw [List.length_append, List.length_singleton] at hkl
    by_cases e : k < seen.length
    · rw [List.getElem?_append_left e] at hk
      obtain ⟨i', u', j', b', g1, g2, g3, g4, g5, g6, g7⟩ := h.step k v hk h0
      have hvq : v ≠ q := fun e => hq (e ▸ List.mem_of_getElem? hk)
      refine ⟨i', u', j', b', ?_, g2, g3, g4, g5, ?_, g7⟩
      · rw [List.getElem?_set, if_neg (fun e => hvq e.symm)]; exact g1
      · rw [List.getElem?_append_left (by omega)]; exact g6
    · obtain rfl : k = seen.length := by omega
      rw [List.getElem?_append_right (Nat.le_refl _), Nat.sub_self] at hk
      obtain rfl : q = v := by simpa using hk
      refine ⟨i, u, j, b, ?_, hi, hf, ht, hr, ?_, hjl⟩
      · rw [List.getElem?_set, if_pos rfl, if_pos (by rw [h.len]; exact hqN)]
      · rw [List.getElem?_append_left hjl]; exact hj
/-- All moves of the first p nodes have been looked at. -/
def Clo (l : List Ar) (seen : List Nat) (p : Nat) : Prop := ∀ j u, j < p → seen[j]? = some u → ∀ m q, mvFrom l m = some u → mvTo l m = some q → 0 < mvRoom l m → q ∈ seen
/-- The moves along the first i arcs from a node have been looked at. -/
def Par (l : List Ar) (seen : List Nat) (u i : Nat) : Prop := ∀ m q, m / 2 < i → mvFrom l m = some u → mvTo l m = some q → 0 < mvRoom l m → q ∈ seen
theorem Clo.more {seen' : List Nat} {p : Nat} (h : Clo l seen p) (hp : p ≤ seen.length) (hs : ∀ q, q ∈ seen → q ∈ seen') (hpre : ∀ j, j < seen.length → seen'[j]? = seen[j]?) : Clo l seen' p := fun j u hj hu m q h1 h2 h3 => hs q (h j u hj (by rw [← hpre j (by omega)]; exact hu) m q h1 h2 h3)
theorem Clo.next {p u : Nat} (h : Clo l seen p) (hu : seen[p]? = some u) (hp : Par l seen u l.length) : Clo l seen (p + 1) := fun j v hj hv m q h1 h2 h3 => by
  by_cases e : j < p
  · exact h j v e hv m q h1 h2 h3
  · obtain rfl : j = p := by omega
    rw [hu] at hv
    injection hv with hv
    subst hv
    obtain ⟨a, ha, -⟩ := mv_cases h1 h2
    exact hp m q (List.getElem?_eq_some_iff.1 ha).1 h1 h2 h3
theorem Par.zero (u : Nat) : Par l seen u 0 := fun m q h => absurd h (Nat.not_lt_zero _)
theorem Par.more {seen' : List Nat} {u i : Nat} (h : Par l seen u i) (hs : ∀ q, q ∈ seen → q ∈ seen') : Par l seen' u i := fun m q h0 h1 h2 h3 => hs q (h m q h0 h1 h2 h3)
theorem Par.next {u i : Nat} {a : Ar} (h : Par l seen u i) (ha : l[i]? = some a) (h1 : a.u = u → a.x < a.cap → a.v ∈ seen) (h2 : a.v = u → 0 < a.x → a.u ∈ seen) : Par l seen u (i + 1) := fun m q h0 g1 g2 g3 => by
  by_cases e : m / 2 < i
  · exact h m q e g1 g2 g3
  · have e2 : m / 2 = i := by omega
    obtain ⟨b, hb, hc⟩ := mv_cases g1 g2
    rw [e2, ha] at hb
    injection hb with hb
    subst hb
    rcases hc with ⟨-, c1, c2, c3⟩ | ⟨-, c1, c2, c3⟩
    · rw [c3] at g3; rw [← c2]; exact h1 c1 (by omega)
    · rw [c3] at g3; rw [← c2]; exact h2 c1 g3
theorem Srch.reach (h : Srch l s N B seen) : ∀ (k v : Nat), seen[k]? = some v → Reach l s v := by
  intro k
  induction k using Nat.strongRecOn with
  | ind k ih =>
    intro v hv
    rcases Nat.eq_zero_or_pos k with rfl | h0
    · rw [h.first] at hv
      injection hv with hv
      subst hv
      exact Reach.here
    · obtain ⟨i, u, j, b, -, -, g3, g4, g5, g6, g7⟩ := h.step k v hv h0
      exact reach_move g3 g4 g5 (ih j g7 u g6)
/-- What has been reached when nothing waits any more. -/
theorem Srch.done (h : Srch l s N B seen) (hc : Clo l seen seen.length) (n : Nat) : Reach l s n ↔ n ∈ seen := by
  constructor
  · intro hn
    refine reach_in (S := fun n => n ∈ seen) ?_ (fun m p q h1 h2 h3 hp => ?_) hn
    · exact List.mem_of_getElem? h.first
    · obtain ⟨j, hj⟩ := List.getElem?_of_mem hp
      exact hc j p (List.getElem?_eq_some_iff.1 hj).1 hj m q h1 h2 h3
  · intro hn
    obtain ⟨j, hj⟩ := List.getElem?_of_mem hn
    exact h.reach j n hj
end
end Go.Proofs.Ytglpaihadongkaa
