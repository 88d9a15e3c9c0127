/-
  PLAIN. Flows and cuts (stage 5): no program is named.
-/
namespace Go.Proofs.Ytglpaihadongkaa

/-- An arc: from, to, what it can carry, what it carries. -/
structure Ar where
  u : Nat
  v : Nat
  cap : Int
  x : Int
/-- What begins at a node, less what ends there. -/
def gain (l : List Ar) (n : Nat) : Int := (l.map fun a => (if a.u = n then a.x else 0) - (if a.v = n then a.x else 0)).sum
/-- What leaves a set of nodes, what enters it, and what may leave it. -/
def outX (l : List Ar) (S : Nat → Bool) : Int := (l.map fun a => if S a.u && !S a.v then a.x else 0).sum
def inX (l : List Ar) (S : Nat → Bool) : Int := (l.map fun a => if !S a.u && S a.v then a.x else 0).sum
def capS (l : List Ar) (S : Nat → Bool) : Int := (l.map fun a => if S a.u && !S a.v then a.cap else 0).sum
/-- Numbers from 0 to what the arcs can carry; as much ends as begins at all nodes below N but s and t. -/
structure IsFlow (N : Nat) (l : List Ar) (s t : Nat) : Prop where
  nodes : ∀ a ∈ l, a.u < N ∧ a.v < N
  fits : ∀ a ∈ l, 0 ≤ a.x ∧ a.x ≤ a.cap
  even : ∀ n, n < N → n ≠ s → n ≠ t → gain l n = 0
def sumTo (f : Nat → Int) : Nat → Int
  | 0 => 0
  | n + 1 => sumTo f n + f n
theorem sumTo_congr {f g : Nat → Int} {N : Nat} (h : ∀ n, n < N → f n = g n) : sumTo f N = sumTo g N := by
  induction N with
  | zero => rfl
  | succ N ih => show sumTo f N + f N = sumTo g N + g N; rw [ih (fun n hn => h n (by omega)), h N (by omega)]
theorem sumTo_add (f g : Nat → Int) (N : Nat) : sumTo (fun n => f n + g n) N = sumTo f N + sumTo g N := by
  induction N with
  | zero => rfl
  | succ N ih => show sumTo _ N + (f N + g N) = (sumTo f N + f N) + (sumTo g N + g N); rw [ih]; omega
theorem sumTo_zero (N : Nat) : sumTo (fun _ => 0) N = 0 := by
  induction N with
  | zero => rfl
  | succ N ih => show sumTo _ N + 0 = 0; rw [ih]; rfl
theorem sumTo_one (x : Int) {m N : Nat} (h : m < N) : sumTo (fun n => if n = m then x else 0) N = x := by
  induction N with
  | zero => omega
  | succ N ih =>
    show sumTo _ N + (if N = m then x else 0) = x
    rcases Nat.lt_or_ge m N with hm | hm
    · rw [ih hm, if_neg (by omega)]; omega
    · obtain rfl : m = N := by omega
      rw [if_pos rfl, sumTo_congr (g := fun _ => 0) (fun n hn => if_neg (by omega)), sumTo_zero]; omega
theorem outX_cons (a : Ar) (l : List Ar) (S : Nat → Bool) : outX (a :: l) S = (if S a.u && !S a.v then a.x else 0) + outX l S := by unfold outX; rw [List.map_cons, List.sum_cons]
theorem inX_cons (a : Ar) (l : List Ar) (S : Nat → Bool) : inX (a :: l) S = (if !S a.u && S a.v then a.x else 0) + inX l S := by unfold inX; rw [List.map_cons, List.sum_cons]
theorem capS_cons (a : Ar) (l : List Ar) (S : Nat → Bool) : capS (a :: l) S = (if S a.u && !S a.v then a.cap else 0) + capS l S := by unfold capS; rw [List.map_cons, List.sum_cons]
theorem gain_cons (a : Ar) (l : List Ar) (n : Nat) : gain (a :: l) n = ((if a.u = n then a.x else 0) - (if a.v = n then a.x else 0)) + gain l n := by unfold gain; rw [List.map_cons, List.sum_cons]
/-- A set's gain is the sum of its nodes' gains. -/
theorem gain_set {N : Nat} (S : Nat → Bool) : ∀ (l : List Ar), (∀ a ∈ l, a.u < N ∧ a.v < N) → sumTo (fun n => if S n then gain l n else 0) N = outX l S - inX l S
  | [], _ => by
    rw [sumTo_congr (g := fun _ => 0) (fun n _ => by simp [gain]), sumTo_zero]; rfl
  | a :: l, h => by
    have ih := gain_set S l (fun b hb => h b (List.mem_cons_of_mem _ hb))
    obtain ⟨h1, h2⟩ := h a (by simp)
    have e : ∀ n, n < N → (if S n then gain (a :: l) n else 0) = ((if n = a.u then (if S a.u then a.x else 0) else 0) + (if n = a.v then (if S a.v then -a.x else 0) else 0)) + (if S n then gain l n else 0) := by
      intro n _
      rw [gain_cons]
      by_cases e1 : a.u = n <;> by_cases e2 : a.v = n <;> by_cases e3 : S n = true
      all_goals (try subst e1) <;> (try subst e2) <;> simp_all <;> omega
    rw [sumTo_congr e, sumTo_add, sumTo_add, sumTo_one _ h1, sumTo_one _ h2, ih]
    rw [outX_cons, inX_cons]
    cases S a.u <;> cases S a.v <;> simp <;> omega
/-- A flow's value is what leaves any set that holds s and not t, less what enters it. -/
theorem IsFlow.across {N : Nat} {l : List Ar} {s t : Nat} (h : IsFlow N l s t) (hs : s < N) {S : Nat → Bool} (h1 : S s = true) (h2 : S t = false) : gain l s = outX l S - inX l S := by
  rw [← gain_set S l h.nodes, sumTo_congr (g := fun n => if n = s then gain l s else 0) (fun n hn => ?_), sumTo_one _ hs]
  by_cases e : n = s
  · subst e; simp [h1]
  · rw [if_neg e]
    by_cases e2 : n = t
    · subst e2; simp [h2]
    · split
      · exact h.even n hn e e2
      · rfl
theorem out_le {l : List Ar} (h : ∀ a ∈ l, 0 ≤ a.x ∧ a.x ≤ a.cap) (S : Nat → Bool) : outX l S ≤ capS l S ∧ 0 ≤ inX l S := by
  induction l with
  | nil => exact ⟨Int.le_refl _, Int.le_refl _⟩
  | cons a l ih =>
    obtain ⟨i1, i2⟩ := ih (fun b hb => h b (List.mem_cons_of_mem _ hb))
    have := h a (by simp)
    rw [outX_cons, inX_cons, capS_cons]
    cases S a.u <;> cases S a.v <;> simp <;> omega
/-- No flow has a greater value than a cut's capacity. -/
theorem IsFlow.le_cut {N : Nat} {l : List Ar} {s t : Nat} (h : IsFlow N l s t) (hs : s < N) {S : Nat → Bool} (h1 : S s = true) (h2 : S t = false) : gain l s ≤ capS l S := by
  have := h.across hs h1 h2
  have := out_le h.fits S
  omega
/-- A set is closed if nothing is left that leaves it. -/
def Shut (l : List Ar) (S : Nat → Bool) : Prop := ∀ a ∈ l, (S a.u = true → S a.v = false → a.x = a.cap) ∧ (S a.u = false → S a.v = true → a.x = 0)
theorem Shut.full {l : List Ar} {S : Nat → Bool} (h : Shut l S) : outX l S = capS l S ∧ inX l S = 0 := by
  induction l with
  | nil => exact ⟨rfl, rfl⟩
  | cons a l ih =>
    obtain ⟨i1, i2⟩ := ih (fun b hb => h b (List.mem_cons_of_mem _ hb))
    obtain ⟨g1, g2⟩ := h a (by simp)
    rw [outX_cons, inX_cons, capS_cons]
    cases e1 : S a.u <;> cases e2 : S a.v <;> simp [e1, e2] at g1 g2 ⊢ <;> omega
theorem IsFlow.shut_cut {N : Nat} {l : List Ar} {s t : Nat} (h : IsFlow N l s t) (hs : s < N) {S : Nat → Bool} (h1 : S s = true) (h2 : S t = false) (hc : Shut l S) : gain l s = capS l S := by
  have := h.across hs h1 h2
  obtain ⟨g1, g2⟩ := hc.full
  omega
/-- Where a flow's value is a cut's capacity, the cut is closed. -/
theorem shut_of {l : List Ar} (h : ∀ a ∈ l, 0 ≤ a.x ∧ a.x ≤ a.cap) {S : Nat → Bool} (he : capS l S ≤ outX l S - inX l S) : Shut l S := by
  induction l with
  | nil => intro a ha; cases ha
  | cons a l ih =>
    have hl := fun b hb => h b (List.mem_cons_of_mem a hb)
    obtain ⟨i1, i2⟩ := out_le hl S
    have ha := h a (by simp)
    rw [outX_cons, inX_cons, capS_cons] at he
    intro b hb
    rcases List.mem_cons.1 hb with rfl | hb
    · cases e1 : S b.u <;> cases e2 : S b.v <;> simp [e1, e2] at he ⊢ <;> omega
    · refine ih hl ?_ b hb
      cases e1 : S a.u <;> cases e2 : S a.v <;> simp [e1, e2] at he ⊢ <;> omega
/-- What can be reached in what a flow leaves. -/
inductive Reach (l : List Ar) (s : Nat) : Nat → Prop
  | here : Reach l s s
  | along {a : Ar} : a ∈ l → Reach l s a.u → a.x < a.cap → Reach l s a.v
  | back {a : Ar} : a ∈ l → Reach l s a.v → 0 < a.x → Reach l s a.u
theorem Reach.mem {l : List Ar} {s : Nat} {S : Nat → Bool} (hc : Shut l S) (h1 : S s = true) {n : Nat} (h : Reach l s n) : S n = true := by
  induction h with
  | here => exact h1
  | along ha _ hx ih =>
    have := (hc _ ha).1 ih
    rcases e : S _ with _ | _
    · have := this e; omega
    · rfl
  | back ha _ hx ih =>
    have := (hc _ ha).2
    rcases e : S _ with _ | _
    · have := this e ih; omega
    · rfl
theorem reach_shut {l : List Ar} {s : Nat} (hf : ∀ a ∈ l, 0 ≤ a.x ∧ a.x ≤ a.cap) {S : Nat → Bool} (hS : ∀ n, S n = true ↔ Reach l s n) : Shut l S := by
  intro a ha
  refine ⟨fun h1 h2 => ?_, fun h1 h2 => ?_⟩
  · rcases Int.lt_or_le a.x a.cap with hx | hx
    · have := (hS _).2 (Reach.along ha ((hS _).1 h1) hx)
      rw [h2] at this; cases this
    · have := hf a ha; omega
  · rcases Int.lt_or_le 0 a.x with hx | hx
    · have := (hS _).2 (Reach.back ha ((hS _).1 h2) hx)
      rw [h1] at this; cases this
    · have := hf a ha; omega
/-- A flow that leaves no way to t: its value is the capacity of what can be reached; each cut's capacity is no less; a cut of the same capacity holds all that can be reached. -/
theorem IsFlow.greatest {N : Nat} {l : List Ar} {s t : Nat} (h : IsFlow N l s t) (hs : s < N) {R : Nat → Bool} (hR : ∀ n, R n = true ↔ Reach l s n) (ht : R t = false) :
    gain l s = capS l R ∧ (∀ S : Nat → Bool, S s = true → S t = false → capS l R ≤ capS l S) ∧ ∀ S : Nat → Bool, S s = true → S t = false → capS l S = capS l R → ∀ n, R n = true → S n = true := by
  have h1 : R s = true := (hR s).2 Reach.here
  have e := h.shut_cut hs h1 ht (reach_shut h.fits hR)
  refine ⟨e, fun S g1 g2 => by have := h.le_cut hs g1 g2; omega, fun S g1 g2 g3 n hn => ?_⟩
  have hx := h.across hs g1 g2
  exact Reach.mem (shut_of h.fits (by omega)) g1 ((hR n).1 hn)
/-- A greatest flow: none of the same arcs has a greater value. -/
theorem IsFlow.most {N : Nat} {l m : List Ar} {s t : Nat} (h : IsFlow N l s t) (hs : s < N) {R : Nat → Bool} (hR : ∀ n, R n = true ↔ Reach l s n) (ht : R t = false) (k : IsFlow N m s t) (he : l.map (fun a => (a.u, a.v, a.cap)) = m.map (fun a => (a.u, a.v, a.cap))) : gain m s ≤ gain l s := by
  have h1 : R s = true := (hR s).2 Reach.here
  have e := (h.greatest hs hR ht).1
  have e2 := k.le_cut hs h1 ht
  have e3 : ∀ l : List Ar, capS l R = ((l.map (fun a => (a.u, a.v, a.cap))).map fun p => if R p.1 && !R p.2.1 then p.2.2 else 0).sum := fun l => by
    unfold capS; rw [List.map_map]; rfl
  rw [e3] at e2
  rw [e3, he] at e
  omega
end Go.Proofs.Ytglpaihadongkaa
