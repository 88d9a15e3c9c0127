/-
  PLAIN. The greatest value of a net, and what belongs to it (stage 5): no program is named.
-/
import Derived.Test.YtglpaihadongkaaAB
namespace Go.Proofs.Ytglpaihadongkaa

/-- What can be reached, as a set. -/
noncomputable def reachB (l : List Ar) (s : Nat) (n : Nat) : Bool := @decide (Reach l s n) (Classical.propDecidable _)
theorem reachB_iff (l : List Ar) (s n : Nat) : reachB l s n = true ↔ Reach l s n := by unfold reachB; exact @decide_eq_true_iff _ (Classical.propDecidable _)
theorem reachB_no {l : List Ar} {s t : Nat} (h : ¬ Reach l s t) : reachB l s t = false := by
  rcases e : reachB l s t with _ | _
  · rfl
  · exact absurd ((reachB_iff l s t).1 e) h
/-- A flow of a net (its ends and capacities: e) that leaves no way to t; its value is v. -/
structure Gr (N : Nat) (e : List (Nat × Nat × Int)) (s t : Nat) (l : List Ar) (v : Int) : Prop where
  net : ends l = e
  flow : IsFlow N l s t
  val : gain l s = v
  done : ¬ Reach l s t
section
variable {N s t : Nat} {e : List (Nat × Nat × Int)} {l m : List Ar} {v w : Int}
theorem Gr.cut (h : Gr N e s t l v) (hs : s < N) : v = capS l (reachB l s) ∧ (∀ S : Nat → Bool, S s = true → S t = false → v ≤ capS l S) ∧ ∀ S : Nat → Bool, S s = true → S t = false → capS l S = v → ∀ n, Reach l s n → S n = true := by
  obtain ⟨g1, g2, g3⟩ := h.flow.greatest hs (reachB_iff l s) (reachB_no h.done)
  rw [h.val] at g1
  exact ⟨g1, fun S a b => by have := g2 S a b; omega, fun S a b c n hn => g3 S a b (by omega) n ((reachB_iff l s n).2 hn)⟩
/-- No flow of the net has a greater value. -/
theorem Gr.le (h : Gr N e s t l v) (hs : s < N) (k : IsFlow N m s t) (he : ends m = e) : gain m s ≤ v := by
  obtain ⟨g1, -, -⟩ := h.cut hs
  have h2 := k.le_cut (S := reachB l s) hs ((reachB_iff l s s).2 Reach.here) (reachB_no h.done)
  rw [capS_ends (he.trans h.net.symm)] at h2
  omega
/-- The greatest value is one, and what can be reached is the same for each greatest flow. -/
theorem Gr.uniq (h : Gr N e s t l v) (k : Gr N e s t m w) (hs : s < N) : v = w ∧ ∀ n, Reach l s n ↔ Reach m s n := by
  have h1 := h.le hs k.flow k.net
  have h2 := k.le hs h.flow h.net
  rw [k.val] at h1
  rw [h.val] at h2
  have hv : v = w := by omega
  have c1 := h.cut hs
  have c2 := k.cut hs
  have ee : ∀ S, capS l S = capS m S := capS_ends (h.net.trans k.net.symm)
  refine ⟨hv, fun n => ⟨fun hn => ?_, fun hn => ?_⟩⟩
  · exact (reachB_iff m s n).1 (c1.2.2 (reachB m s) ((reachB_iff m s s).2 Reach.here) (reachB_no k.done) (by rw [ee]; omega) n hn)
  · exact (reachB_iff l s n).1 (c2.2.2 (reachB l s) ((reachB_iff l s s).2 Reach.here) (reachB_no h.done) (by rw [← ee]; omega) n hn)
/-- A greatest flow is there if a flow is, and a set that holds s and not t has its value as its capacity. -/
theorem Gr.of_cut (k : IsFlow N l s t) (he : ends l = e) (hs : s < N) {S : Nat → Bool} (h1 : S s = true) (h2 : S t = false) (h3 : capS l S ≤ gain l s) : Gr N e s t l (gain l s) := by
  refine ⟨he, k, rfl, fun hr => ?_⟩
  have hx := k.across hs h1 h2
  have := Reach.mem (shut_of k.fits (by omega)) h1 hr
  rw [h2] at this; cases this
end
/-- An arc's capacity is lowered to what it carries, or raised: the sums of cuts. -/
def setCap (l : List Ar) (i : Nat) (c : Int) : List Ar := l.modify i fun a => { a with cap := c }
theorem setCap_get {l : List Ar} {i : Nat} {c : Int} (j : Nat) : (setCap l i c)[j]? = if i = j then (l[j]?).map (fun a => { a with cap := c }) else l[j]? := by
  unfold setCap
  rw [List.getElem?_modify]
  by_cases h : i = j
  · simp only [if_pos h]; cases l[j]? <;> rfl
  · simp only [if_neg h]; cases l[j]? <;> rfl
theorem setCap_gain (c : Int) : ∀ (l : List Ar) (i n : Nat), gain (setCap l i c) n = gain l n
  | [], _, _ => by simp [setCap]
  | a :: l, 0, n => by
    show gain ({ a with cap := c } :: l) n = _
    rw [gain_cons, gain_cons]
  | a :: l, i + 1, n => by
    show gain (a :: setCap l i c) n = _
    rw [gain_cons, gain_cons, setCap_gain c l i n]
theorem setCap_mem {l : List Ar} {i : Nat} {c : Int} {b : Ar} (hb : b ∈ setCap l i c) : b ∈ l ∨ ∃ a, l[i]? = some a ∧ b = { a with cap := c } := by
  obtain ⟨j, hj⟩ := List.getElem?_of_mem hb
  rw [setCap_get] at hj
  by_cases e : i = j
  · subst e
    rw [if_pos rfl] at hj
    obtain ⟨a, ha, rfl⟩ := Option.map_eq_some_iff.1 hj
    exact .inr ⟨a, ha, rfl⟩
  · rw [if_neg e] at hj
    exact .inl (List.mem_of_getElem? hj)
theorem setCap_flow {N s t : Nat} {l : List Ar} (h : IsFlow N l s t) {i : Nat} {c : Int} (hc : ∀ a, l[i]? = some a → a.x ≤ c) : IsFlow N (setCap l i c) s t := by
  refine ⟨fun b hb => ?_, fun b hb => ?_, fun n hn h1 h2 => ?_⟩
  · rcases setCap_mem hb with hb | ⟨a, ha, rfl⟩
    · exact h.nodes b hb
    · exact h.nodes a (List.mem_of_getElem? ha)
  · rcases setCap_mem hb with hb | ⟨a, ha, rfl⟩
    · exact h.fits b hb
    · exact ⟨(h.fits a (List.mem_of_getElem? ha)).1, hc a ha⟩
  · rw [setCap_gain]; exact h.even n hn h1 h2
theorem setCap_cut {c : Int} (S : Nat → Bool) : ∀ {l : List Ar} {i : Nat} {a : Ar}, l[i]? = some a → capS (setCap l i c) S = capS l S + (if S a.u && !S a.v then c - a.cap else 0)
  | [], i, a, h => by simp at h
  | b :: l, 0, a, h => by
    obtain rfl : b = a := by simpa using h
    show capS ({ b with cap := c } :: l) S = _
    rw [capS_cons, capS_cons]
    cases S b.u <;> cases S b.v <;> simp <;> omega
  | b :: l, i + 1, a, h => by
    show capS (b :: setCap l i c) S = _
    rw [capS_cons, capS_cons, setCap_cut S (l := l) (i := i) (a := a) (by simpa using h)]; omega
/-- An arc that carries nothing can be left without its capacity: the same flow is a greatest one. -/
theorem Gr.idle {N s t : Nat} {e : List (Nat × Nat × Int)} {l : List Ar} {v : Int} (h : Gr N e s t l v) (hs : s < N) {i : Nat} {a : Ar} (ha : l[i]? = some a) (hx : a.x = 0) : Gr N (ends (setCap l i 0)) s t (setCap l i 0) v := by
  have hf : IsFlow N (setCap l i 0) s t := setCap_flow h.flow (fun b hb => by rw [ha] at hb; injection hb with hb; subst hb; omega)
  have hv : gain (setCap l i 0) s = v := by rw [setCap_gain]; exact h.val
  obtain ⟨g1, -, -⟩ := h.cut hs
  have hcap := (h.flow.fits a (List.mem_of_getElem? ha))
  have := Gr.of_cut hf rfl hs (S := reachB l s) ((reachB_iff l s s).2 Reach.here) (reachB_no h.done) (by rw [setCap_cut _ ha, hv]; split <;> omega)
  rw [hv] at this
  exact this
/-- A capacity that is greater by k makes the greatest value greater by at most k, and not less. -/
theorem Gr.more {N s t : Nat} {e e' : List (Nat × Nat × Int)} {l m : List Ar} {v w k : Int} (h : Gr N e s t l v) (hs : s < N) {i : Nat} {a : Ar} (ha : l[i]? = some a) (hk : 0 ≤ k) (he : e' = ends (setCap l i (a.cap + k))) (h' : Gr N e' s t m w) : v ≤ w ∧ w ≤ v + k := by
  have hf : IsFlow N (setCap l i (a.cap + k)) s t := setCap_flow h.flow (fun b hb => by rw [ha] at hb; injection hb with hb; subst hb; have := h.flow.fits a (List.mem_of_getElem? ha); omega)
  have h1 := h'.le hs hf he.symm
  rw [setCap_gain, h.val] at h1
  refine ⟨h1, ?_⟩
  obtain ⟨-, g2, -⟩ := h'.cut hs
  have h2 := g2 (reachB l s) ((reachB_iff l s s).2 Reach.here) (reachB_no h.done)
  rw [capS_ends (h'.net.trans he), setCap_cut _ ha] at h2
  obtain ⟨g1, -, -⟩ := h.cut hs
  split at h2 <;> omega
/-- An arc without capacity may be left out. -/
theorem gain_erase : ∀ {l : List Ar} {i : Nat} {a : Ar}, l[i]? = some a → a.x = 0 → ∀ n, gain (l.eraseIdx i) n = gain l n
  | [], i, a, h, _ => by simp at h
  | b :: l, 0, a, h, hx => fun n => by
    obtain rfl : b = a := by simpa using h
    show gain l n = _
    rw [gain_cons, hx]; simp
  | b :: l, i + 1, a, h, hx => fun n => by
    show gain (b :: l.eraseIdx i) n = _
    rw [gain_cons, gain_cons, gain_erase (l := l) (i := i) (a := a) (by simpa using h) hx n]
theorem capS_erase (S : Nat → Bool) : ∀ {l : List Ar} {i : Nat} {a : Ar}, l[i]? = some a → a.cap = 0 → capS (l.eraseIdx i) S = capS l S
  | [], i, a, h, _ => by simp at h
  | b :: l, 0, a, h, hx => by
    obtain rfl : b = a := by simpa using h
    show capS l S = _
    rw [capS_cons, hx]; simp
  | b :: l, i + 1, a, h, hx => by
    show capS (b :: l.eraseIdx i) S = _
    rw [capS_cons, capS_cons, capS_erase S (l := l) (i := i) (a := a) (by simpa using h) hx]
theorem ends_erase (l : List Ar) (i : Nat) : ends (l.eraseIdx i) = (ends l).eraseIdx i := by
  induction l generalizing i with
  | nil => rfl
  | cons a l ih =>
    cases i with
    | zero => rfl
    | succ i => exact congrArg (_ :: ·) (ih i)
theorem Gr.erase {N s t : Nat} {e : List (Nat × Nat × Int)} {l : List Ar} {v : Int} (h : Gr N e s t l v) (hs : s < N) {i : Nat} {a : Ar} (ha : l[i]? = some a) (hx : a.cap = 0) : Gr N (e.eraseIdx i) s t (l.eraseIdx i) v := by
  have hfa := h.flow.fits a (List.mem_of_getElem? ha)
  have hx0 : a.x = 0 := by omega
  have hf : IsFlow N (l.eraseIdx i) s t := ⟨fun b hb => h.flow.nodes b (List.mem_of_mem_eraseIdx hb), fun b hb => h.flow.fits b (List.mem_of_mem_eraseIdx hb), fun n hn h1 h2 => by rw [gain_erase ha hx0]; exact h.flow.even n hn h1 h2⟩
  have hv : gain (l.eraseIdx i) s = v := by rw [gain_erase ha hx0]; exact h.val
  obtain ⟨g1, -, -⟩ := h.cut hs
  have := Gr.of_cut hf rfl hs (S := reachB l s) ((reachB_iff l s s).2 Reach.here) (reachB_no h.done) (by rw [capS_erase _ ha hx, hv]; omega)
  rw [hv, ends_erase, h.net] at this
  exact this
/-- All arcs turned round. -/
def turn (l : List Ar) : List Ar := l.map fun a => { a with u := a.v, v := a.u }
theorem turn_gain (n : Nat) : ∀ l : List Ar, gain (turn l) n = -gain l n
  | [] => rfl
  | a :: l => by
    show gain ({ a with u := a.v, v := a.u } :: turn l) n = _
    rw [gain_cons, gain_cons, turn_gain n l]
    by_cases e1 : a.u = n <;> by_cases e2 : a.v = n <;> simp [e1, e2] <;> omega
theorem sumTo_gain {N : Nat} (l : List Ar) (h : ∀ a ∈ l, a.u < N ∧ a.v < N) : sumTo (gain l) N = 0 := by
  have h1 := gain_set (N := N) (fun _ => true) l h
  have h2 : outX l (fun _ => true) = 0 ∧ inX l (fun _ => true) = 0 := by
    clear h h1
    induction l with
    | nil => exact ⟨rfl, rfl⟩
    | cons a l ih => rw [outX_cons, inX_cons, ih.1, ih.2]; simp
  rw [h2.1, h2.2] at h1
  rw [← sumTo_congr (f := fun n => if true = true then gain l n else 0) (fun n _ => by simp)]
  simpa using h1
theorem IsFlow.ends_sum {N s t : Nat} {l : List Ar} (h : IsFlow N l s t) (hs : s < N) (ht : t < N) (hst : s ≠ t) : gain l t = -gain l s := by
  have h1 := sumTo_gain l h.nodes
  rw [sumTo_congr (g := fun n => (if n = s then gain l s else 0) + (if n = t then gain l t else 0)) (fun n hn => ?_), sumTo_add, sumTo_one _ hs, sumTo_one _ ht] at h1
  · omega
  · by_cases e1 : n = s
    · subst e1; simp [hst]
    · by_cases e2 : n = t
      · subst e2; simp [Ne.symm hst]
      · simp [e1, e2, h.even n hn e1 e2]
theorem Gr.turned {N s t : Nat} {e : List (Nat × Nat × Int)} {l : List Ar} {v : Int} (h : Gr N e s t l v) (hs : s < N) (ht : t < N) (hst : s ≠ t) : Gr N (ends (turn l)) t s (turn l) v := by
  have hf : IsFlow N (turn l) t s := by
    refine ⟨fun b hb => ?_, fun b hb => ?_, fun n hn h1 h2 => by rw [turn_gain, h.flow.even n hn h2 h1]; rfl⟩
    · obtain ⟨a, ha, rfl⟩ := List.mem_map.1 hb
      exact ⟨(h.flow.nodes a ha).2, (h.flow.nodes a ha).1⟩
    · obtain ⟨a, ha, rfl⟩ := List.mem_map.1 hb
      exact h.flow.fits a ha
  have hv : gain (turn l) t = v := by rw [turn_gain, h.flow.ends_sum hs ht hst, h.val]; omega
  have hc : ∀ (S : Nat → Bool) (l : List Ar), capS (turn l) (fun n => !S n) = capS l S := by
    intro S l
    induction l with
    | nil => rfl
    | cons a l ih =>
      show capS ({ a with u := a.v, v := a.u } :: turn l) _ = _
      rw [capS_cons, capS_cons, ih]
      cases S a.u <;> cases S a.v <;> simp
  obtain ⟨g1, -, -⟩ := h.cut hs
  have h1 : reachB l s s = true := (reachB_iff l s s).2 Reach.here
  have h2 := reachB_no h.done
  have := Gr.of_cut hf rfl ht (S := fun n => !reachB l s n) (by simp [h2]) (by simp [h1]) (by rw [hc, hv]; omega)
  rw [hv] at this
  exact this
end Go.Proofs.Ytglpaihadongkaa
