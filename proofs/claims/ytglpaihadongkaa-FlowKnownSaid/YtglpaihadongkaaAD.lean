/-
  PLAIN. Distances, and shortest ways that are left (stage 5): no program is named.
-/
import Derived.Test.YtglpaihadongkaaAC
namespace Go.Proofs.Ytglpaihadongkaa

/-- A way from a node to t, each node one further than the one before it. -/
inductive Way (l : List Ar) (far : Nat → Int) (t : Nat) : Nat → Prop
  | here : Way l far t t
  | step {m p q : Nat} : mvFrom l m = some p → mvTo l m = some q → 0 < mvRoom l m → far q = far p + 1 → Way l far t q → Way l far t p
/-- Where nodes without a way are struck, the others keep theirs. -/
theorem Way.kept {l : List Ar} {far far' : Nat → Int} {t : Nat} (hd : ∀ n, far' n ≠ far n → ¬ Way l far t n) {n : Nat} (h : Way l far t n) : far' n = far n ∧ Way l far' t n := by
  have keep : ∀ n, Way l far t n → far' n = far n := fun n h => Classical.byContradiction fun hn => hd n hn h
  refine ⟨keep n h, ?_⟩
  induction h with
  | here => exact Way.here
  | @step m p q h1 h2 h3 h4 h5 ih => exact Way.step h1 h2 h3 (by rw [keep q h5, keep p (Way.step h1 h2 h3 h4 h5)]; exact h4) ih
/-- What onward does when it lets nothing through: nothing flows otherwise, and the nodes that it strikes, and its own, have no way. -/
structure Dead (l : List Ar) (far far' : Nat → Int) (t : Nat) : Prop where
  struck : ∀ n, far' n ≠ far n → far' n = -1 ∧ ¬ Way l far t n
theorem Dead.refl (l : List Ar) (far : Nat → Int) (t : Nat) : Dead l far far t := ⟨fun _ h => absurd rfl h⟩
theorem Dead.way {l : List Ar} {far far' : Nat → Int} {t n : Nat} (h : Dead l far far' t) (hn : ¬ Way l far' t n) : ¬ Way l far t n := fun hw => hn (Way.kept (fun k hk => (h.struck k hk).2) hw).2
theorem Dead.trans {l : List Ar} {f g h : Nat → Int} {t : Nat} (h1 : Dead l f g t) (h2 : Dead l g h t) : Dead l f h t := by
  refine ⟨fun n hn => ?_⟩
  by_cases e : h n = g n
  · have := h1.struck n (by rw [← e]; exact hn)
    exact ⟨e.trans this.1, this.2⟩
  · have := h2.struck n e
    exact ⟨this.1, h1.way this.2⟩
theorem Dead.strike {l : List Ar} {far : Nat → Int} {t p : Nat} (h : ¬ Way l far t p) : Dead l far (fun n => if n = p then -1 else far n) t := by
  refine ⟨fun n hn => ?_⟩
  by_cases e : n = p
  · subst e; exact ⟨if_pos rfl, h⟩
  · exact absurd (if_neg e) hn
/-- A node none of whose moves leads to a node with a way has none. -/
theorem no_way {l : List Ar} {far : Nat → Int} {t p : Nat} (hp : p ≠ t) (h : ∀ m q, mvFrom l m = some p → mvTo l m = some q → 0 < mvRoom l m → far q = far p + 1 → ¬ Way l far t q) : ¬ Way l far t p := by
  intro hw
  cases hw with
  | here => exact hp rfl
  | step h1 h2 h3 h4 h5 => exact h _ _ h1 h2 h3 h4 h5
/-- Distances from s: 0 at s alone; each further one is one more than that of a node from which a move leads; where a move leads, there is a distance. -/
structure IsFar (l : List Ar) (s : Nat) (far : Nat → Int) : Prop where
  low : ∀ n, -1 ≤ far n
  zero : ∀ n, far n = 0 ↔ n = s
  from_ : ∀ n, 0 < far n → ∃ m p, mvFrom l m = some p ∧ mvTo l m = some n ∧ 0 < mvRoom l m ∧ far n = far p + 1
  on : ∀ m p q, mvFrom l m = some p → mvTo l m = some q → 0 < mvRoom l m → 0 ≤ far p → 0 ≤ far q
theorem IsFar.way {l : List Ar} {s t : Nat} {far : Nat → Int} (h : IsFar l s far) : ∀ (k : Nat) (n : Nat), far n = (k : Int) → Way l far t n → Way l far t s
  | 0, n, hn, hw => by
    have := (h.zero n).1 hn
    subst this; exact hw
  | k + 1, n, hn, hw => by
    obtain ⟨m, p, h1, h2, h3, h4⟩ := h.from_ n (by omega)
    exact h.way k p (by omega) (Way.step h1 h2 h3 h4 hw)
theorem IsFar.no_way {l : List Ar} {s t : Nat} {far : Nat → Int} (h : IsFar l s far) (hn : ¬ Way l far t s) : far t = -1 := by
  rcases Int.lt_or_le (far t) 0 with h1 | h1
  · have := h.low t; omega
  · exact absurd (h.way (far t).toNat t (by omega) Way.here) hn
theorem IsFar.reach {l : List Ar} {s : Nat} {far : Nat → Int} (h : IsFar l s far) : ∀ (k : Nat) (n : Nat), far n = (k : Int) → Reach l s n
  | 0, n, hn => by
    have := (h.zero n).1 hn
    subst this; exact Reach.here
  | k + 1, n, hn => by
    obtain ⟨m, p, h1, h2, h3, h4⟩ := h.from_ n (by omega)
    exact reach_move h1 h2 h3 (h.reach k p (by omega))
/-- The distances say what can be reached. -/
theorem IsFar.iff {l : List Ar} {s : Nat} {far : Nat → Int} (h : IsFar l s far) (n : Nat) : Reach l s n ↔ far n ≠ -1 := by
  have hl := h.low n
  refine ⟨fun hr => ?_, fun hn => h.reach (far n).toNat n (by omega)⟩
  have := reach_in (S := fun n => 0 ≤ far n) (by rw [(h.zero s).2 rfl]; exact Int.le_refl _) h.on hr
  omega
/-- More through a net: a flow of the same ends whose value is greater by what was sent. -/
theorem IsFlow.sent {N s t : Nat} {l l' : List Ar} {d : Int} (h : IsFlow N l s t) (hst : s ≠ t) (he : ends l' = ends l) (hf : Fits l') (hg : ∀ n, gain l' n = gain l n + ((if s = n then d else 0) - (if t = n then d else 0))) : IsFlow N l' s t ∧ gain l' s = gain l s + d := by
  refine ⟨⟨fun a ha => ?_, hf, fun n hn h1 h2 => ?_⟩, ?_⟩
  · obtain ⟨i, hi⟩ := List.getElem?_of_mem ha
    obtain ⟨b, hb, e1, e2, -⟩ := ends_get he hi
    have := h.nodes b (List.mem_of_getElem? hb)
    rw [e1, e2] at this
    exact this
  · rw [hg, h.even n hn h1 h2, if_neg (Ne.symm h1), if_neg (Ne.symm h2)]; rfl
  · rw [hg, if_pos rfl, if_neg (Ne.symm hst)]; omega
end Go.Proofs.Ytglpaihadongkaa
