/-
  PLAIN. More sent through an arc (stage 5): no program is named.
-/
import Derived.Test.YtglpaihadongkaaAA
namespace Go.Proofs.Ytglpaihadongkaa

/-- An arc carries d more. -/
def upd (l : List Ar) (i : Nat) (d : Int) : List Ar := l.modify i fun a => { a with x := a.x + d }
theorem upd_len (l : List Ar) (i : Nat) (d : Int) : (upd l i d).length = l.length := by unfold upd; simp
theorem upd_cons0 (a : Ar) (l : List Ar) (d : Int) : upd (a :: l) 0 d = { a with x := a.x + d } :: l := rfl
theorem upd_cons (a : Ar) (l : List Ar) (i : Nat) (d : Int) : upd (a :: l) (i + 1) d = a :: upd l i d := rfl
theorem gain_upd {d : Int} : ∀ {l : List Ar} {i : Nat} {a : Ar}, l[i]? = some a → ∀ n, gain (upd l i d) n = gain l n + ((if a.u = n then d else 0) - (if a.v = n then d else 0))
  | [], i, a, h => by simp at h
  | b :: l, 0, a, h => fun n => by
    obtain rfl : b = a := by simpa using h
    rw [upd_cons0, gain_cons, gain_cons]
    by_cases e1 : b.u = n <;> by_cases e2 : b.v = n <;> simp [e1, e2] <;> omega
  | b :: l, i + 1, a, h => fun n => by
    rw [upd_cons, gain_cons, gain_cons, gain_upd (l := l) (i := i) (a := a) (by simpa using h) n]; omega
theorem upd_get {l : List Ar} {i : Nat} {d : Int} (j : Nat) : (upd l i d)[j]? = if i = j then (l[j]?).map (fun a => { a with x := a.x + d }) else l[j]? := by
  unfold upd
  rw [List.getElem?_modify]
  by_cases h : i = j
  · simp only [if_pos h]; cases l[j]? <;> rfl
  · simp only [if_neg h]; cases l[j]? <;> rfl
/-- The arcs' ends and capacities, which no sending changes. -/
def ends (l : List Ar) : List (Nat × Nat × Int) := l.map fun a => (a.u, a.v, a.cap)
theorem ends_upd (l : List Ar) (i : Nat) (d : Int) : ends (upd l i d) = ends l := by
  apply List.ext_getElem?
  intro j
  unfold ends
  rw [List.getElem?_map, List.getElem?_map, upd_get]
  split
  · cases l[j]? <;> rfl
  · rfl
theorem ends_get {l m : List Ar} (h : ends l = ends m) {i : Nat} {a : Ar} (ha : l[i]? = some a) : ∃ b, m[i]? = some b ∧ b.u = a.u ∧ b.v = a.v ∧ b.cap = a.cap := by
  have h1 : (ends m)[i]? = some (a.u, a.v, a.cap) := by rw [← h]; unfold ends; rw [List.getElem?_map, ha]; rfl
  unfold ends at h1
  rw [List.getElem?_map] at h1
  obtain ⟨b, hb, e⟩ := Option.map_eq_some_iff.1 h1
  injection e with e1 e2
  injection e2 with e2 e3
  exact ⟨b, hb, e1, e2, e3⟩
def Fits (l : List Ar) : Prop := ∀ a ∈ l, 0 ≤ a.x ∧ a.x ≤ a.cap
theorem Fits.upd {l : List Ar} (h : Fits l) {i : Nat} {d : Int} {a : Ar} (ha : l[i]? = some a) (h1 : 0 ≤ a.x + d) (h2 : a.x + d ≤ a.cap) : Fits (upd l i d) := by
  intro b hb
  obtain ⟨j, hj⟩ := List.getElem?_of_mem hb
  rw [upd_get] at hj
  by_cases e : i = j
  · subst e
    rw [if_pos rfl, ha] at hj
    injection hj with hj
    subst hj
    exact ⟨h1, h2⟩
  · rw [if_neg e] at hj
    exact h b (List.mem_of_getElem? hj)
theorem capS_ends {l m : List Ar} (h : ends l = ends m) (S : Nat → Bool) : capS l S = capS m S := by
  have e : ∀ l : List Ar, capS l S = ((ends l).map fun p => if S p.1 && !S p.2.1 then p.2.2 else 0).sum := fun l => by
    unfold capS ends; rw [List.map_map]; rfl
  rw [e, e, h]
/-- A move: 2 i goes along arc i, 2 i + 1 goes back. -/
def mvFrom (l : List Ar) (m : Nat) : Option Nat := (l[m / 2]?).map fun a => if m % 2 = 0 then a.u else a.v
def mvTo (l : List Ar) (m : Nat) : Option Nat := (l[m / 2]?).map fun a => if m % 2 = 0 then a.v else a.u
def mvRoom (l : List Ar) (m : Nat) : Int := match l[m / 2]? with
  | some a => if m % 2 = 0 then a.cap - a.x else a.x
  | none => 0
/-- d more goes through a move. -/
def mvSend (l : List Ar) (m : Nat) (d : Int) : List Ar := upd l (m / 2) (if m % 2 = 0 then d else -d)
theorem mvSend_gain {l : List Ar} {m : Nat} {d : Int} {p q : Nat} (h1 : mvFrom l m = some p) (h2 : mvTo l m = some q) (n : Nat) : gain (mvSend l m d) n = gain l n + ((if p = n then d else 0) - (if q = n then d else 0)) := by
  unfold mvFrom at h1
  unfold mvTo at h2
  obtain ⟨a, ha, e1⟩ := Option.map_eq_some_iff.1 h1
  obtain ⟨b, hb, e2⟩ := Option.map_eq_some_iff.1 h2
  rw [ha] at hb
  injection hb with hb
  subst hb
  unfold mvSend
  rw [gain_upd ha n]
  by_cases hm : m % 2 = 0
  · rw [if_pos hm] at e1 e2
    subst e1 e2
    rw [if_pos hm]
  · rw [if_neg hm] at e1 e2
    subst e1 e2
    rw [if_neg hm]
    by_cases e3 : a.u = n <;> by_cases e4 : a.v = n <;> simp [e3, e4]
theorem mvSend_fits {l : List Ar} (h : Fits l) {m : Nat} {d : Int} (h0 : 0 ≤ d) (h1 : d ≤ mvRoom l m) : Fits (mvSend l m d) := by
  unfold mvRoom at h1
  unfold mvSend
  rcases ha : l[m / 2]? with _ | a
  · have e : upd l (m / 2) (if m % 2 = 0 then d else -d) = l := by
      apply List.ext_getElem?
      intro j
      rw [upd_get]
      split
      · rename_i hj; subst hj; rw [ha]; rfl
      · rfl
    rw [e]; exact h
  · rw [ha] at h1
    have hx := h a (List.mem_of_getElem? ha)
    refine h.upd ha ?_ ?_
    · by_cases hm : m % 2 = 0
      · rw [if_pos hm]; omega
      · simp only [if_neg hm] at h1 ⊢; omega
    · by_cases hm : m % 2 = 0
      · simp only [if_pos hm] at h1 ⊢; omega
      · rw [if_neg hm]; omega
theorem mvSend_ends (l : List Ar) (m : Nat) (d : Int) : ends (mvSend l m d) = ends l := ends_upd _ _ _
/-- The rooms behind a sending: the move has d less, the move back d more, all others are as they were. -/
theorem mvRoom_send {l : List Ar} {m : Nat} {d : Int} (h : m / 2 < l.length) (k : Nat) : mvRoom (mvSend l m d) k = if k / 2 = m / 2 then (if k % 2 = m % 2 then mvRoom l k - d else mvRoom l k + d) else mvRoom l k := by
  unfold mvRoom mvSend
  rw [upd_get]
  by_cases e : m / 2 = k / 2
  · rw [if_pos e, if_pos e.symm, ← e, List.getElem?_eq_getElem h]
    have h1 : m % 2 = 0 ∨ m % 2 = 1 := by omega
    have h2 : k % 2 = 0 ∨ k % 2 = 1 := by omega
    rcases h1 with h1 | h1 <;> rcases h2 with h2 | h2 <;> simp [h1, h2] <;> omega
  · rw [if_neg e, if_neg (fun h => e h.symm)]
/-- Moves with room lead on. -/
theorem reach_move {l : List Ar} {s p q m : Nat} (h1 : mvFrom l m = some p) (h2 : mvTo l m = some q) (hr : 0 < mvRoom l m) (hp : Reach l s p) : Reach l s q := by
  unfold mvFrom at h1
  unfold mvTo at h2
  unfold mvRoom at hr
  obtain ⟨a, ha, e1⟩ := Option.map_eq_some_iff.1 h1
  rw [ha] at h2 hr
  have e2 : (if m % 2 = 0 then a.v else a.u) = q := by simpa using h2
  have hm := List.mem_of_getElem? ha
  by_cases hm2 : m % 2 = 0
  · rw [if_pos hm2] at e1 e2
    simp only [if_pos hm2] at hr
    subst e1 e2
    exact Reach.along hm hp (by omega)
  · rw [if_neg hm2] at e1 e2
    simp only [if_neg hm2] at hr
    subst e1 e2
    exact Reach.back hm hp hr
/-- A set that holds s and with each node all to which a move with room leads, holds all that can be reached. -/
theorem reach_in {l : List Ar} {s : Nat} {S : Nat → Prop} (h0 : S s) (hS : ∀ m p q, mvFrom l m = some p → mvTo l m = some q → 0 < mvRoom l m → S p → S q) {n : Nat} (h : Reach l s n) : S n := by
  induction h with
  | here => exact h0
  | @along a ha _ hx ih =>
    obtain ⟨i, hi⟩ := List.getElem?_of_mem ha
    have e1 : 2 * i / 2 = i := by omega
    have e2 : 2 * i % 2 = 0 := by omega
    exact hS (2 * i) a.u a.v (by unfold mvFrom; rw [e1, hi, e2]; rfl) (by unfold mvTo; rw [e1, hi, e2]; rfl) (by unfold mvRoom; rw [e1, hi]; simp only [e2, if_true]; omega) ih
  | @back a ha _ hx ih =>
    obtain ⟨i, hi⟩ := List.getElem?_of_mem ha
    have e1 : (2 * i + 1) / 2 = i := by omega
    have e2 : (2 * i + 1) % 2 = 1 := by omega
    exact hS (2 * i + 1) a.v a.u (by unfold mvFrom; rw [e1, hi, e2]; rfl) (by unfold mvTo; rw [e1, hi, e2]; rfl) (by unfold mvRoom; rw [e1, hi]; simp only [e2]; exact hx) ih
end Go.Proofs.Ytglpaihadongkaa
