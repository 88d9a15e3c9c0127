/-
  DERIVED. Several texts in one.
-/
import Derived.Test.YtidpiokkfnhobaaGreatProg
import Derived.WalkKit
import Derived.ProofKit
import Derived.Below
import Derived.BigQuiet
import Derived.Laws.Rows
import Derived.Laws.OwnMore
import Derived.Lib.Hide
import Derived.RangeFuncNested
import Derived.RangeFuncBound
import Derived.RangeFuncCalls
import Derived.RangeFuncLeaves
import Derived.RangeFuncBox
import Derived.Shelf.Abstract
import Derived.Shelf.RegionOpen
import Derived.OwnWalkIn
import Derived.TacticsInMore
import Derived.LoopNIn
import Derived.LoopIn
import Derived.Deep.DrawnRows
import Derived.Deep.AppendLies
import Derived.StillTailTactics
import Derived.OrdersHeld
import Derived.Deep.RegionHeld3
set_option linter.unusedVariables false
set_option linter.unusedSimpArgs false

namespace Go.Proofs.YtidpiokkfnhobaaGreat.v5

/-- An arc: from, to, what it can carry, what it carries. -/
structure Ar where
  u : Nat
  v : Nat
  cap : Int
  x : Int
/-- What begins at a node, less what ends there. -/
def gain (l : List Ar) (n : Nat) : Int := (l.map fun a => (if a.u = n then a.x else 0) - (if a.v = n then a.x else 0)).sum
/-- What leaves a set of nodes, what enters it, and what may leave it. -/
def outX (l : List Ar) (S : Nat → Bool) : Int := (l.map fun a => if S a.u && !S a.v then a.x else 0).sum
def inX (l : List Ar) (S : Nat → Bool) : Int := (l.map fun a => if !S a.u && S a.v then a.x else 0).sum
def capS (l : List Ar) (S : Nat → Bool) : Int := (l.map fun a => if S a.u && !S a.v then a.cap else 0).sum
/-- Numbers from 0 to what the arcs can carry; as much ends as begins at all nodes below N but s and t. -/
structure IsFlow (N : Nat) (l : List Ar) (s t : Nat) : Prop where
  nodes : ∀ a ∈ l, a.u < N ∧ a.v < N
  fits : ∀ a ∈ l, 0 ≤ a.x ∧ a.x ≤ a.cap
  even : ∀ n, n < N → n ≠ s → n ≠ t → gain l n = 0
def sumTo (f : Nat → Int) : Nat → Int
  | 0 => 0
  | n + 1 => sumTo f n + f n
theorem sumTo_congr {f g : Nat → Int} {N : Nat} (h : ∀ n, n < N → f n = g n) : sumTo f N = sumTo g N := by
  induction N with
  | zero => rfl
  | succ N ih => show sumTo f N + f N = sumTo g N + g N; rw [ih (fun n hn => h n (by omega)), h N (by omega)]
theorem sumTo_add (f g : Nat → Int) (N : Nat) : sumTo (fun n => f n + g n) N = sumTo f N + sumTo g N := by
  induction N with
  | zero => rfl
  | succ N ih => show sumTo _ N + (f N + g N) = (sumTo f N + f N) + (sumTo g N + g N); rw [ih]; omega
theorem sumTo_zero (N : Nat) : sumTo (fun _ => 0) N = 0 := by
  induction N with
  | zero => rfl
  | succ N ih => show sumTo _ N + 0 = 0; rw [ih]; rfl
theorem sumTo_one (x : Int) {m N : Nat} (h : m < N) : sumTo (fun n => if n = m then x else 0) N = x := by
  induction N with
  | zero => omega
  | succ N ih =>
    show sumTo _ N + (if N = m then x else 0) = x
    rcases Nat.lt_or_ge m N with hm | hm
    · rw [ih hm, if_neg (by omega)]; omega
    · obtain rfl : m = N := by omega
      rw [if_pos rfl, sumTo_congr (g := fun _ => 0) (fun n hn => if_neg (by omega)), sumTo_zero]; omega
theorem outX_cons (a : Ar) (l : List Ar) (S : Nat → Bool) : outX (a :: l) S = (if S a.u && !S a.v then a.x else 0) + outX l S := by unfold outX; rw [List.map_cons, List.sum_cons]
theorem inX_cons (a : Ar) (l : List Ar) (S : Nat → Bool) : inX (a :: l) S = (if !S a.u && S a.v then a.x else 0) + inX l S := by unfold inX; rw [List.map_cons, List.sum_cons]
theorem capS_cons (a : Ar) (l : List Ar) (S : Nat → Bool) : capS (a :: l) S = (if S a.u && !S a.v then a.cap else 0) + capS l S := by unfold capS; rw [List.map_cons, List.sum_cons]
theorem gain_cons (a : Ar) (l : List Ar) (n : Nat) : gain (a :: l) n = ((if a.u = n then a.x else 0) - (if a.v = n then a.x else 0)) + gain l n := by unfold gain; rw [List.map_cons, List.sum_cons]
/-- A set's gain is the sum of its nodes' gains. -/
theorem gain_set {N : Nat} (S : Nat → Bool) : ∀ (l : List Ar), (∀ a ∈ l, a.u < N ∧ a.v < N) → sumTo (fun n => if S n then gain l n else 0) N = outX l S - inX l S
  | [], _ => by
    rw [sumTo_congr (g := fun _ => 0) (fun n _ => by simp [gain]), sumTo_zero]; rfl
  | a :: l, h => by
    have ih := gain_set S l (fun b hb => h b (List.mem_cons_of_mem _ hb))
    obtain ⟨h1, h2⟩ := h a (by simp)
    have e : ∀ n, n < N → (if S n then gain (a :: l) n else 0) = ((if n = a.u then (if S a.u then a.x else 0) else 0) + (if n = a.v then (if S a.v then -a.x else 0) else 0)) + (if S n then gain l n else 0) := by
      intro n _
      rw [gain_cons]
      by_cases e1 : a.u = n <;> by_cases e2 : a.v = n <;> by_cases e3 : S n = true
      all_goals (try subst e1) <;> (try subst e2) <;> simp_all <;> omega
    rw [sumTo_congr e, sumTo_add, sumTo_add, sumTo_one _ h1, sumTo_one _ h2, ih]
    rw [outX_cons, inX_cons]
    cases S a.u <;> cases S a.v <;> simp <;> omega
/-- A flow's value is what leaves any set that holds s and not t, less what enters it. -/
theorem IsFlow.across {N : Nat} {l : List Ar} {s t : Nat} (h : IsFlow N l s t) (hs : s < N) {S : Nat → Bool} (h1 : S s = true) (h2 : S t = false) : gain l s = outX l S - inX l S := by
  rw [← gain_set S l h.nodes, sumTo_congr (g := fun n => if n = s then gain l s else 0) (fun n hn => ?_), sumTo_one _ hs]
  by_cases e : n = s
  · subst e; simp [h1]
  · rw [if_neg e]
    by_cases e2 : n = t
    · subst e2; simp [h2]
    · split
      · exact h.even n hn e e2
      · rfl
theorem out_le {l : List Ar} (h : ∀ a ∈ l, 0 ≤ a.x ∧ a.x ≤ a.cap) (S : Nat → Bool) : outX l S ≤ capS l S ∧ 0 ≤ inX l S := by
  induction l with
  | nil => exact ⟨Int.le_refl _, Int.le_refl _⟩
  | cons a l ih =>
    obtain ⟨i1, i2⟩ := ih (fun b hb => h b (List.mem_cons_of_mem _ hb))
    have := h a (by simp)
    rw [outX_cons, inX_cons, capS_cons]
    cases S a.u <;> cases S a.v <;> simp <;> omega
/-- No flow has a greater value than a cut's capacity. -/
theorem IsFlow.le_cut {N : Nat} {l : List Ar} {s t : Nat} (h : IsFlow N l s t) (hs : s < N) {S : Nat → Bool} (h1 : S s = true) (h2 : S t = false) : gain l s ≤ capS l S := by
  have := h.across hs h1 h2
  have := out_le h.fits S
  omega
/-- A set is closed if nothing is left that leaves it. -/
def Shut (l : List Ar) (S : Nat → Bool) : Prop := ∀ a ∈ l, (S a.u = true → S a.v = false → a.x = a.cap) ∧ (S a.u = false → S a.v = true → a.x = 0)
theorem Shut.full {l : List Ar} {S : Nat → Bool} (h : Shut l S) : outX l S = capS l S ∧ inX l S = 0 := by
  induction l with
  | nil => exact ⟨rfl, rfl⟩
  | cons a l ih =>
    obtain ⟨i1, i2⟩ := ih (fun b hb => h b (List.mem_cons_of_mem _ hb))
    obtain ⟨g1, g2⟩ := h a (by simp)
    rw [outX_cons, inX_cons, capS_cons]
    cases e1 : S a.u <;> cases e2 : S a.v <;> simp [e1, e2] at g1 g2 ⊢ <;> omega
theorem IsFlow.shut_cut {N : Nat} {l : List Ar} {s t : Nat} (h : IsFlow N l s t) (hs : s < N) {S : Nat → Bool} (h1 : S s = true) (h2 : S t = false) (hc : Shut l S) : gain l s = capS l S := by
  have := h.across hs h1 h2
  obtain ⟨g1, g2⟩ := hc.full
  omega
/-- Where a flow's value is a cut's capacity, the cut is closed. -/
theorem shut_of {l : List Ar} (h : ∀ a ∈ l, 0 ≤ a.x ∧ a.x ≤ a.cap) {S : Nat → Bool} (he : capS l S ≤ outX l S - inX l S) : Shut l S := by
  induction l with
  | nil => intro a ha; cases ha
  | cons a l ih =>
    have hl := fun b hb => h b (List.mem_cons_of_mem a hb)
    obtain ⟨i1, i2⟩ := out_le hl S
    have ha := h a (by simp)
    rw [outX_cons, inX_cons, capS_cons] at he
    intro b hb
    rcases List.mem_cons.1 hb with rfl | hb
    · cases e1 : S b.u <;> cases e2 : S b.v <;> simp [e1, e2] at he ⊢ <;> omega
    · refine ih hl ?_ b hb
      cases e1 : S a.u <;> cases e2 : S a.v <;> simp [e1, e2] at he ⊢ <;> omega
/-- What can be reached in what a flow leaves. -/
inductive Reach (l : List Ar) (s : Nat) : Nat → Prop
  | here : Reach l s s
  | along {a : Ar} : a ∈ l → Reach l s a.u → a.x < a.cap → Reach l s a.v
  | back {a : Ar} : a ∈ l → Reach l s a.v → 0 < a.x → Reach l s a.u
theorem Reach.mem {l : List Ar} {s : Nat} {S : Nat → Bool} (hc : Shut l S) (h1 : S s = true) {n : Nat} (h : Reach l s n) : S n = true := by
  induction h with
  | here => exact h1
  | along ha _ hx ih =>
    have := (hc _ ha).1 ih
    rcases e : S _ with _ | _
    · have := this e; omega
    · rfl
  | back ha _ hx ih =>
    have := (hc _ ha).2
    rcases e : S _ with _ | _
    · have := this e ih; omega
    · rfl
theorem reach_shut {l : List Ar} {s : Nat} (hf : ∀ a ∈ l, 0 ≤ a.x ∧ a.x ≤ a.cap) {S : Nat → Bool} (hS : ∀ n, S n = true ↔ Reach l s n) : Shut l S := by
  intro a ha
  refine ⟨fun h1 h2 => ?_, fun h1 h2 => ?_⟩
  · rcases Int.lt_or_le a.x a.cap with hx | hx
    · have := (hS _).2 (Reach.along ha ((hS _).1 h1) hx)
      rw [h2] at this; cases this
    · have := hf a ha; omega
  · rcases Int.lt_or_le 0 a.x with hx | hx
    · have := (hS _).2 (Reach.back ha ((hS _).1 h2) hx)
      rw [h1] at this; cases this
    · have := hf a ha; omega
/-- A flow that leaves no way to t: its value is the capacity of what can be reached; each cut's capacity is no less; a cut of the same capacity holds all that can be reached. -/
theorem IsFlow.greatest {N : Nat} {l : List Ar} {s t : Nat} (h : IsFlow N l s t) (hs : s < N) {R : Nat → Bool} (hR : ∀ n, R n = true ↔ Reach l s n) (ht : R t = false) :
    gain l s = capS l R ∧ (∀ S : Nat → Bool, S s = true → S t = false → capS l R ≤ capS l S) ∧ ∀ S : Nat → Bool, S s = true → S t = false → capS l S = capS l R → ∀ n, R n = true → S n = true := by
  have h1 : R s = true := (hR s).2 Reach.here
  have e := h.shut_cut hs h1 ht (reach_shut h.fits hR)
  refine ⟨e, fun S g1 g2 => by have := h.le_cut hs g1 g2; omega, fun S g1 g2 g3 n hn => ?_⟩
  have hx := h.across hs g1 g2
  exact Reach.mem (shut_of h.fits (by omega)) g1 ((hR n).1 hn)
/-- A greatest flow: none of the same arcs has a greater value. -/
theorem IsFlow.most {N : Nat} {l m : List Ar} {s t : Nat} (h : IsFlow N l s t) (hs : s < N) {R : Nat → Bool} (hR : ∀ n, R n = true ↔ Reach l s n) (ht : R t = false) (k : IsFlow N m s t) (he : l.map (fun a => (a.u, a.v, a.cap)) = m.map (fun a => (a.u, a.v, a.cap))) : gain m s ≤ gain l s := by
  have h1 : R s = true := (hR s).2 Reach.here
  have e := (h.greatest hs hR ht).1
  have e2 := k.le_cut hs h1 ht
  have e3 : ∀ l : List Ar, capS l R = ((l.map (fun a => (a.u, a.v, a.cap))).map fun p => if R p.1 && !R p.2.1 then p.2.2 else 0).sum := fun l => by
    unfold capS; rw [List.map_map]; rfl
  rw [e3] at e2
  rw [e3, he] at e
  omega
end Go.Proofs.YtidpiokkfnhobaaGreat.v5

namespace Go.Proofs.YtidpiokkfnhobaaGreat.v5

/-- An arc carries d more. -/
def upd (l : List Ar) (i : Nat) (d : Int) : List Ar := l.modify i fun a => { a with x := a.x + d }
theorem upd_cons0 (a : Ar) (l : List Ar) (d : Int) : upd (a :: l) 0 d = { a with x := a.x + d } :: l := rfl
theorem upd_cons (a : Ar) (l : List Ar) (i : Nat) (d : Int) : upd (a :: l) (i + 1) d = a :: upd l i d := rfl
theorem gain_upd {d : Int} : ∀ {l : List Ar} {i : Nat} {a : Ar}, l[i]? = some a → ∀ n, gain (upd l i d) n = gain l n + ((if a.u = n then d else 0) - (if a.v = n then d else 0))
  | [], i, a, h => by simp at h
  | b :: l, 0, a, h => fun n => by
    obtain rfl : b = a := by simpa using h
    rw [upd_cons0, gain_cons, gain_cons]
    by_cases e1 : b.u = n <;> by_cases e2 : b.v = n <;> simp [e1, e2] <;> omega
  | b :: l, i + 1, a, h => fun n => by
    rw [upd_cons, gain_cons, gain_cons, gain_upd (l := l) (i := i) (a := a) (by simpa using h) n]; omega
theorem upd_get {l : List Ar} {i : Nat} {d : Int} (j : Nat) : (upd l i d)[j]? = if i = j then (l[j]?).map (fun a => { a with x := a.x + d }) else l[j]? := by
  unfold upd
  rw [List.getElem?_modify]
  by_cases h : i = j
  · simp only [if_pos h]; cases l[j]? <;> rfl
  · simp only [if_neg h]; cases l[j]? <;> rfl
/-- The arcs' ends and capacities, which no sending changes. -/
def ends (l : List Ar) : List (Nat × Nat × Int) := l.map fun a => (a.u, a.v, a.cap)
theorem ends_upd (l : List Ar) (i : Nat) (d : Int) : ends (upd l i d) = ends l := by
  apply List.ext_getElem?
  intro j
  unfold ends
  rw [List.getElem?_map, List.getElem?_map, upd_get]
  split
  · cases l[j]? <;> rfl
  · rfl
theorem ends_get {l m : List Ar} (h : ends l = ends m) {i : Nat} {a : Ar} (ha : l[i]? = some a) : ∃ b, m[i]? = some b ∧ b.u = a.u ∧ b.v = a.v ∧ b.cap = a.cap := by
  have h1 : (ends m)[i]? = some (a.u, a.v, a.cap) := by rw [← h]; unfold ends; rw [List.getElem?_map, ha]; rfl
  unfold ends at h1
  rw [List.getElem?_map] at h1
  obtain ⟨b, hb, e⟩ := Option.map_eq_some_iff.1 h1
  injection e with e1 e2
  injection e2 with e2 e3
  exact ⟨b, hb, e1, e2, e3⟩
def Fits (l : List Ar) : Prop := ∀ a ∈ l, 0 ≤ a.x ∧ a.x ≤ a.cap
theorem Fits.upd {l : List Ar} (h : Fits l) {i : Nat} {d : Int} {a : Ar} (ha : l[i]? = some a) (h1 : 0 ≤ a.x + d) (h2 : a.x + d ≤ a.cap) : Fits (upd l i d) := by
  intro b hb
  obtain ⟨j, hj⟩ := List.getElem?_of_mem hb
  rw [upd_get] at hj
  by_cases e : i = j
  · subst e
    rw [if_pos rfl, ha] at hj
    injection hj with hj
    subst hj
    exact ⟨h1, h2⟩
  · rw [if_neg e] at hj
    exact h b (List.mem_of_getElem? hj)
theorem capS_ends {l m : List Ar} (h : ends l = ends m) (S : Nat → Bool) : capS l S = capS m S := by
  have e : ∀ l : List Ar, capS l S = ((ends l).map fun p => if S p.1 && !S p.2.1 then p.2.2 else 0).sum := fun l => by
    unfold capS ends; rw [List.map_map]; rfl
  rw [e, e, h]
/-- A move: 2 i goes along arc i, 2 i + 1 goes back. -/
def mvFrom (l : List Ar) (m : Nat) : Option Nat := (l[m / 2]?).map fun a => if m % 2 = 0 then a.u else a.v
def mvTo (l : List Ar) (m : Nat) : Option Nat := (l[m / 2]?).map fun a => if m % 2 = 0 then a.v else a.u
def mvRoom (l : List Ar) (m : Nat) : Int := match l[m / 2]? with
  | some a => if m % 2 = 0 then a.cap - a.x else a.x
  | none => 0
/-- d more goes through a move. -/
def mvSend (l : List Ar) (m : Nat) (d : Int) : List Ar := upd l (m / 2) (if m % 2 = 0 then d else -d)
theorem mvSend_gain {l : List Ar} {m : Nat} {d : Int} {p q : Nat} (h1 : mvFrom l m = some p) (h2 : mvTo l m = some q) (n : Nat) : gain (mvSend l m d) n = gain l n + ((if p = n then d else 0) - (if q = n then d else 0)) := by
  unfold mvFrom at h1
  unfold mvTo at h2
  obtain ⟨a, ha, e1⟩ := Option.map_eq_some_iff.1 h1
  obtain ⟨b, hb, e2⟩ := Option.map_eq_some_iff.1 h2
  rw [ha] at hb
  injection hb with hb
  subst hb
  unfold mvSend
  rw [gain_upd ha n]
  by_cases hm : m % 2 = 0
  · rw [if_pos hm] at e1 e2
    subst e1 e2
    rw [if_pos hm]
  · rw [if_neg hm] at e1 e2
    subst e1 e2
    rw [if_neg hm]
    by_cases e3 : a.u = n <;> by_cases e4 : a.v = n <;> simp [e3, e4]
theorem mvSend_fits {l : List Ar} (h : Fits l) {m : Nat} {d : Int} (h0 : 0 ≤ d) (h1 : d ≤ mvRoom l m) : Fits (mvSend l m d) := by
  unfold mvRoom at h1
  unfold mvSend
  rcases ha : l[m / 2]? with _ | a
  · have e : upd l (m / 2) (if m % 2 = 0 then d else -d) = l := by
      apply List.ext_getElem?
      intro j
      rw [upd_get]
      split
      · rename_i hj; subst hj; rw [ha]; rfl
      · rfl
    rw [e]; exact h
  · rw [ha] at h1
    have hx := h a (List.mem_of_getElem? ha)
    refine h.upd ha ?_ ?_
    · by_cases hm : m % 2 = 0
      · rw [if_pos hm]; omega
      · simp only [if_neg hm] at h1 ⊢; omega
    · by_cases hm : m % 2 = 0
      · simp only [if_pos hm] at h1 ⊢; omega
      · rw [if_neg hm]; omega
theorem mvSend_ends (l : List Ar) (m : Nat) (d : Int) : ends (mvSend l m d) = ends l := ends_upd _ _ _
/-- The rooms behind a sending: the move has d less, the move back d more, all others are as they were. -/
theorem mvRoom_send {l : List Ar} {m : Nat} {d : Int} (h : m / 2 < l.length) (k : Nat) : mvRoom (mvSend l m d) k = if k / 2 = m / 2 then (if k % 2 = m % 2 then mvRoom l k - d else mvRoom l k + d) else mvRoom l k := by
  unfold mvRoom mvSend
  rw [upd_get]
  by_cases e : m / 2 = k / 2
  · rw [if_pos e, if_pos e.symm, ← e, List.getElem?_eq_getElem h]
    have h1 : m % 2 = 0 ∨ m % 2 = 1 := by omega
    have h2 : k % 2 = 0 ∨ k % 2 = 1 := by omega
    rcases h1 with h1 | h1 <;> rcases h2 with h2 | h2 <;> simp [h1, h2] <;> omega
  · rw [if_neg e, if_neg (fun h => e h.symm)]
/-- Moves with room lead on. -/
theorem reach_move {l : List Ar} {s p q m : Nat} (h1 : mvFrom l m = some p) (h2 : mvTo l m = some q) (hr : 0 < mvRoom l m) (hp : Reach l s p) : Reach l s q := by
  unfold mvFrom at h1
  unfold mvTo at h2
  unfold mvRoom at hr
  obtain ⟨a, ha, e1⟩ := Option.map_eq_some_iff.1 h1
  rw [ha] at h2 hr
  have e2 : (if m % 2 = 0 then a.v else a.u) = q := by simpa using h2
  have hm := List.mem_of_getElem? ha
  by_cases hm2 : m % 2 = 0
  · rw [if_pos hm2] at e1 e2
    simp only [if_pos hm2] at hr
    subst e1 e2
    exact Reach.along hm hp (by omega)
  · rw [if_neg hm2] at e1 e2
    simp only [if_neg hm2] at hr
    subst e1 e2
    exact Reach.back hm hp hr
/-- A set that holds s and with each node all to which a move with room leads, holds all that can be reached. -/
theorem reach_in {l : List Ar} {s : Nat} {S : Nat → Prop} (h0 : S s) (hS : ∀ m p q, mvFrom l m = some p → mvTo l m = some q → 0 < mvRoom l m → S p → S q) {n : Nat} (h : Reach l s n) : S n := by
  induction h with
  | here => exact h0
  | @along a ha _ hx ih =>
    obtain ⟨i, hi⟩ := List.getElem?_of_mem ha
    have e1 : 2 * i / 2 = i := by omega
    have e2 : 2 * i % 2 = 0 := by omega
    exact hS (2 * i) a.u a.v (by unfold mvFrom; rw [e1, hi, e2]; rfl) (by unfold mvTo; rw [e1, hi, e2]; rfl) (by unfold mvRoom; rw [e1, hi]; simp only [e2, if_true]; omega) ih
  | @back a ha _ hx ih =>
    obtain ⟨i, hi⟩ := List.getElem?_of_mem ha
    have e1 : (2 * i + 1) / 2 = i := by omega
    have e2 : (2 * i + 1) % 2 = 1 := by omega
    exact hS (2 * i + 1) a.v a.u (by unfold mvFrom; rw [e1, hi, e2]; rfl) (by unfold mvTo; rw [e1, hi, e2]; rfl) (by unfold mvRoom; rw [e1, hi]; simp only [e2]; exact hx) ih
end Go.Proofs.YtidpiokkfnhobaaGreat.v5

namespace Go.Proofs.YtidpiokkfnhobaaGreat.v5

/-- What can be reached, as a set. -/
noncomputable def reachB (l : List Ar) (s : Nat) (n : Nat) : Bool := @decide (Reach l s n) (Classical.propDecidable _)
theorem reachB_iff (l : List Ar) (s n : Nat) : reachB l s n = true ↔ Reach l s n := by unfold reachB; exact @decide_eq_true_iff _ (Classical.propDecidable _)
theorem reachB_no {l : List Ar} {s t : Nat} (h : ¬ Reach l s t) : reachB l s t = false := by
  rcases e : reachB l s t with _ | _
  · rfl
  · exact absurd ((reachB_iff l s t).1 e) h
/-- A flow of a net (its ends and capacities: e) that leaves no way to t; its value is v. -/
structure Gr (N : Nat) (e : List (Nat × Nat × Int)) (s t : Nat) (l : List Ar) (v : Int) : Prop where
  net : ends l = e
  flow : IsFlow N l s t
  val : gain l s = v
  done : ¬ Reach l s t
section
variable {N s t : Nat} {e : List (Nat × Nat × Int)} {l m : List Ar} {v w : Int}
theorem Gr.cut (h : Gr N e s t l v) (hs : s < N) : v = capS l (reachB l s) ∧ (∀ S : Nat → Bool, S s = true → S t = false → v ≤ capS l S) ∧ ∀ S : Nat → Bool, S s = true → S t = false → capS l S = v → ∀ n, Reach l s n → S n = true := by
  obtain ⟨g1, g2, g3⟩ := h.flow.greatest hs (reachB_iff l s) (reachB_no h.done)
  rw [h.val] at g1
  exact ⟨g1, fun S a b => by have := g2 S a b; omega, fun S a b c n hn => g3 S a b (by omega) n ((reachB_iff l s n).2 hn)⟩
/-- No flow of the net has a greater value. -/
theorem Gr.le (h : Gr N e s t l v) (hs : s < N) (k : IsFlow N m s t) (he : ends m = e) : gain m s ≤ v := by
  obtain ⟨g1, -, -⟩ := h.cut hs
  have h2 := k.le_cut (S := reachB l s) hs ((reachB_iff l s s).2 Reach.here) (reachB_no h.done)
  rw [capS_ends (he.trans h.net.symm)] at h2
  omega
/-- A greatest flow is there if a flow is, and a set that holds s and not t has its value as its capacity. -/
theorem Gr.of_cut (k : IsFlow N l s t) (he : ends l = e) (hs : s < N) {S : Nat → Bool} (h1 : S s = true) (h2 : S t = false) (h3 : capS l S ≤ gain l s) : Gr N e s t l (gain l s) := by
  refine ⟨he, k, rfl, fun hr => ?_⟩
  have hx := k.across hs h1 h2
  have := Reach.mem (shut_of k.fits (by omega)) h1 hr
  rw [h2] at this; cases this
end
/-- An arc's capacity is lowered to what it carries, or raised: the sums of cuts. -/
def setCap (l : List Ar) (i : Nat) (c : Int) : List Ar := l.modify i fun a => { a with cap := c }
theorem setCap_get {l : List Ar} {i : Nat} {c : Int} (j : Nat) : (setCap l i c)[j]? = if i = j then (l[j]?).map (fun a => { a with cap := c }) else l[j]? := by
  unfold setCap
  rw [List.getElem?_modify]
  by_cases h : i = j
  · simp only [if_pos h]; cases l[j]? <;> rfl
  · simp only [if_neg h]; cases l[j]? <;> rfl
theorem setCap_gain (c : Int) : ∀ (l : List Ar) (i n : Nat), gain (setCap l i c) n = gain l n
  | [], _, _ => by simp [setCap]
  | a :: l, 0, n => by
    show gain ({ a with cap := c } :: l) n = _
    rw [gain_cons, gain_cons]
  | a :: l, i + 1, n => by
    show gain (a :: setCap l i c) n = _
    rw [gain_cons, gain_cons, setCap_gain c l i n]
theorem setCap_mem {l : List Ar} {i : Nat} {c : Int} {b : Ar} (hb : b ∈ setCap l i c) : b ∈ l ∨ ∃ a, l[i]? = some a ∧ b = { a with cap := c } := by
  obtain ⟨j, hj⟩ := List.getElem?_of_mem hb
  rw [setCap_get] at hj
  by_cases e : i = j
  · subst e
    rw [if_pos rfl] at hj
    obtain ⟨a, ha, rfl⟩ := Option.map_eq_some_iff.1 hj
    exact .inr ⟨a, ha, rfl⟩
  · rw [if_neg e] at hj
    exact .inl (List.mem_of_getElem? hj)
theorem setCap_flow {N s t : Nat} {l : List Ar} (h : IsFlow N l s t) {i : Nat} {c : Int} (hc : ∀ a, l[i]? = some a → a.x ≤ c) : IsFlow N (setCap l i c) s t := by
  refine ⟨fun b hb => ?_, fun b hb => ?_, fun n hn h1 h2 => ?_⟩
  · rcases setCap_mem hb with hb | ⟨a, ha, rfl⟩
    · exact h.nodes b hb
    · exact h.nodes a (List.mem_of_getElem? ha)
  · rcases setCap_mem hb with hb | ⟨a, ha, rfl⟩
    · exact h.fits b hb
    · exact ⟨(h.fits a (List.mem_of_getElem? ha)).1, hc a ha⟩
  · rw [setCap_gain]; exact h.even n hn h1 h2
theorem setCap_cut {c : Int} (S : Nat → Bool) : ∀ {l : List Ar} {i : Nat} {a : Ar}, l[i]? = some a → capS (setCap l i c) S = capS l S + (if S a.u && !S a.v then c - a.cap else 0)
  | [], i, a, h => by simp at h
  | b :: l, 0, a, h => by
    obtain rfl : b = a := by simpa using h
    show capS ({ b with cap := c } :: l) S = _
    rw [capS_cons, capS_cons]
    cases S b.u <;> cases S b.v <;> simp <;> omega
  | b :: l, i + 1, a, h => by
    show capS (b :: setCap l i c) S = _
    rw [capS_cons, capS_cons, setCap_cut S (l := l) (i := i) (a := a) (by simpa using h)]; omega
/-- An arc that carries nothing can be left without its capacity: the same flow is a greatest one. -/
theorem Gr.idle {N s t : Nat} {e : List (Nat × Nat × Int)} {l : List Ar} {v : Int} (h : Gr N e s t l v) (hs : s < N) {i : Nat} {a : Ar} (ha : l[i]? = some a) (hx : a.x = 0) : Gr N (ends (setCap l i 0)) s t (setCap l i 0) v := by
  have hf : IsFlow N (setCap l i 0) s t := setCap_flow h.flow (fun b hb => by rw [ha] at hb; injection hb with hb; subst hb; omega)
  have hv : gain (setCap l i 0) s = v := by rw [setCap_gain]; exact h.val
  obtain ⟨g1, -, -⟩ := h.cut hs
  have hcap := (h.flow.fits a (List.mem_of_getElem? ha))
  have := Gr.of_cut hf rfl hs (S := reachB l s) ((reachB_iff l s s).2 Reach.here) (reachB_no h.done) (by rw [setCap_cut _ ha, hv]; split <;> omega)
  rw [hv] at this
  exact this
/-- A capacity that is greater by k makes the greatest value greater by at most k, and not less. -/
theorem Gr.more {N s t : Nat} {e e' : List (Nat × Nat × Int)} {l m : List Ar} {v w k : Int} (h : Gr N e s t l v) (hs : s < N) {i : Nat} {a : Ar} (ha : l[i]? = some a) (hk : 0 ≤ k) (he : e' = ends (setCap l i (a.cap + k))) (h' : Gr N e' s t m w) : v ≤ w ∧ w ≤ v + k := by
  have hf : IsFlow N (setCap l i (a.cap + k)) s t := setCap_flow h.flow (fun b hb => by rw [ha] at hb; injection hb with hb; subst hb; have := h.flow.fits a (List.mem_of_getElem? ha); omega)
  have h1 := h'.le hs hf he.symm
  rw [setCap_gain, h.val] at h1
  refine ⟨h1, ?_⟩
  obtain ⟨-, g2, -⟩ := h'.cut hs
  have h2 := g2 (reachB l s) ((reachB_iff l s s).2 Reach.here) (reachB_no h.done)
  rw [capS_ends (h'.net.trans he), setCap_cut _ ha] at h2
  obtain ⟨g1, -, -⟩ := h.cut hs
  split at h2 <;> omega
/-- An arc without capacity may be left out. -/
theorem gain_erase : ∀ {l : List Ar} {i : Nat} {a : Ar}, l[i]? = some a → a.x = 0 → ∀ n, gain (l.eraseIdx i) n = gain l n
  | [], i, a, h, _ => by simp at h
  | b :: l, 0, a, h, hx => fun n => by
    obtain rfl : b = a := by simpa using h
    show gain l n = _
    rw [gain_cons, hx]; simp
  | b :: l, i + 1, a, h, hx => fun n => by
    show gain (b :: l.eraseIdx i) n = _
    rw [gain_cons, gain_cons, gain_erase (l := l) (i := i) (a := a) (by simpa using h) hx n]
theorem capS_erase (S : Nat → Bool) : ∀ {l : List Ar} {i : Nat} {a : Ar}, l[i]? = some a → a.cap = 0 → capS (l.eraseIdx i) S = capS l S
  | [], i, a, h, _ => by simp at h
  | b :: l, 0, a, h, hx => by
    obtain rfl : b = a := by simpa using h
    show capS l S = _
    rw [capS_cons, hx]; simp
  | b :: l, i + 1, a, h, hx => by
    show capS (b :: l.eraseIdx i) S = _
    rw [capS_cons, capS_cons, capS_erase S (l := l) (i := i) (a := a) (by simpa using h) hx]
theorem ends_erase (l : List Ar) (i : Nat) : ends (l.eraseIdx i) = (ends l).eraseIdx i := by
  induction l generalizing i with
  | nil => rfl
  | cons a l ih =>
    cases i with
    | zero => rfl
    | succ i => exact congrArg (_ :: ·) (ih i)
theorem Gr.erase {N s t : Nat} {e : List (Nat × Nat × Int)} {l : List Ar} {v : Int} (h : Gr N e s t l v) (hs : s < N) {i : Nat} {a : Ar} (ha : l[i]? = some a) (hx : a.cap = 0) : Gr N (e.eraseIdx i) s t (l.eraseIdx i) v := by
  have hfa := h.flow.fits a (List.mem_of_getElem? ha)
  have hx0 : a.x = 0 := by omega
  have hf : IsFlow N (l.eraseIdx i) s t := ⟨fun b hb => h.flow.nodes b (List.mem_of_mem_eraseIdx hb), fun b hb => h.flow.fits b (List.mem_of_mem_eraseIdx hb), fun n hn h1 h2 => by rw [gain_erase ha hx0]; exact h.flow.even n hn h1 h2⟩
  have hv : gain (l.eraseIdx i) s = v := by rw [gain_erase ha hx0]; exact h.val
  obtain ⟨g1, -, -⟩ := h.cut hs
  have := Gr.of_cut hf rfl hs (S := reachB l s) ((reachB_iff l s s).2 Reach.here) (reachB_no h.done) (by rw [capS_erase _ ha hx, hv]; omega)
  rw [hv, ends_erase, h.net] at this
  exact this
end Go.Proofs.YtidpiokkfnhobaaGreat.v5

namespace Go.Proofs.YtidpiokkfnhobaaGreat.v5

/-- A way from a node to t, each node one further than the one before it. -/
inductive Way (l : List Ar) (far : Nat → Int) (t : Nat) : Nat → Prop
  | here : Way l far t t
  | step {m p q : Nat} : mvFrom l m = some p → mvTo l m = some q → 0 < mvRoom l m → far q = far p + 1 → Way l far t q → Way l far t p
/-- Where nodes without a way are struck, the others keep theirs. -/
theorem Way.kept {l : List Ar} {far far' : Nat → Int} {t : Nat} (hd : ∀ n, far' n ≠ far n → ¬ Way l far t n) {n : Nat} (h : Way l far t n) : far' n = far n ∧ Way l far' t n := by
  have keep : ∀ n, Way l far t n → far' n = far n := fun n h => Classical.byContradiction fun hn => hd n hn h
  refine ⟨keep n h, ?_⟩
  induction h with
  | here => exact Way.here
  | @step m p q h1 h2 h3 h4 h5 ih => exact Way.step h1 h2 h3 (by rw [keep q h5, keep p (Way.step h1 h2 h3 h4 h5)]; exact h4) ih
/-- What onward does when it lets nothing through: nothing flows otherwise, and the nodes that it strikes, and its own, have no way. -/
structure Dead (l : List Ar) (far far' : Nat → Int) (t : Nat) : Prop where
  struck : ∀ n, far' n ≠ far n → far' n = -1 ∧ ¬ Way l far t n
theorem Dead.refl (l : List Ar) (far : Nat → Int) (t : Nat) : Dead l far far t := ⟨fun _ h => absurd rfl h⟩
theorem Dead.way {l : List Ar} {far far' : Nat → Int} {t n : Nat} (h : Dead l far far' t) (hn : ¬ Way l far' t n) : ¬ Way l far t n := fun hw => hn (Way.kept (fun k hk => (h.struck k hk).2) hw).2
theorem Dead.trans {l : List Ar} {f g h : Nat → Int} {t : Nat} (h1 : Dead l f g t) (h2 : Dead l g h t) : Dead l f h t := by
  refine ⟨fun n hn => ?_⟩
  by_cases e : h n = g n
  · have := h1.struck n (by rw [← e]; exact hn)
    exact ⟨e.trans this.1, this.2⟩
  · have := h2.struck n e
    exact ⟨this.1, h1.way this.2⟩
/-- A node none of whose moves leads to a node with a way has none. -/
theorem no_way {l : List Ar} {far : Nat → Int} {t p : Nat} (hp : p ≠ t) (h : ∀ m q, mvFrom l m = some p → mvTo l m = some q → 0 < mvRoom l m → far q = far p + 1 → ¬ Way l far t q) : ¬ Way l far t p := by
  intro hw
  cases hw with
  | here => exact hp rfl
  | step h1 h2 h3 h4 h5 => exact h _ _ h1 h2 h3 h4 h5
/-- Distances from s: 0 at s alone; each further one is one more than that of a node from which a move leads; where a move leads, there is a distance. -/
structure IsFar (l : List Ar) (s : Nat) (far : Nat → Int) : Prop where
  low : ∀ n, -1 ≤ far n
  zero : ∀ n, far n = 0 ↔ n = s
  from_ : ∀ n, 0 < far n → ∃ m p, mvFrom l m = some p ∧ mvTo l m = some n ∧ 0 < mvRoom l m ∧ far n = far p + 1
  on : ∀ m p q, mvFrom l m = some p → mvTo l m = some q → 0 < mvRoom l m → 0 ≤ far p → 0 ≤ far q
theorem IsFar.way {l : List Ar} {s t : Nat} {far : Nat → Int} (h : IsFar l s far) : ∀ (k : Nat) (n : Nat), far n = (k : Int) → Way l far t n → Way l far t s
  | 0, n, hn, hw => by
    have := (h.zero n).1 hn
    subst this; exact hw
  | k + 1, n, hn, hw => by
    obtain ⟨m, p, h1, h2, h3, h4⟩ := h.from_ n (by omega)
    exact h.way k p (by omega) (Way.step h1 h2 h3 h4 hw)
theorem IsFar.no_way {l : List Ar} {s t : Nat} {far : Nat → Int} (h : IsFar l s far) (hn : ¬ Way l far t s) : far t = -1 := by
  rcases Int.lt_or_le (far t) 0 with h1 | h1
  · have := h.low t; omega
  · exact absurd (h.way (far t).toNat t (by omega) Way.here) hn
theorem IsFar.reach {l : List Ar} {s : Nat} {far : Nat → Int} (h : IsFar l s far) : ∀ (k : Nat) (n : Nat), far n = (k : Int) → Reach l s n
  | 0, n, hn => by
    have := (h.zero n).1 hn
    subst this; exact Reach.here
  | k + 1, n, hn => by
    obtain ⟨m, p, h1, h2, h3, h4⟩ := h.from_ n (by omega)
    exact reach_move h1 h2 h3 (h.reach k p (by omega))
/-- The distances say what can be reached. -/
theorem IsFar.iff {l : List Ar} {s : Nat} {far : Nat → Int} (h : IsFar l s far) (n : Nat) : Reach l s n ↔ far n ≠ -1 := by
  have hl := h.low n
  refine ⟨fun hr => ?_, fun hn => h.reach (far n).toNat n (by omega)⟩
  have := reach_in (S := fun n => 0 ≤ far n) (by rw [(h.zero s).2 rfl]; exact Int.le_refl _) h.on hr
  omega
/-- More through a net: a flow of the same ends whose value is greater by what was sent. -/
theorem IsFlow.sent {N s t : Nat} {l l' : List Ar} {d : Int} (h : IsFlow N l s t) (hst : s ≠ t) (he : ends l' = ends l) (hf : Fits l') (hg : ∀ n, gain l' n = gain l n + ((if s = n then d else 0) - (if t = n then d else 0))) : IsFlow N l' s t ∧ gain l' s = gain l s + d := by
  refine ⟨⟨fun a ha => ?_, hf, fun n hn h1 h2 => ?_⟩, ?_⟩
  · obtain ⟨i, hi⟩ := List.getElem?_of_mem ha
    obtain ⟨b, hb, e1, e2, -⟩ := ends_get he hi
    have := h.nodes b (List.mem_of_getElem? hb)
    rw [e1, e2] at this
    exact this
  · rw [hg, h.even n hn h1 h2, if_neg (Ne.symm h1), if_neg (Ne.symm h2)]; rfl
  · rw [hg, if_pos rfl, if_neg (Ne.symm hst)]; omega
end Go.Proofs.YtidpiokkfnhobaaGreat.v5

namespace Go.Proofs.YtidpiokkfnhobaaGreat.v5

theorem mvFrom_send (l : List Ar) (m k : Nat) (d : Int) : mvFrom (mvSend l m d) k = mvFrom l k := by
  unfold mvFrom mvSend
  rw [upd_get]
  by_cases e : m / 2 = k / 2
  · rw [if_pos e]; cases l[k / 2]? <;> rfl
  · rw [if_neg e]
theorem mvTo_send (l : List Ar) (m k : Nat) (d : Int) : mvTo (mvSend l m d) k = mvTo l k := by
  unfold mvTo mvSend
  rw [upd_get]
  by_cases e : m / 2 = k / 2
  · rw [if_pos e]; cases l[k / 2]? <;> rfl
  · rw [if_neg e]
theorem mvRoom_other {l : List Ar} {m k : Nat} {d : Int} (h : k / 2 ≠ m / 2) : mvRoom (mvSend l m d) k = mvRoom l k := by
  unfold mvRoom mvSend
  rw [upd_get, if_neg (fun e => h e.symm)]
/-- The moves by which v is reached from s, from v back to s. -/
def Chain (l : List Ar) (s : Nat) : Nat → List Nat → Prop
  | v, [] => v = s
  | v, m :: ms => mvTo l m = some v ∧ ∃ u, mvFrom l m = some u ∧ Chain l s u ms
theorem Chain.send {l : List Ar} {s m : Nat} {d : Int} : ∀ {ms : List Nat} {v : Nat}, Chain l s v ms → Chain (mvSend l m d) s v ms
  | [], _, h => h
  | k :: ks, v, h => by
    obtain ⟨h1, u, h2, h3⟩ := h
    exact ⟨(mvTo_send l m k d).trans h1, u, (mvFrom_send l m k d).trans h2, h3.send⟩
/-- Sent along a way of different arcs that have room. -/
def sends (l : List Ar) (ms : List Nat) (d : Int) : List Ar := ms.foldl (fun l m => mvSend l m d) l
theorem chain_sends {s : Nat} {d : Int} (h0 : 0 ≤ d) : ∀ {ms : List Nat} {l : List Ar} {v : Nat}, Chain l s v ms → Fits l → (∀ m ∈ ms, d ≤ mvRoom l m) → (ms.map (· / 2)).Nodup →
    ends (sends l ms d) = ends l ∧ Fits (sends l ms d) ∧ ∀ n, gain (sends l ms d) n = gain l n + ((if s = n then d else 0) - (if v = n then d else 0))
  | [], l, v, hc, hf, _, _ => by
    obtain rfl : v = s := hc
    refine ⟨rfl, hf, fun n => ?_⟩
    show gain l n = _
    split <;> omega
  | m :: ms, l, v, hc, hf, hr, hn => by
    obtain ⟨h1, u, h2, h3⟩ := hc
    rw [List.map_cons, List.nodup_cons] at hn
    obtain ⟨g1, g2, g3⟩ := chain_sends h0 (l := mvSend l m d) (h3.send) (mvSend_fits hf h0 (hr m (by simp)))
      (fun k hk => by
        rw [mvRoom_other (fun e => hn.1 (by rw [← e]; exact List.mem_map_of_mem hk))]
        exact hr k (List.mem_cons_of_mem _ hk)) hn.2
    refine ⟨g1.trans (mvSend_ends l m d), g2, fun n => ?_⟩
    show gain (sends (mvSend l m d) ms d) n = _
    rw [g3 n, mvSend_gain h2 h1 n]
    omega
/-- Along a way with room the flow becomes greater. -/
theorem IsFlow.along {N s t : Nat} {l : List Ar} {d : Int} {ms : List Nat} (h : IsFlow N l s t) (hst : s ≠ t) (h0 : 0 ≤ d) (hc : Chain l s t ms) (hr : ∀ m ∈ ms, d ≤ mvRoom l m) (hn : (ms.map (· / 2)).Nodup) :
    IsFlow N (sends l ms d) s t ∧ gain (sends l ms d) s = gain l s + d ∧ ends (sends l ms d) = ends l := by
  obtain ⟨g1, g2, g3⟩ := chain_sends h0 hc h.fits hr hn
  obtain ⟨k1, k2⟩ := h.sent hst g1 g2 g3
  exact ⟨k1, k2, g1⟩
/-- Nothing flows. -/
theorem IsFlow.none {N s t : Nat} {l : List Ar} (h1 : ∀ a ∈ l, a.u < N ∧ a.v < N) (h2 : ∀ a ∈ l, a.x = 0 ∧ 0 ≤ a.cap) : IsFlow N l s t ∧ gain l s = 0 := by
  have hg : ∀ n, gain l n = 0 := by
    intro n
    clear h1
    induction l with
    | nil => rfl
    | cons a l ih => rw [gain_cons, ih (fun b hb => h2 b (List.mem_cons_of_mem _ hb)), (h2 a (by simp)).1]; simp
  exact ⟨⟨h1, fun a ha => by have := h2 a ha; omega, fun n _ _ _ => hg n⟩, hg s⟩
/-- A value is at most the sum of all capacities. -/
theorem value_bound {N s t : Nat} {l : List Ar} {M : Int} (h : IsFlow N l s t) (hs : s < N) (hst : s ≠ t) (hM : ∀ a ∈ l, a.cap ≤ M) (h0 : 0 ≤ M) : gain l s ≤ M * (l.length : Int) := by
  have h1 := h.le_cut (S := fun n => decide (n = s)) hs (by simp) (by simp [Ne.symm hst])
  have h2 : ∀ l : List Ar, (∀ a ∈ l, a.cap ≤ M) → capS l (fun n => decide (n = s)) ≤ M * (l.length : Int) := by
    intro l hl
    induction l with
    | nil => simp [capS]
    | cons a l ih =>
      have ha := hl a (by simp)
      have := ih (fun b hb => hl b (List.mem_cons_of_mem _ hb))
      rw [capS_cons, List.length_cons, show ((l.length + 1 : Nat) : Int) = (l.length : Int) + 1 by omega, Int.mul_add]
      split <;> omega
  exact Int.le_trans h1 (h2 l hM)
end Go.Proofs.YtidpiokkfnhobaaGreat.v5

namespace Go.Proofs.YtidpiokkfnhobaaGreat.v5

/-- Distances, while they are being found: each node that has one is done or waits. -/
structure Bfs (l : List Ar) (s : Nat) (far : Nat → Int) (done : Nat → Prop) : Prop where
  low : ∀ n, -1 ≤ far n
  zero : ∀ n, far n = 0 ↔ n = s
  from_ : ∀ n, 0 < far n → ∃ m p, mvFrom l m = some p ∧ mvTo l m = some n ∧ 0 < mvRoom l m ∧ far n = far p + 1
  on : ∀ m p q, mvFrom l m = some p → mvTo l m = some q → 0 < mvRoom l m → done p → 0 ≤ far q
theorem Bfs.start (l : List Ar) (s : Nat) : Bfs l s (fun n => if n = s then 0 else -1) fun _ => False :=
  ⟨fun n => by by_cases e : n = s <;> simp [e], fun n => by by_cases e : n = s <;> simp [e], fun n h => by by_cases e : n = s <;> simp [e] at h, fun _ _ _ _ _ _ h => h.elim⟩
/-- A node is found by a move from one that has a distance. -/
theorem Bfs.visit {l : List Ar} {s m p q : Nat} {far : Nat → Int} {done : Nat → Prop} (h : Bfs l s far done) (h1 : mvFrom l m = some p) (h2 : mvTo l m = some q) (hr : 0 < mvRoom l m) (hp : 0 ≤ far p) (hq : far q = -1) :
    Bfs l s (fun n => if n = q then far p + 1 else far n) done := by
  have hpq : p ≠ q := fun e => by subst e; omega
  have hsq : s ≠ q := fun e => by subst e; have := (h.zero s).2 rfl; omega
  refine ⟨fun n => ?_, fun n => ?_, fun n hn => ?_, fun m' p' q' g1 g2 g3 g4 => ?_⟩
  · have := h.low n
    show -1 ≤ if n = q then far p + 1 else far n
    split <;> omega
  · show (if n = q then far p + 1 else far n) = 0 ↔ n = s
    by_cases e : n = q
    · subst e
      rw [if_pos rfl]
      exact ⟨fun h => by omega, fun h => absurd h.symm hsq⟩
    · rw [if_neg e]; exact h.zero n
  · show ∃ m p', _ ∧ _ ∧ _ ∧ (if n = q then far p + 1 else far n) = (if p' = q then far p + 1 else far p') + 1
    by_cases e : n = q
    · subst e
      exact ⟨m, p, h1, h2, hr, by rw [if_pos rfl, if_neg hpq]⟩
    · have hn' : 0 < far n := by simpa [e] using hn
      obtain ⟨m', p', g1, g2, g3, g4⟩ := h.from_ n hn'
      refine ⟨m', p', g1, g2, g3, ?_⟩
      have : p' ≠ q := fun e' => by subst e'; omega
      rw [if_neg e, if_neg this, g4]
  · have := h.on m' p' q' g1 g2 g3 g4
    show 0 ≤ if q' = q then far p + 1 else far q'
    split <;> omega
/-- All moves of a node have been looked at. -/
theorem Bfs.finish {l : List Ar} {s p : Nat} {far : Nat → Int} {done : Nat → Prop} (h : Bfs l s far done) (hp : ∀ m q, mvFrom l m = some p → mvTo l m = some q → 0 < mvRoom l m → 0 ≤ far q) : Bfs l s far fun n => done n ∨ n = p :=
  ⟨h.low, h.zero, h.from_, fun m p' q g1 g2 g3 g4 => by
    rcases g4 with g4 | rfl
    · exact h.on m p' q g1 g2 g3 g4
    · exact hp m q g1 g2 g3⟩
theorem Bfs.far {l : List Ar} {s : Nat} {far : Nat → Int} {done : Nat → Prop} (h : Bfs l s far done) (hd : ∀ n, 0 ≤ far n → done n) : IsFar l s far :=
  ⟨h.low, h.zero, h.from_, fun m p q g1 g2 g3 g4 => h.on m p q g1 g2 g3 (hd p g4)⟩
/-- The reference's steps: each node but s that was reached has a move from one that was reached before it. -/
structure Steps (l : List Ar) (s : Nat) (is : Nat → Prop) (by_ : Nat → Nat) (rank : Nat → Nat) : Prop where
  here : is s
  step : ∀ v, is v → v ≠ s → ∃ u, mvFrom l (by_ v) = some u ∧ mvTo l (by_ v) = some v ∧ 0 < mvRoom l (by_ v) ∧ is u ∧ rank u < rank v
/-- The way back from a node: its moves have room and are of different arcs. -/
theorem Steps.chain {l : List Ar} {s : Nat} {is : Nat → Prop} {by_ rank : Nat → Nat} (h : Steps l s is by_ rank) : ∀ (k : Nat) (v : Nat), rank v ≤ k → is v →
    ∃ ms : List Nat, Chain l s v ms ∧ (∀ m ∈ ms, 0 < mvRoom l m ∧ ∃ w, m = by_ w ∧ is w ∧ w ≠ s ∧ rank w ≤ rank v) ∧ (ms.map (· / 2)).Nodup := by
  intro k
  induction k with
  | zero =>
    intro v hk hv
    by_cases e : v = s
    · exact ⟨[], e, fun m hm => (by cases hm), List.nodup_nil⟩
    · obtain ⟨u, -, -, -, -, g⟩ := h.step v hv e
      omega
  | succ k ih =>
    intro v hk hv
    by_cases e : v = s
    · exact ⟨[], e, fun m hm => (by cases hm), List.nodup_nil⟩
    · obtain ⟨u, g1, g2, g3, g4, g5⟩ := h.step v hv e
      obtain ⟨ms, c1, c2, c3⟩ := ih u (by omega) g4
      refine ⟨by_ v :: ms, ⟨g2, u, g1, c1⟩, fun m hm => ?_, ?_⟩
      · rcases List.mem_cons.1 hm with rfl | hm
        · exact ⟨g3, v, rfl, hv, e, Nat.le_refl _⟩
        · obtain ⟨d1, w, d2, d3, d4, d5⟩ := c2 m hm
          exact ⟨d1, w, d2, d3, d4, by omega⟩
      · rw [List.map_cons, List.nodup_cons]
        refine ⟨fun hm => ?_, c3⟩
        obtain ⟨m, hm, em⟩ := List.mem_map.1 hm
        obtain ⟨d1, w, rfl, d3, d4, d5⟩ := c2 m hm
        obtain ⟨x, f1, f2, f3, f4, f5⟩ := h.step w d3 d4
        have em' : by_ w / 2 = by_ v / 2 := em
        have hcase : by_ w = by_ v ∨ by_ w % 2 ≠ by_ v % 2 := by omega
        rcases hcase with hc | hc
        · rw [hc, g2] at f2
          injection f2 with f2
          subst f2
          omega
        · unfold mvFrom mvTo at *
          rw [em'] at f1 f2
          rcases ha : l[by_ v / 2]? with _ | a
          · rw [ha] at g1; cases g1
          · rw [ha] at g1 g2 f1 f2
            have p1 : by_ v % 2 = 0 ∨ by_ v % 2 = 1 := by omega
            have p2 : by_ w % 2 = 0 ∨ by_ w % 2 = 1 := by omega
            rcases p1 with p1 | p1 <;> rcases p2 with p2 | p2
            · omega
            · simp [p1, p2] at g1 g2 f1 f2
              subst g1 g2
              subst f1
              omega
            · simp [p1, p2] at g1 g2 f1 f2
              subst g1 g2
              subst f1
              omega
            · omega
end Go.Proofs.YtidpiokkfnhobaaGreat.v5

namespace Go.Proofs.YtidpiokkfnhobaaGreat.v5
set_option linter.unusedSimpArgs false
set_option linter.unusedVariables false

theorem ends_len {l l' : List Ar} (h : ends l = ends l') : l.length = l'.length := by
  have := congrArg List.length h
  simpa [ends] using this
theorem mvFrom_ends {l l' : List Ar} (h : ends l = ends l') (k : Nat) : mvFrom l k = mvFrom l' k := by
  unfold mvFrom
  rcases h1 : l[k / 2]? with _ | a
  · have : l'[k / 2]? = none := by rw [List.getElem?_eq_none_iff] at h1 ⊢; rw [← ends_len h]; exact h1
    rw [this]
  · obtain ⟨b, hb, e1, e2, -⟩ := ends_get h h1
    rw [hb]; simp [e1, e2]
theorem mvTo_ends {l l' : List Ar} (h : ends l = ends l') (k : Nat) : mvTo l k = mvTo l' k := by
  unfold mvTo
  rcases h1 : l[k / 2]? with _ | a
  · have : l'[k / 2]? = none := by rw [List.getElem?_eq_none_iff] at h1 ⊢; rw [← ends_len h]; exact h1
    rw [this]
  · obtain ⟨b, hb, e1, e2, -⟩ := ends_get h h1
    rw [hb]; simp [e1, e2]
theorem mvFrom_lt {l : List Ar} {k p : Nat} (h : mvFrom l k = some p) : k < 2 * l.length := by
  unfold mvFrom at h
  obtain ⟨a, ha, -⟩ := Option.map_eq_some_iff.1 h
  have := (List.getElem?_eq_some_iff.1 ha).1
  omega
theorem mvTo_some {l : List Ar} {k : Nat} (h : k < 2 * l.length) : ∃ q, mvTo l k = some q := by
  unfold mvTo
  rw [List.getElem?_eq_getElem (show k / 2 < l.length by omega)]
  exact ⟨_, rfl⟩
/-- The program's lists. -/
def rooms (l : List Ar) : List Int := (List.range (2 * l.length)).map (mvRoom l)
def endsI (l : List Ar) : List Int := (List.range (2 * l.length)).map fun k => (((mvTo l k).getD 0 : Nat) : Int)
def mvs (l : List Ar) (n : Nat) : List Nat := (List.range (2 * l.length)).filter fun k => mvFrom l k == some n
theorem rooms_len (l : List Ar) : (rooms l).length = 2 * l.length := by simp [rooms]
theorem endsI_len (l : List Ar) : (endsI l).length = 2 * l.length := by simp [endsI]
theorem rooms_get {l : List Ar} {k : Nat} (h : k < 2 * l.length) : (rooms l)[k]? = some (mvRoom l k) := by simp [rooms, h]
theorem endsI_get {l : List Ar} {k q : Nat} (h : mvTo l k = some q) (hk : k < 2 * l.length) : (endsI l)[k]? = some (q : Int) := by simp [endsI, hk, h]
theorem mvs_ends {l l' : List Ar} (h : ends l = ends l') (n : Nat) : mvs l n = mvs l' n := by
  unfold mvs; rw [ends_len h]; congr 1; funext k; rw [mvFrom_ends h]
theorem mem_mvs {l : List Ar} {n k : Nat} : k ∈ mvs l n ↔ mvFrom l k = some n := by
  unfold mvs
  rw [List.mem_filter, List.mem_range]
  exact ⟨fun h => by simpa using h.2, fun h => ⟨mvFrom_lt h, by simpa using h⟩⟩
theorem range_two (n : Nat) : List.range (2 * (n + 1)) = List.range (2 * n) ++ [2 * n, 2 * n + 1] := by
  rw [show 2 * (n + 1) = 2 * n + 1 + 1 by omega, List.range_succ, List.range_succ, List.append_assoc]; rfl
theorem snoc_old {l : List Ar} {a : Ar} {k : Nat} (h : k < 2 * l.length) : (l ++ [a])[k / 2]? = l[k / 2]? := List.getElem?_append_left (by omega)
theorem snoc_new {l : List Ar} {a : Ar} {k : Nat} (h : k / 2 = l.length) : (l ++ [a])[k / 2]? = some a := by rw [h]; simp
theorem rooms_snoc (l : List Ar) (a : Ar) : rooms (l ++ [a]) = rooms l ++ [a.cap - a.x, a.x] := by
  unfold rooms
  rw [List.length_append, List.length_singleton, range_two, List.map_append]
  congr 1
  · refine List.map_congr_left fun k hk => ?_
    rw [List.mem_range] at hk
    unfold mvRoom; rw [snoc_old hk]
  · simp only [List.map_cons, List.map_nil, mvRoom]
    rw [snoc_new (by omega), snoc_new (by omega)]
    simp only [show (2 * l.length) % 2 = 0 by omega, show (2 * l.length + 1) % 2 ≠ 0 by omega, if_true, if_false]
theorem endsI_snoc (l : List Ar) (a : Ar) : endsI (l ++ [a]) = endsI l ++ [(a.v : Int), (a.u : Int)] := by
  unfold endsI
  rw [List.length_append, List.length_singleton, range_two, List.map_append]
  congr 1
  · refine List.map_congr_left fun k hk => ?_
    rw [List.mem_range] at hk
    unfold mvTo; rw [snoc_old hk]
  · simp only [List.map_cons, List.map_nil, mvTo]
    rw [snoc_new (by omega), snoc_new (by omega)]
    simp
theorem mvs_snoc (l : List Ar) (a : Ar) (n : Nat) : mvs (l ++ [a]) n = mvs l n ++ ((if a.u = n then [2 * l.length] else []) ++ (if a.v = n then [2 * l.length + 1] else [])) := by
  unfold mvs
  rw [List.length_append, List.length_singleton, range_two, List.filter_append]
  congr 1
  · refine List.filter_congr fun k hk => ?_
    rw [List.mem_range] at hk
    unfold mvFrom; rw [snoc_old hk]
  · have e1 : mvFrom (l ++ [a]) (2 * l.length) = some a.u := by unfold mvFrom; rw [snoc_new (by omega)]; simp
    have e2 : mvFrom (l ++ [a]) (2 * l.length + 1) = some a.v := by unfold mvFrom; rw [snoc_new (by omega)]; simp
    rw [List.filter_cons, List.filter_cons, List.filter_nil, e1, e2]
    by_cases h1 : a.u = n <;> by_cases h2 : a.v = n <;> simp [h1, h2]
/-- The other move of an arc. -/
def flip (m : Nat) : Nat := if m % 2 = 0 then m + 1 else m - 1
theorem flip_half (m : Nat) : flip m / 2 = m / 2 ∧ flip m ≠ m ∧ flip m % 2 ≠ m % 2 := by unfold flip; split <;> omega
theorem rooms_send {l : List Ar} {m : Nat} {d : Int} (h : m < 2 * l.length) : rooms (mvSend l m d) = ((rooms l).set m (mvRoom l m - d)).set (flip m) (mvRoom l (flip m) + d) := by
  obtain ⟨f1, f2, f3⟩ := flip_half m
  have hl : (mvSend l m d).length = l.length := ends_len (mvSend_ends l m d)
  apply List.ext_getElem?
  intro k
  rcases Nat.lt_or_ge k (2 * l.length) with hk | hk
  · rw [rooms_get (by rw [hl]; exact hk), List.getElem?_set, List.getElem?_set, mvRoom_send (by omega), List.length_set, rooms_len, rooms_get hk]
    by_cases e1 : flip m = k
    · subst e1
      rw [if_pos rfl, if_pos hk, if_pos f1, if_neg f3]
    · rw [if_neg e1]
      by_cases e2 : m = k
      · subst e2
        rw [if_pos rfl, if_pos hk, if_pos rfl, if_pos rfl]
      · rw [if_neg e2, if_neg (by intro h; unfold flip at e1; split at e1 <;> omega)]
  · rw [List.getElem?_eq_none (by rw [rooms_len, hl]; exact hk), List.getElem?_eq_none (by simp [rooms_len]; exact hk)]
theorem mvSend_zero (l : List Ar) (m : Nat) : mvSend l m 0 = l := by
  unfold mvSend
  have : (if m % 2 = 0 then (0 : Int) else -0) = 0 := by split <;> rfl
  rw [this]
  apply List.ext_getElem?
  intro j
  rw [upd_get]
  split
  · cases l[j]? with
    | none => rfl
    | some a => simp
  · rfl
/-- Distances as a list. -/
def ff (F : List Int) (n : Nat) : Int := F[n]?.getD (-1)
theorem ff_at {F : List Int} {n : Nat} (h : n < F.length) : F[n]? = some (ff F n) := by unfold ff; rw [List.getElem?_eq_getElem h]; rfl
theorem ff_set {F : List Int} {k : Nat} {x : Int} (h : k < F.length) (n : Nat) : ff (F.set k x) n = if n = k then x else ff F n := by
  unfold ff
  rw [List.getElem?_set]
  by_cases e : k = n
  · subst e; simp [h]
  · rw [if_neg e, if_neg (fun h => e h.symm)]
/-- What onward has done: d more goes on from p to t. -/
structure Onw (t : Nat) (l : List Ar) (F : List Int) (p : Nat) (most : Int) (l' : List Ar) (F' : List Int) (d : Int) : Prop where
  lo : 0 ≤ d
  hi : d ≤ most
  ends : ends l' = ends l
  fits : Fits l'
  gain : ∀ n, gain l' n = gain l n + ((if p = n then d else 0) - (if t = n then d else 0))
  len : F'.length = F.length
  lev : ∀ n, ff F' n ≠ ff F n → ff F' n = -1 ∧ (n = p ∨ ff F p < ff F n)
  room : ∀ m p', mvFrom l m = some p' → ff F p' < ff F p → mvRoom l' m = mvRoom l m
  none : d = 0 → l' = l ∧ Dead l (ff F) (ff F') t ∧ ¬ Way l (ff F) t p
/-- While onward looks at the moves of p. -/
structure Mid (t : Nat) (l : List Ar) (F : List Int) (p : Nat) (most : Int) (pre : List Nat) (l1 : List Ar) (F1 : List Int) (left : Int) : Prop where
  lo : 0 ≤ left
  hi : left ≤ most
  ends : ends l1 = ends l
  fits : Fits l1
  gain : ∀ n, gain l1 n = gain l n + ((if p = n then most - left else 0) - (if t = n then most - left else 0))
  len : F1.length = F.length
  lev : ∀ n, ff F1 n ≠ ff F n → ff F1 n = -1 ∧ ff F p < ff F n
  room : ∀ m p', mvFrom l m = some p' → ff F p' < ff F p → mvRoom l1 m = mvRoom l m
  none : left = most → l1 = l ∧ Dead l (ff F) (ff F1) t ∧ ∀ m ∈ pre, ∀ q, mvTo l m = some q → 0 < mvRoom l m → ff F q = ff F p + 1 → ¬ Way l (ff F) t q
section
variable {t p : Nat} {l l1 l2 : List Ar} {F F1 F2 : List Int} {most left d : Int} {pre : List Nat} {m q : Nat}
theorem Mid.start (hf : Fits l) (hm : 0 ≤ most) : Mid t l F p most [] l F most :=
  ⟨hm, Int.le_refl _, rfl, hf, fun n => by simp, rfl, fun n h => absurd rfl h, fun _ _ _ _ => rfl, fun _ => ⟨rfl, Dead.refl _ _ _, fun m hm => by cases hm⟩⟩
theorem Mid.same (h : Mid t l F p most pre l1 F1 left) : ff F1 p = ff F p :=
  Classical.byContradiction fun hn => by have := (h.lev p hn).2; omega
theorem Mid.skip (h : Mid t l F p most pre l1 F1 left) (hr : mvRoom l1 m ≤ 0) : Mid t l F p most (pre ++ [m]) l1 F1 left :=
  ⟨h.lo, h.hi, h.ends, h.fits, h.gain, h.len, h.lev, h.room, fun e => by
    obtain ⟨e1, e2, e3⟩ := h.none e
    refine ⟨e1, e2, fun k hk q hq hr' hf => ?_⟩
    rcases List.mem_append.1 hk with hk | hk
    · exact e3 k hk q hq hr' hf
    · rw [List.mem_singleton] at hk; subst hk; rw [e1] at hr; omega⟩
theorem Mid.off (h : Mid t l F p most pre l1 F1 left) (h0 : 0 ≤ ff F p) (hq : mvTo l m = some q) (hne : ff F1 q ≠ ff F1 p + 1) : Mid t l F p most (pre ++ [m]) l1 F1 left :=
  ⟨h.lo, h.hi, h.ends, h.fits, h.gain, h.len, h.lev, h.room, fun e => by
    obtain ⟨e1, e2, e3⟩ := h.none e
    refine ⟨e1, e2, fun k hk q' hq' hr' hf => ?_⟩
    rcases List.mem_append.1 hk with hk | hk
    · exact e3 k hk q' hq' hr' hf
    · rw [List.mem_singleton] at hk
      subst hk
      rw [hq] at hq'
      injection hq' with hq'
      subst hq'
      rw [h.same] at hne
      exact (e2.struck q (by omega)).2⟩
theorem Mid.sent (h : Mid t l F p most pre l1 F1 left) (h0 : 0 ≤ ff F p) (hp : mvFrom l m = some p) (hq : mvTo l m = some q) (hf : ff F1 q = ff F1 p + 1) (ho : Onw t l1 F1 q (min left (mvRoom l1 m)) l2 F2 d) :
    Mid t l F p most (pre ++ [m]) (mvSend l2 m d) F2 (left - d) ∧ mvRoom l2 m = mvRoom l1 m := by
  have hs := h.same
  have hends : Go.Proofs.YtidpiokkfnhobaaGreat.v5.ends l2 = Go.Proofs.YtidpiokkfnhobaaGreat.v5.ends l := ho.ends.trans h.ends
  have hp1 : mvFrom l1 m = some p := (mvFrom_ends h.ends m).trans hp
  have hr : mvRoom l2 m = mvRoom l1 m := ho.room m p hp1 (by omega)
  have hlo := ho.lo
  have hhi := ho.hi
  have hp2 : mvFrom l2 m = some p := (mvFrom_ends hends m).trans hp
  have hq2 : mvTo l2 m = some q := (mvTo_ends hends m).trans hq
  refine ⟨⟨by omega, by have := h.hi; omega, (mvSend_ends l2 m d).trans hends, mvSend_fits ho.fits hlo (by omega), fun n => ?_, ho.len.trans h.len, fun n hn => ?_, fun k p' hk hl => ?_, fun e => ?_⟩, hr⟩
  · rw [mvSend_gain hp2 hq2, ho.gain, h.gain]
    by_cases e1 : p = n <;> by_cases e2 : q = n <;> by_cases e3 : t = n <;> simp [e1, e2, e3] <;> omega
  · by_cases e : ff F1 n = ff F n
    · obtain ⟨g1, g2⟩ := ho.lev n (by rw [e]; exact hn)
      refine ⟨g1, ?_⟩
      rcases g2 with g2 | g2
      · subst g2; omega
      · omega
    · obtain ⟨g1, g2⟩ := h.lev n e
      refine ⟨?_, g2⟩
      by_cases e2 : ff F2 n = ff F1 n
      · rw [e2]; exact g1
      · exact (ho.lev n e2).1
  · have hkp : k / 2 ≠ m / 2 ∨ k / 2 = m / 2 := by omega
    have hk1 : mvFrom l1 k = some p' := (mvFrom_ends h.ends k).trans hk
    have hlv : ff F1 p' < ff F1 q := by
      by_cases e : ff F1 p' = ff F p'
      · omega
      · have := (h.lev p' e).1; omega
    rcases hkp with hkp | hkp
    · rw [mvRoom_other hkp, ho.room k p' hk1 hlv, h.room k p' hk hl]
    · exfalso
      have hk2 : mvFrom l2 k = some p' := (mvFrom_ends hends k).trans hk
      have hcase : k % 2 = m % 2 ∨ k % 2 ≠ m % 2 := by omega
      unfold mvFrom at hk2 hp2
      unfold mvTo at hq2
      rw [hkp] at hk2
      obtain ⟨a, ha, e1⟩ := Option.map_eq_some_iff.1 hk2
      rw [ha] at hp2 hq2
      have hpq : p' = p ∨ p' = q := by
        injection hp2 with hp2
        injection hq2 with hq2
        rcases hcase with hc | hc
        · rw [hc] at e1; left; rw [← e1, ← hp2]
        · right
          rw [← e1, ← hq2]
          have : k % 2 = 0 ∨ k % 2 = 1 := by omega
          rcases this with h3 | h3
          · simp only [if_pos h3, if_neg (show ¬ m % 2 = 0 by omega)]
          · simp only [if_neg (show ¬ k % 2 = 0 by omega), if_pos (show m % 2 = 0 by omega)]
      rcases hpq with e | e
      · subst e; omega
      · subst e
        by_cases e4 : ff F1 p' = ff F p'
        · omega
        · have := (h.lev p' e4).1; omega
  · have hd : d = 0 := by have := h.hi; omega
    subst hd
    have hl : left = most := by omega
    obtain ⟨e1, e2, e3⟩ := h.none hl
    obtain ⟨g1, g2, g3⟩ := ho.none rfl
    subst e1
    subst g1
    rw [mvSend_zero]
    refine ⟨rfl, e2.trans g2, fun k hk q' hq' hr' hf' => ?_⟩
    rcases List.mem_append.1 hk with hk | hk
    · exact e3 k hk q' hq' hr' hf'
    · rw [List.mem_singleton] at hk
      subst hk
      rw [hq] at hq'
      injection hq' with hq'
      subst hq'
      exact e2.way g3
theorem Mid.done (h : Mid t l F p most pre l1 F1 left) (hall : 0 < left → pre = mvs l p) (hpt : p ≠ t) (hm : 0 < most) (hp : p < F.length) (F2 : List Int) (hF : F2 = if 0 < left then F1.set p (-1) else F1) : Onw t l F p most l1 F2 (most - left) := by
  have hlo := h.lo
  have hhi := h.hi
  have hp1 : p < F1.length := by rw [h.len]; exact hp
  have hff : ∀ n, ff F2 n = if n = p ∧ 0 < left then -1 else ff F1 n := by
    intro n
    rw [hF]
    by_cases e : 0 < left
    · rw [if_pos e, ff_set hp1]
      by_cases e2 : n = p
      · rw [if_pos e2, if_pos ⟨e2, e⟩]
      · rw [if_neg e2, if_neg (fun h => e2 h.1)]
    · rw [if_neg e, if_neg (fun h => e h.2)]
  refine ⟨by omega, by omega, h.ends, h.fits, h.gain, ?_, fun n hn => ?_, h.room, fun e => ?_⟩
  · rw [hF]; split
    · rw [List.length_set]; exact h.len
    · exact h.len
  · rw [hff] at hn ⊢
    by_cases e : n = p ∧ 0 < left
    · rw [if_pos e]; exact ⟨rfl, .inl e.1⟩
    · rw [if_neg e] at hn ⊢
      obtain ⟨g1, g2⟩ := h.lev n hn
      exact ⟨g1, .inr g2⟩
  · have hl : left = most := by omega
    obtain ⟨e1, e2, e3⟩ := h.none hl
    rw [hall (by omega)] at e3
    have hw : ¬ Way l (ff F) t p := no_way hpt fun m q g1 g2 g3 g4 => e3 m (mem_mvs.2 g1) q g2 g3 g4
    refine ⟨e1, ⟨fun n hn => ?_⟩, hw⟩
    rw [hff] at hn ⊢
    by_cases e4 : n = p ∧ 0 < left
    · rw [if_pos e4, e4.1]; exact ⟨rfl, hw⟩
    · rw [if_neg e4] at hn ⊢; exact e2.struck n hn
theorem Onw.end_ (hf : Fits l) (hm : 0 < most) : Onw t l F t most l F most :=
  ⟨by omega, Int.le_refl _, rfl, hf, fun n => by omega, rfl, fun n h => absurd rfl h, fun _ _ _ _ => rfl, fun e => by omega⟩
end
end Go.Proofs.YtidpiokkfnhobaaGreat.v5

namespace Go.Proofs.YtidpiokkfnhobaaGreat.v5
set_option linter.unusedSimpArgs false
set_option linter.unusedVariables false

theorem nodup_le : ∀ (N : Nat) (l : List Nat), l.Nodup → (∀ x ∈ l, x < N) → l.length ≤ N
  | 0, l, _, h => by
    cases l with
    | nil => exact Nat.le_refl _
    | cons a l => exact absurd (h a (by simp)) (Nat.not_lt_zero _)
  | N + 1, l, hn, h => by
    by_cases hm : N ∈ l
    · have h2 := nodup_le N (l.erase N) (hn.erase N) (fun x hx => by
        have h1 := h x (List.mem_of_mem_erase hx)
        have h3 : x ≠ N := fun e => by subst e; exact (List.Nodup.not_mem_erase hn) hx
        omega)
      rw [List.length_erase_of_mem hm] at h2
      omega
    · have h2 := nodup_le N l hn (fun x hx => by
        have h1 := h x hx
        have h3 : x ≠ N := fun e => by subst e; exact hm hx
        omega)
      omega
/-- D: done; P: the one that is looked at, or none; Q: those that wait. -/
structure DsP (l : List Ar) (s N : Nat) (D P Q : List Nat) (F : List Int) : Prop where
  bfs : Bfs l s (ff F) (· ∈ D)
  nd : (D ++ P ++ Q).Nodup
  mem : ∀ n, n ∈ D ++ P ++ Q ↔ 0 ≤ ff F n
  lev : ∀ n, ff F n ≤ (D.length : Int) + (P.length : Int)
  len : F.length = N
section
variable {l : List Ar} {s N p q m : Nat} {D P Q : List Nat} {F : List Int}
theorem ff_big {F : List Int} {n : Nat} (h : F.length ≤ n) : ff F n = -1 := by unfold ff; rw [List.getElem?_eq_none h]; rfl
theorem DsP.start (hs : s < N) : DsP l s N [] [] [s] ((List.replicate N (-1)).set s 0) := by
  have hf : ff ((List.replicate N (-1)).set s 0) = fun n => if n = s then 0 else -1 := by
    funext n
    rw [ff_set (by rw [List.length_replicate]; exact hs)]
    by_cases e : n = s
    · rw [if_pos e, if_pos e]
    · rw [if_neg e, if_neg e]
      unfold ff
      rw [List.getElem?_replicate]
      split <;> rfl
  refine ⟨?_, by simp, fun n => ?_, fun n => ?_, by simp⟩
  · rw [hf]
    have := Bfs.start l s
    exact ⟨this.low, this.zero, this.from_, fun m p q h1 h2 h3 h4 => by cases h4⟩
  · rw [hf]
    by_cases e : n = s <;> simp [e]
  · rw [hf]
    by_cases e : n = s <;> simp [e]
theorem DsP.pop (h : DsP l s N D [] (p :: Q) F) : DsP l s N D [p] Q F :=
  ⟨h.bfs, by have := h.nd; simpa using this, fun n => by have := h.mem n; simpa using this, fun n => by have := h.lev n; simp at this ⊢; omega, h.len⟩
theorem DsP.at_ (h : DsP l s N D [p] Q F) : 0 ≤ ff F p ∧ p < N := by
  have h1 := (h.mem p).1 (by simp)
  refine ⟨h1, ?_⟩
  rcases Nat.lt_or_ge p N with g | g
  · exact g
  · have := ff_big (F := F) (n := p) (by rw [h.len]; exact g); omega
theorem DsP.visit (h : DsP l s N D [p] Q F) (h1 : mvFrom l m = some p) (h2 : mvTo l m = some q) (hr : 0 < mvRoom l m) (hq : ff F q = -1) (hqN : q < N) (hl : ff F p ≤ (D.length : Int)) : DsP l s N D [p] (Q ++ [q]) (F.set q (ff F p + 1)) := by
  have hp := h.at_
  have hf : ff (F.set q (ff F p + 1)) = fun n => if n = q then ff F p + 1 else ff F n := by
    funext n; exact ff_set (by rw [h.len]; exact hqN) n
  have hb := h.bfs.visit h1 h2 hr hp.1 hq
  refine ⟨by rw [hf]; exact hb, ?_, fun n => ?_, fun n => ?_, by rw [List.length_set]; exact h.len⟩
  · rw [← List.append_assoc, List.nodup_append]
    refine ⟨h.nd, by simp, fun a ha b hb => ?_⟩
    rw [List.mem_singleton] at hb
    subst hb
    intro e
    subst e
    have := (h.mem a).1 ha
    omega
  · rw [← List.append_assoc, List.mem_append, h.mem n, List.mem_singleton, hf]
    by_cases e : n = q
    · simp [e]; omega
    · simp [e]
  · rw [hf]
    have := h.lev n
    simp at this ⊢
    split <;> omega
theorem DsP.finish (h : DsP l s N D [p] Q F) (hp : ∀ m q, mvFrom l m = some p → mvTo l m = some q → 0 < mvRoom l m → 0 ≤ ff F q) : DsP l s N (D ++ [p]) [] Q F := by
  have hb := h.bfs.finish hp
  refine ⟨⟨hb.low, hb.zero, hb.from_, fun m p' q g1 g2 g3 g4 => hb.on m p' q g1 g2 g3 (by simpa using g4)⟩, by have := h.nd; simpa using this, fun n => by have := h.mem n; simpa using this, fun n => by have := h.lev n; simp at this ⊢; omega, h.len⟩
theorem DsP.below (h : DsP l s N D P Q F) : D.length + P.length + Q.length ≤ N := by
  have := nodup_le N (D ++ P ++ Q) h.nd (fun x hx => by
    have h1 := (h.mem x).1 hx
    rcases Nat.lt_or_ge x N with g | g
    · exact g
    · have := ff_big (F := F) (n := x) (by rw [h.len]; exact g); omega)
  simpa [Nat.add_assoc] using this
theorem DsP.end_ (h : DsP l s N D [] [] F) : IsFar l s (ff F) ∧ ∀ n, ff F n ≤ (N : Int) := by
  refine ⟨h.bfs.far fun n hn => by have := (h.mem n).2 hn; simpa using this, fun n => ?_⟩
  have h1 := h.lev n
  have h2 := h.below
  simp at h1 h2
  omega
end
end Go.Proofs.YtidpiokkfnhobaaGreat.v5

namespace Go.Proofs.YtidpiokkfnhobaaGreat.v5
set_option linter.unusedSimpArgs false
set_option linter.unusedVariables false

def arOf (a : Int × Int × Int) : Ar := { u := a.1.toNat, v := a.2.1.toNat, cap := a.2.2, x := 0 }
def arsOf (L : List (Int × Int × Int)) : List Ar := L.map arOf
theorem arsOf_len (L : List (Int × Int × Int)) : (arsOf L).length = L.length := by simp [arsOf]
theorem arsOf_take {L : List (Int × Int × Int)} {k : Nat} {a : Int × Int × Int} (h : L[k]? = some a) : arsOf (L.take (k + 1)) = arsOf (L.take k) ++ [arOf a] := by
  obtain ⟨hk, e⟩ := List.getElem?_eq_some_iff.1 h
  rw [List.take_succ_eq_append_getElem hk, e]
  simp [arsOf]
def natsI (l : List Nat) : List Int := List.map (fun k : Nat => (k : Int)) l
/-- The lists of whole: ends, room, the moves of each node. -/
def cW (l : List Ar) : Nat → List Int
  | 0 => endsI l
  | 1 => rooms l
  | n + 2 => natsI (mvs l n)
def upc (c : Nat → List Int) (i : Nat) (x : List Int) : Nat → List Int := fun j => if j = i then c i ++ x else c j
theorem cW_nil (i : Nat) : cW [] i = [] := by
  match i with
  | 0 => rfl
  | 1 => rfl
  | n + 2 => rfl
theorem cW_snoc (l : List Ar) (a : Ar) : cW (l ++ [a]) = upc (upc (upc (upc (cW l) 0 [(a.v : Int), (a.u : Int)]) 1 [a.cap - a.x, a.x]) (a.u + 2) [2 * (l.length : Int)]) (a.v + 2) [2 * (l.length : Int) + 1] := by
  funext i
  match i with
  | 0 =>
    show endsI (l ++ [a]) = _
    rw [endsI_snoc]
    simp [upc, cW]
  | 1 =>
    show rooms (l ++ [a]) = _
    rw [rooms_snoc]
    simp [upc, cW]
  | n + 2 =>
    show natsI (mvs (l ++ [a]) n) = _
    rw [mvs_snoc]
    unfold natsI
    rw [List.map_append, List.map_append]
    by_cases h1 : a.u = n <;> by_cases h2 : a.v = n
    · subst h1
      simp [upc, cW, natsI, h2]
    · have h2' : ¬ (n = a.v) := fun e => h2 e.symm
      subst h1
      simp [upc, cW, natsI, h2, h2']
    · have h1' : ¬ (n = a.u) := fun e => h1 e.symm
      subst h2
      simp [upc, cW, natsI, h1, h1']
    · have h1' : ¬ (n = a.u) := fun e => h1 e.symm
      have h2' : ¬ (n = a.v) := fun e => h2 e.symm
      simp [upc, cW, natsI, h1, h2, h1', h2']
end Go.Proofs.YtidpiokkfnhobaaGreat.v5

namespace Go.Proofs.YtidpiokkfnhobaaGreat.v5
open Go.RowKit Go.Shelf
attribute [local go_sem] Oper.semAt_some
set_option maxRecDepth 100000

theorem below_join {B C : Nat} {a w w' : World} (h : Below B a w) (k : Below C w w') (hc : B ≤ C) : Below B a w' := h.trans (k.mono hc)
/-- Numbers, as a slice. -/
def IntSl (w : World) (v : Value) (l : List Int) : Prop :=
  ∃ A c, v = .slice A l.length c ∧ l.length ≤ c ∧ c ≤ maxLen ∧ (A = none → c = 0) ∧ (0 < l.length → ∃ b o, A = some ⟨b, o, none⟩ ∧ b < w.heap.size ∧ ∀ j x, l[j]? = some x → w.cell? ⟨b, o + j, none⟩ = some (.int .i64 x))
theorem IntSl.on {w w' : World} {v : Value} {l : List Int} {B : Nat} (h : IntSl w v l) (hb : Below B w w') (hB : w.heap.size ≤ B) : IntSl w' v l := by
  obtain ⟨A, c, h1, h2, h3, h5, h4⟩ := h
  refine ⟨A, c, h1, h2, h3, h5, fun h0 => ?_⟩
  obtain ⟨b, o, e, hlt, hc⟩ := h4 h0
  exact ⟨b, o, e, Nat.lt_of_lt_of_le hlt hb.size, fun j x hj => (hb.cell (p := ⟨b, o + j, none⟩) (by show b < B; omega)).trans (hc j x hj)⟩
theorem IntSl.nil (w : World) : IntSl w (.slice none 0 0) [] := ⟨none, 0, rfl, Nat.le_refl _, Nat.zero_le _, fun _ => rfl, fun h => absurd h (Nat.lt_irrefl _)⟩
theorem IntSl.shape {w : World} {v : Value} {l : List Int} (h : IntSl w v l) : ∃ A c, v = .slice A l.length c ∧ l.length ≤ c ∧ c ≤ maxLen := by
  obtain ⟨A, c, h1, h2, h3, -⟩ := h
  exact ⟨A, c, h1, h2, h3⟩
theorem IntSl.at_ {w : World} {v : Value} {l : List Int} (h : IntSl w v l) {k : Nat} {x : Int} (hk : l[k]? = some x) : ∃ b o c, v = .slice (some ⟨b, o, none⟩) l.length c ∧ b < w.heap.size ∧ l.length ≤ c ∧ c ≤ maxLen ∧ w.cell? ⟨b, o + k, none⟩ = some (.int .i64 x) := by
  obtain ⟨A, c, h1, h2, h3, -, h4⟩ := h
  obtain ⟨b, o, e, hlt, hc⟩ := h4 (by have := (List.getElem?_eq_some_iff.1 hk).1; omega)
  subst e
  exact ⟨b, o, c, h1, hlt, h2, h3, hc k x hk⟩
/-- Lists of numbers, as a slice of slices. -/
def LiSl (w : World) (v : Value) (ls : List (List Int)) : Prop :=
  ∃ A c, v = .slice A ls.length c ∧ ls.length ≤ c ∧ c ≤ maxLen ∧ (0 < ls.length → ∃ b o, A = some ⟨b, o, none⟩ ∧ b < w.heap.size ∧ ∀ j l, ls[j]? = some l → ∃ u, w.cell? ⟨b, o + j, none⟩ = some u ∧ IntSl w u l)
theorem LiSl.on {w w' : World} {v : Value} {ls : List (List Int)} {B : Nat} (h : LiSl w v ls) (hb : Below B w w') (hB : w.heap.size ≤ B) : LiSl w' v ls := by
  obtain ⟨A, c, h1, h2, h3, h4⟩ := h
  refine ⟨A, c, h1, h2, h3, fun h0 => ?_⟩
  obtain ⟨b, o, e, hlt, hc⟩ := h4 h0
  refine ⟨b, o, e, Nat.lt_of_lt_of_le hlt hb.size, fun j l hj => ?_⟩
  obtain ⟨u, hu, hl⟩ := hc j l hj
  exact ⟨u, (hb.cell (p := ⟨b, o + j, none⟩) (by show b < B; omega)).trans hu, hl.on hb hB⟩
theorem LiSl.shape {w : World} {v : Value} {ls : List (List Int)} (h : LiSl w v ls) : ∃ A c, v = .slice A ls.length c ∧ ls.length ≤ c ∧ c ≤ maxLen := by
  obtain ⟨A, c, h1, h2, h3, -⟩ := h
  exact ⟨A, c, h1, h2, h3⟩
theorem LiSl.at_ {w : World} {v : Value} {ls : List (List Int)} (h : LiSl w v ls) {k : Nat} {l : List Int} (hk : ls[k]? = some l) : ∃ b o c u, v = .slice (some ⟨b, o, none⟩) ls.length c ∧ b < w.heap.size ∧ ls.length ≤ c ∧ c ≤ maxLen ∧ w.cell? ⟨b, o + k, none⟩ = some u ∧ IntSl w u l := by
  obtain ⟨A, c, h1, h2, h3, h4⟩ := h
  obtain ⟨b, o, e, hlt, hc⟩ := h4 (by have := (List.getElem?_eq_some_iff.1 hk).1; omega)
  subst e
  obtain ⟨u, hu, hl⟩ := hc k l hk
  exact ⟨b, o, c, u, h1, hlt, h2, h3, hu, hl⟩
/-- Parts, as a slice. -/
def PtSl (w : World) (v : Value) (l : List (Int × Int × Int)) : Prop :=
  ∃ A c, v = .slice A l.length c ∧ l.length ≤ c ∧ c ≤ maxLen ∧ (0 < l.length → ∃ b o, A = some ⟨b, o, none⟩ ∧ b < w.heap.size ∧ ∀ j p, l[j]? = some p → w.cell? ⟨b, o + j * 3, none⟩ = some (.int .i64 p.1) ∧ w.cell? ⟨b, o + j * 3 + 1, none⟩ = some (.int .i64 p.2.1) ∧ w.cell? ⟨b, o + j * 3 + 2, none⟩ = some (.int .i64 p.2.2))
theorem PtSl.on {w w' : World} {v : Value} {l : List (Int × Int × Int)} {B : Nat} (h : PtSl w v l) (hb : Below B w w') (hB : w.heap.size ≤ B) : PtSl w' v l := by
  obtain ⟨A, c, h1, h2, h3, h4⟩ := h
  refine ⟨A, c, h1, h2, h3, fun h0 => ?_⟩
  obtain ⟨b, o, e, hlt, hc⟩ := h4 h0
  refine ⟨b, o, e, Nat.lt_of_lt_of_le hlt hb.size, fun j p hj => ?_⟩
  obtain ⟨c1, c2, c3⟩ := hc j p hj
  exact ⟨(hb.cell (p := ⟨b, o + j * 3, none⟩) (by show b < B; omega)).trans c1, (hb.cell (p := ⟨b, o + j * 3 + 1, none⟩) (by show b < B; omega)).trans c2, (hb.cell (p := ⟨b, o + j * 3 + 2, none⟩) (by show b < B; omega)).trans c3⟩
theorem PtSl.shape {w : World} {v : Value} {l : List (Int × Int × Int)} (h : PtSl w v l) : ∃ A c, v = .slice A l.length c ∧ l.length ≤ c ∧ c ≤ maxLen := by
  obtain ⟨A, c, h1, h2, h3, -⟩ := h
  exact ⟨A, c, h1, h2, h3⟩
theorem PtSl.at_ {w : World} {v : Value} {l : List (Int × Int × Int)} (h : PtSl w v l) {k : Nat} {p : Int × Int × Int} (hk : l[k]? = some p) : ∃ b o c, v = .slice (some ⟨b, o, none⟩) l.length c ∧ b < w.heap.size ∧ l.length ≤ c ∧ c ≤ maxLen ∧ w.cell? ⟨b, o + k * 3, none⟩ = some (.int .i64 p.1) ∧ w.cell? ⟨b, o + k * 3 + 1, none⟩ = some (.int .i64 p.2.1) ∧ w.cell? ⟨b, o + k * 3 + 2, none⟩ = some (.int .i64 p.2.2) := by
  obtain ⟨A, c, h1, h2, h3, h4⟩ := h
  obtain ⟨b, o, e, hlt, hc⟩ := h4 (by have := (List.getElem?_eq_some_iff.1 hk).1; omega)
  subst e
  exact ⟨b, o, c, h1, hlt, h2, h3, hc k p hk⟩
/-- The cells of some blocks stand. -/
structure KpG (Gd : Nat → Prop) (X Y : World) : Prop where
  size : X.heap.size ≤ Y.heap.size
  same : ∀ (k : Nat) (cs : Array Value) (t : TypeId) (fr : Nat × Nat), Gd k → X.heap[k]? = some (.cells cs t fr) → Y.heap[k]? = some (.cells cs t fr)
/-- An iterator's own steps: S: where its blocks begin; m: how many boxes of its own it has. -/
structure OwnIt (S m : Nat) (X Y : World) : Prop where
  os : Y.os = X.os
  tape : Y.tape = X.tape
  output : Y.output = X.output
  size : X.heap.size ≤ Y.heap.size
  same : ∀ (k : Nat) (o : Obj), X.heap[k]? = some o → (k < S ∨ (o.isCells = true ∧ S + m ≤ k)) → Y.heap[k]? = some o
/-- What a round that goes on keeps: the cells of some blocks and of the iterator's boxes; what is no cells from S on. -/
structure KpIt (S m : Nat) (Gd : Nat → Prop) (X Y : World) : Prop where
  size : X.heap.size ≤ Y.heap.size
  cells : ∀ (k : Nat) (cs : Array Value) (t : TypeId) (fr : Nat × Nat), (Gd k ∨ (S ≤ k ∧ k < S + m)) → X.heap[k]? = some (.cells cs t fr) → Y.heap[k]? = some (.cells cs t fr)
  others : ∀ (k : Nat) (o : Obj), S ≤ k → X.heap[k]? = some o → o.isCells = false → Y.heap[k]? = some o
section
variable {Gd : Nat → Prop} {S m : Nat} {X Y Z : World}
theorem at_lt {X : World} {b : Nat} {o : Obj} (h : X.heap[b]? = some o) : b < X.heap.size := (Array.getElem?_eq_some_iff.1 h).1
theorem KpG.refl (X : World) : KpG Gd X X := ⟨Nat.le_refl _, fun _ _ _ _ _ h => h⟩
theorem KpG.trans (h : KpG Gd X Y) (k : KpG Gd Y Z) : KpG Gd X Z := ⟨Nat.le_trans h.size k.size, fun i cs t fr g hi => k.same i cs t fr g (h.same i cs t fr g hi)⟩
theorem KpG.of_below {B : Nat} (h : Below B X Y) (hB : X.heap.size ≤ B) : KpG Gd X Y := ⟨h.size, fun k _ _ _ _ hk => (h.block k (Nat.lt_of_lt_of_le (at_lt hk) hB)).trans hk⟩
theorem OwnIt.refl (X : World) : OwnIt S m X X := ⟨rfl, rfl, rfl, Nat.le_refl _, fun _ _ h _ => h⟩
theorem OwnIt.trans (h : OwnIt S m X Y) (k : OwnIt S m Y Z) : OwnIt S m X Z := ⟨k.os.trans h.os, k.tape.trans h.tape, k.output.trans h.output, Nat.le_trans h.size k.size, fun i o hi ho => k.same i o (h.same i o hi ho) ho⟩
theorem OwnIt.of_below {B : Nat} (h : Below B X Y) (hB : X.heap.size ≤ B) : OwnIt S m X Y := ⟨h.os, h.tape, h.output, h.size, fun k _ hk _ => (h.block k (Nat.lt_of_lt_of_le (at_lt hk) hB)).trans hk⟩
theorem put_else {W : World} {l k : Nat} {o' : Obj} {o : Obj} (hk : W.heap[k]? = some o) (hne : k ≠ l) : (W.putObj l o').heap[k]? = some o := (World.putObj_heap_other hne).trans hk
theorem put_here {W : World} {l : Nat} {o : Obj} (o' : Obj) (hl : W.heap[l]? = some o) : (W.putObj l o').heap[l]? = some o' := World.putObj_heap_same (Array.getElem?_eq_some_iff.1 hl).1
theorem put_cells {l : Nat} {o o' : Obj} {k : Nat} {cs : Array Value} {T : TypeId} {fr : Nat × Nat} (hk : X.heap[k]? = some (.cells cs T fr)) (hl : X.heap[l]? = some o) (ho : o.isCells = false) : (X.putObj l o').heap[k]? = some (.cells cs T fr) :=
  put_else hk (fun e => by subst e; rw [hl] at hk; cases hk; cases ho)
theorem OwnIt.put {l : Nat} {o : Obj} (o' : Obj) (hS : S ≤ l) (hl : X.heap[l]? = some o) (ho : o.isCells = false) : OwnIt S m X (X.putObj l o') :=
  ⟨rfl, rfl, rfl, by simp, fun k u hk hu => put_else hk (fun e => by
    subst e
    rw [hl] at hk; cases hk
    rcases hu with h | h
    · omega
    · rw [ho] at h; cases h.1)⟩
theorem OwnIt.store {b : Nat} (h : S ≤ b) (h2 : b < S + m) (x : Value) (o : Nat) : OwnIt S m X (X.setCell ⟨b, o, none⟩ x) :=
  ⟨rfl, rfl, rfl, by simp [World.setCell], fun k u hk hu => by
    have hne : k ≠ b := by rcases hu with h1 | h1 <;> omega
    rw [Below.heap_setCell _ ⟨b, o, none⟩ x k hne]; exact hk⟩
theorem KpG.put {l : Nat} {o : Obj} (o' : Obj) (hl : X.heap[l]? = some o) (ho : o.isCells = false) : KpG Gd X (X.putObj l o') :=
  ⟨by simp, fun k cs t fr _ hk => put_cells hk hl ho⟩
theorem KpIt.refl (X : World) : KpIt S m Gd X X := ⟨Nat.le_refl _, fun _ _ _ _ _ h => h, fun _ _ _ h _ => h⟩
theorem KpIt.trans (h : KpIt S m Gd X Y) (k : KpIt S m Gd Y Z) : KpIt S m Gd X Z :=
  ⟨Nat.le_trans h.size k.size, fun i cs t fr g hi => k.cells i cs t fr g (h.cells i cs t fr g hi), fun i o hS hi ho => k.others i o hS (h.others i o hS hi ho) ho⟩
theorem KpIt.put {l : Nat} {o : Obj} (o' : Obj) (hS : l < S) (hl : X.heap[l]? = some o) (ho : o.isCells = false) : KpIt S m Gd X (X.putObj l o') :=
  ⟨by simp, fun k cs t fr _ hk => put_cells hk hl ho, fun k u hk hu _ => put_else hu (by omega)⟩
theorem KpIt.of_below {B : Nat} (h : Below B X Y) (hB : X.heap.size ≤ B) : KpIt S m Gd X Y :=
  ⟨h.size, fun k _ _ _ _ hk => (h.block k (Nat.lt_of_lt_of_le (at_lt hk) hB)).trans hk, fun k _ _ hk _ => (h.block k (Nat.lt_of_lt_of_le (at_lt hk) hB)).trans hk⟩
theorem KpIt.good (h : KpIt S m Gd X Y) : KpG Gd X Y := ⟨h.size, fun k cs t fr g hk => h.cells k cs t fr (.inl g) hk⟩
theorem KpIt.from (h : KpIt S m Gd X Y) : KeepsFrom S X Y := ⟨h.size, fun k o hS hk ho => h.others k o hS hk ho⟩
theorem kf_up {B B' : Nat} (h : KeepsFrom B X Y) (hB : B ≤ B') : KeepsFrom B' X Y := ⟨h.size, fun k o hk ho => h.same k o (by omega) ho⟩
theorem kf_put {B l : Nat} (o' : Obj) (hS : l < B) : KeepsFrom B X (X.putObj l o') := ⟨by simp, fun k u hk hu _ => put_else hu (by omega)⟩
theorem kf_below {A B : Nat} (h : Below B X Y) (hB : X.heap.size ≤ B) : KeepsFrom A X Y := ⟨h.size, fun k _ _ hk _ => (h.block k (Nat.lt_of_lt_of_le (at_lt hk) hB)).trans hk⟩
theorem kf_store {B b o : Nat} (x : Value) {cs : Array Value} {t : TypeId} {fr : Nat × Nat} (hb : X.heap[b]? = some (.cells cs t fr)) : KeepsFrom B X (X.setCell ⟨b, o, none⟩ x) :=
  ⟨by simp [World.setCell], fun k u _ hk hu => by
    have hne : k ≠ b := fun e => by subst e; rw [hb] at hk; cases hk; cases hu
    rw [Below.heap_setCell _ ⟨b, o, none⟩ x k hne]; exact hk⟩
theorem calls_wide {n : Nat} {P : Program} {f : FuncId} {args : Array Value} {w : World} {R : Ending → World → Prop} (h : Calls P f args w R) : CallsIn Fence.wide n P f args w R := callsIn_wide.2 h
end
/-- What an iterator is that asks before it yields: whatever holds between two rounds, abides the iterator's own steps and the elements that it leaves out, holds behind all rounds, or a round has left. -/
def SeqIt {α : Type} (n : Nat) (P : Program) (g : Nat) (lb : Array Value) (m : Nat) (Gd : Nat → Prop) (ok : Array Value → α → Prop) (op cl : World → α → Prop) (ts : List α) (w : World) : Prop :=
  ∀ (l : Nat) (J Jx : List α → World → Prop) (W : World), KpG Gd w W → l < W.heap.size →
    (∀ pre X Y, J pre X → OwnIt W.heap.size m X Y → J pre Y) → (∀ pre X Y, Jx pre X → OwnIt W.heap.size m X Y → Jx pre Y) →
    (∀ pre t X, J pre X → pre ++ [t] <+: ts → op X t ∨ cl X t) → (∀ pre t X, J pre X → pre ++ [t] <+: ts → cl X t → J (pre ++ [t]) X) →
    (∀ pre v t W1, J pre W1 → W.heap.size + m ≤ W1.heap.size → ok v t → op W1 t → pre ++ [t] <+: ts → YieldAt Fence.wide (n - 1) P l v W1 fun e W' =>
      (e = .returned (.bool true) ∧ J (pre ++ [t]) W' ∧ KpIt W.heap.size m Gd W1 W') ∨ (e = .returned (.bool false) ∧ Jx (pre ++ [t]) W' ∧ KeepsFrom W.heap.size W1 W')) →
    J [] W →
    CallsIn Fence.wide n P g (#[.func (.yield l) #[] #[]] ++ lb) W fun e W' => (∃ v, e = .returned v) ∧ (J ts W' ∨ ∃ pre, pre <+: ts ∧ Jx pre W')

theorem YieldAt.any {m : Nat} (m' : Nat) {P : Program} {l : Nat} {args : Array Value} {W : World} {R : Ending → World → Prop} (h : YieldAt Fence.wide m P l args W R) : YieldAt Fence.wide m' P l args W R := by
  obtain ⟨fn, tmps, assign, body, hy, hR⟩ := h
  exact ⟨fn, tmps, assign, body, hy, ⟨hR.1, fun c cs _ => hR.2 c cs (room_wide _)⟩⟩
section
variable {α : Type} {n : Nat} {P : Program}
theorem wpIn_it {g : Operand} {ps : Array Tmp} {assign body : Code} {Q : Exit → Act → World → Prop} {a : Act} {w : World}
    (h1 : 1 ≤ n) {gf : Nat} {lb : Array Value} (hg : a.eval g = .func (.func gf) #[] lb) (eg : ∀ args w, (callFunc gf args).run P w = .ok (.enter gf args) w)
    {m : Nat} {Gd : Nat → Prop} {ok : Array Value → α → Prop} {op cl : World → α → Prop} {ts : List α} {w0 : World} (hseq : SeqIt (n - 1) P gf lb m Gd ok op cl ts w0) (hb0 : KpG Gd w0 w) (hps : ∀ v t, ok v t → v.size = ps.size)
    (I : List α → World → Prop) (Ix : Code → List α → World → Prop)
    (hIE : ∀ pre X Y, I pre X → OwnIt (w.heap.size + 2) m X Y → I pre Y) (hXE : ∀ c pre X Y, Ix c pre X → OwnIt (w.heap.size + 2) m X Y → Ix c pre Y)
    (hIP : ∀ (pre : List α) (X : World) (l : Nat) (o o' : Obj), I pre X → l = w.heap.size ∨ l = w.heap.size + 1 → X.heap[l]? = some o → o.isCells = false → I pre (X.putObj l o'))
    (hXP : ∀ (c : Code) (pre : List α) (X : World) (l : Nat) (o o' : Obj), Ix c pre X → l = w.heap.size ∨ l = w.heap.size + 1 → X.heap[l]? = some o → o.isCells = false → Ix c pre (X.putObj l o'))
    (hOB : ∀ (t : α) (X Y : World), op X t → Below X.heap.size X Y → op Y t) (hOP : ∀ (t : α) (X : World) (l : Nat) (o o' : Obj), op X t → X.heap[l]? = some o → o.isCells = false → op (X.putObj l o') t)
    (hRd : ∀ pre t X, I pre X → pre ++ [t] <+: ts → op X t ∨ cl X t) (hSk : ∀ pre t X, I pre X → pre ++ [t] <+: ts → cl X t → I (pre ++ [t]) X)
    (h0 : I [] w)
    (hround : ∀ (l : Nat) (pre : List α) (v : Array Value) (t : α) (W : World) (K : Act → World → Prop), pre ++ [t] <+: ts → ok v t →
      (∀ (a' : Act) (W' : World), Below W.heap.size W W' → (∀ X : World, (∃ o o' : Obj, W'.heap[l]? = some o ∧ o.isCells = false ∧ X = W'.putObj l o') → w.heap.size + 2 + m ≤ X.heap.size → I pre X → op X t → body.wpIn (Fence.wide.inRound l) (n - 1 - 1) P (ownPostG w.heap.size (KpIt (w.heap.size + 2) m Gd) I Ix (pre ++ [t]) X) a' X) → K a' W') →
      assign.wpIn (Fence.wide.inRound l) (n - 1 - 1) P (Exit.then K (fun _ _ _ => False)) { tmps := (ps.zip v).foldl (fun t (p, v) => t.setIfInBounds p v) a.tmps, defers := [] } W)
    (hdone : ∀ (D : Nat) (W : World), D = w.heap.size → I ts W → W.heap[D]? = some (.deferred (some [])) → Q .normal { a with defers := { target := .collected D, args := #[] } :: a.defers } W)
    (hstop : ∀ (D : Nat) (c : Code) (pre : List α) (W : World), D = w.heap.size → pre <+: ts → Ix c pre W → W.heap[D]? = some (.deferred (some [])) → c.wpIn Fence.wide n P Q { a with defers := { target := .collected D, args := #[] } :: a.defers } W) :
    (Code.rangeFunc g ps assign body).wpIn Fence.wide n P Q a w := by
  refine wpIn_rangeFunc fun fn hfn => ?_
  let D := w.heap.size
  let rec0 : LoopState → Option Code → Loop := fun st pe => { state := st, pending := pe, fn, tmps := a.tmps, params := ps, assign, body, defers := D }
  obtain ⟨V, hV⟩ : ∃ V, (w.alloc (.deferred (some []))).alloc (.loop (rec0 .ready none)) = V := ⟨_, rfl⟩
  have sV : (w.alloc (.deferred (some []))).heap.size = D + 1 := World.size_alloc ..
  have sV2 : V.heap.size = w.heap.size + 2 := by rw [← hV, World.size_alloc, sV]
  have lV : V.heap[D + 1]? = some (.loop (rec0 .ready none)) := by
    have := World.alloc_heap_new (w.alloc (.deferred (some []))) (.loop (rec0 .ready none))
    rwa [sV, hV] at this
  have dV : V.heap[D]? = some (.deferred (some [])) := by
    rw [← hV]
    exact (Below.heap_alloc _ _ _ (by rw [sV]; exact Nat.lt_succ_self _)).trans (World.alloc_heap_new w _)
  have bV : Below w.heap.size w V := by rw [← hV]; exact ((Below.refl _ w).alloc (Nat.le_refl _) _).alloc (by rw [sV]; exact Nat.le_succ _) _
  have iV : I [] V := hIE _ _ _ h0 (OwnIt.of_below bV (Nat.le_refl _))
  refine ⟨D + 1, [{ target := .collected D, args := #[] }], V, { target := .fn (.func gf) lb, args := #[.func (.yield (D + 1)) #[] #[]] }, V, gf, #[.func (.yield (D + 1)) #[] #[]] ++ lb, V, ?_, ?_, ?_, ?_, fun _ => h1, ?_⟩
  · rw [← hV]; exact run_enterLoop_outer _ _ _ _ _
  · simp only [resolve, hg]; simp [go_sem]
  · intro f' hf'; trivial
  · simp [invoke, go_sem, eg]
  -- between two rounds the record is ready and nothing is deferred; a round that has left lays its jump
  refine (hseq (D + 1) (fun pre W => I pre W ∧ W.heap[D + 1]? = some (.loop (rec0 .ready none)) ∧ W.heap[D]? = some (.deferred (some [])))
    (fun pre W => ∃ c, Ix c pre W ∧ W.heap[D + 1]? = some (.loop (rec0 .done (some c))) ∧ W.heap[D]? = some (.deferred (some []))) V (hb0.trans (KpG.of_below bV (Nat.le_refl _))) (by rw [sV2]; exact Nat.lt_succ_self _)
    (fun pre X Y h hE => ?_) (fun pre X Y h hE => ?_) (fun pre t X h hp => hRd pre t X h.1 hp) (fun pre t X h hp hc => ⟨hSk pre t X h.1 hp hc, h.2⟩) ?_ ⟨iV, lV, dV⟩).mono ?_
  · rw [sV2] at hE
    exact ⟨hIE _ _ _ h.1 hE, hE.same _ _ h.2.1 (.inl (Nat.lt_succ_self _)), hE.same _ _ h.2.2 (.inl (by show w.heap.size < _; omega))⟩
  · rw [sV2] at hE
    obtain ⟨c, hc, hl, hd⟩ := h
    exact ⟨c, hXE _ _ _ _ hc hE, hE.same _ _ hl (.inl (Nat.lt_succ_self _)), hE.same _ _ hd (.inl (by show w.heap.size < _; omega))⟩
  · rw [sV2]
    rintro pre v t W ⟨hi, hl, hd⟩ hsz hv hop hpre
    refine ⟨fn, _, assign, body, run_yield hl (by simp [rec0, hps _ _ hv]), roundIn_of_wpIn hfn (hround (D + 1) pre v t W _ hpre hv fun a' W' hBW hbody => ⟨_, run_beginRound ((hBW.block _ (Array.getElem?_eq_some_iff.1 hl).1).trans hl) rfl, ?_⟩)⟩
    have hl1 := (hBW.block _ (Array.getElem?_eq_some_iff.1 hl).1).trans hl
    have hd1 := (hBW.block _ (Array.getElem?_eq_some_iff.1 hd).1).trans hd
    have hi1 := hIE pre W W' hi (OwnIt.of_below hBW (Nat.le_refl _))
    have hl2 := put_here (.loop { rec0 .ready none with state := .busy }) hl1
    have hd2 : (W'.putObj (D + 1) (.loop { rec0 .ready none with state := .busy })).heap[D]? = some (.deferred (some [])) := put_else hd1 (by omega)
    have hk2 : KpIt (w.heap.size + 2) m Gd W (W'.putObj (D + 1) (.loop { rec0 .ready none with state := .busy })) := (KpIt.of_below hBW (Nat.le_refl _)).trans (KpIt.put _ (by show w.heap.size + 1 < _; omega) hl1 rfl)
    have hk3 : KeepsFrom (w.heap.size + 2) W (W'.putObj (D + 1) (.loop { rec0 .ready none with state := .busy })) := (kf_below hBW (Nat.le_refl _)).trans (kf_put _ (by show w.heap.size + 1 < _; omega))
    refine wpIn_mono (hbody _ ⟨_, _, hl1, rfl, rfl⟩ (by simp; exact Nat.le_trans hsz hBW.size) (hIP _ _ _ _ _ hi1 (.inr rfl) hl1 rfl) (hOP _ _ _ _ _ (hOB _ _ _ hop hBW) hl1 rfl)) ?_
    generalize W'.putObj (D + 1) (.loop { rec0 .ready none with state := .busy }) = X at hl2 hd2 hk2 hk3
    -- the end of a round
    have fin : ∀ (jump : Option Code) (Y : World), KeepsFrom w.heap.size X Y → Y.heap[D + 1]? = some (.loop { rec0 .ready none with state := .busy }) ∧
        (Instr.endRound (D + 1) jump).run P Y = .ok (.bool jump.isNone) (Y.putObj (D + 1) (.loop (rec0 (if jump.isNone then .ready else .done) jump))) ∧
        (Y.putObj (D + 1) (.loop (rec0 (if jump.isNone then .ready else .done) jump))).heap[D + 1]? = some (.loop (rec0 (if jump.isNone then .ready else .done) jump)) ∧
        (Y.putObj (D + 1) (.loop (rec0 (if jump.isNone then .ready else .done) jump))).heap[D]? = some (.deferred (some [])) := fun jump Y hY => by
      have l3 := hY.same _ _ (Nat.le_succ _) hl2 rfl
      exact ⟨l3, run_endRound jump l3, put_here _ l3, put_else (hY.same _ _ (Nat.le_refl _) hd2 rfl) (by omega)⟩
    intro e a3 Y hp
    have left : ∀ c : Code, KeepsFrom w.heap.size X Y → Ix c (pre ++ [t]) Y → ∃ v w', (Instr.endRound (D + 1) (some c)).run P Y = .ok v w' ∧ ((Ending.returned v = .returned (.bool true) ∧ (I (pre ++ [t]) w' ∧ w'.heap[D + 1]? = some (.loop (rec0 .ready none)) ∧ w'.heap[D]? = some (.deferred (some []))) ∧ KpIt (w.heap.size + 2) m Gd W w') ∨
        (Ending.returned v = .returned (.bool false) ∧ (∃ c, Ix c (pre ++ [t]) w' ∧ w'.heap[D + 1]? = some (.loop (rec0 .done (some c))) ∧ w'.heap[D]? = some (.deferred (some []))) ∧ KeepsFrom (w.heap.size + 2) W w')) := fun c hY hx => by
      obtain ⟨l3, r3, l4, d4⟩ := fin (some c) Y hY
      exact ⟨_, _, r3, .inr ⟨rfl, ⟨c, hXP _ _ _ _ _ _ hx (.inr rfl) l3 rfl, l4, d4⟩, (hk3.trans (kf_up hY (by omega))).trans (kf_put _ (by show w.heap.size + 1 < _; omega))⟩⟩
    cases e with
    | normal =>
      obtain ⟨hY, hkp, hi3⟩ := hp
      obtain ⟨l3, r3, l4, d4⟩ := fin none Y hY
      exact ⟨_, _, r3, .inl ⟨rfl, ⟨hIP _ _ _ _ _ hi3 (.inr rfl) l3 rfl, l4, d4⟩, (hk2.trans hkp).trans (KpIt.put _ (by show w.heap.size + 1 < _; omega) l3 rfl)⟩⟩
    | ret => exact left .ret hp.1 hp.2
    | exit id => exact left (.exit id) hp.1 hp.2
    | goto t => exact left (.goto t) hp.1 hp.2
    | panic ch => exact hp.elim
    | outgrown => exact hp.elim
  · rintro e Y ⟨⟨v, rfl⟩, ⟨hi, hl, hd⟩ | ⟨pre, hpre, c, hx, hl, hd⟩⟩
    · exact ⟨none, _, run_endLoop hl (by simp [rec0]), hdone D _ rfl (hIP _ _ _ _ _ hi (.inr rfl) hl rfl) (put_else hd (by omega))⟩
    · exact ⟨some c, _, run_endLoop hl (by simp [rec0]), hstop D c pre _ rfl hpre (hXP _ _ _ _ _ _ hx (.inr rfl) hl rfl) (put_else hd (by omega))⟩
end
/-- All blocks but b stand. -/
structure But (b : Nat) (X Y : World) : Prop where
  os : Y.os = X.os
  tape : Y.tape = X.tape
  output : Y.output = X.output
  size : X.heap.size ≤ Y.heap.size
  same : ∀ (k : Nat) (o : Obj), k ≠ b → X.heap[k]? = some o → Y.heap[k]? = some o
section
variable {b : Nat} {X Y Z : World}
theorem But.refl (X : World) : But b X X := ⟨rfl, rfl, rfl, Nat.le_refl _, fun _ _ _ h => h⟩
theorem But.trans (h : But b X Y) (k : But b Y Z) : But b X Z := ⟨k.os.trans h.os, k.tape.trans h.tape, k.output.trans h.output, Nat.le_trans h.size k.size, fun i o ho hi => k.same i o ho (h.same i o ho hi)⟩
theorem But.of_below {B : Nat} (h : Below B X Y) (hB : X.heap.size ≤ B) : But b X Y := ⟨h.os, h.tape, h.output, h.size, fun k _ _ hk => (h.block k (Nat.lt_of_lt_of_le (at_lt hk) hB)).trans hk⟩
theorem But.store (x : Value) (o : Nat) : But b X (X.setCell ⟨b, o, none⟩ x) :=
  ⟨rfl, rfl, rfl, by simp [World.setCell], fun k u hne hk => by rw [Below.heap_setCell _ ⟨b, o, none⟩ x k hne]; exact hk⟩
theorem But.drewN (n : Nat) : But b X (X.drewN n) := ⟨rfl, rfl, rfl, Nat.le_refl _, fun _ _ _ h => h⟩
theorem But.drew : But b X X.drew := ⟨rfl, rfl, rfl, Nat.le_refl _, fun _ _ _ h => h⟩
theorem But.below {w : World} (h : But b X Y) (k : Below w.heap.size w X) (hb : w.heap.size ≤ b) : Below w.heap.size w Y := by
  refine ⟨h.os.trans k.os, h.tape.trans k.tape, h.output.trans k.output, Nat.le_trans k.size h.size, fun i hi => ?_⟩
  have hlt : i < X.heap.size := Nat.lt_of_lt_of_le hi k.size
  have h3 := Array.getElem?_eq_getElem hlt
  have := h.same i _ (by omega) h3
  rw [this, ← h3]
  exact k.block i hi
theorem But.good {Gd : Nat → Prop} (h : But b X Y) (hg : ∀ k, Gd k → k ≠ b) : KpG Gd X Y := ⟨h.size, fun k _ _ _ g hk => h.same k _ (hg k g) hk⟩
end
section
variable {Gd : Nat → Prop} {X Y : World}
theorem cell_kept {c o : Nat} {v : Value} (h : X.cell? ⟨c, o, none⟩ = some v) (hk : KpG Gd X Y) (g : Gd c) : Y.cell? ⟨c, o, none⟩ = some v := by
  obtain ⟨ob, hob, hcl⟩ := cells_of_cell h
  cases ob with
  | cells cs t fr => exact (World.cell?_of_block (a := ⟨c, o, none⟩) ((hk.same _ _ _ _ g hob).trans hob.symm)).trans h
  | _ => cases hcl
theorem IntSl.kept {w : World} {v : Value} {l : List Int} (h : IntSl w v l) (h1 : Below w.heap.size w X) (hk : KpG Gd X Y) (hg : ∀ k, k < w.heap.size → Gd k) : IntSl Y v l := by
  obtain ⟨A, c, h1', h2, h3, h5, h4⟩ := h
  refine ⟨A, c, h1', h2, h3, h5, fun h0 => ?_⟩
  obtain ⟨b, o, e, hlt, hc⟩ := h4 h0
  exact ⟨b, o, e, Nat.lt_of_lt_of_le hlt (Nat.le_trans h1.size hk.size), fun j x hj => cell_kept ((h1.cell (p := ⟨b, o + j, none⟩) hlt).trans (hc j x hj)) hk (hg b hlt)⟩
theorem LiSl.kept {w : World} {v : Value} {ls : List (List Int)} (h : LiSl w v ls) (h1 : Below w.heap.size w X) (hk : KpG Gd X Y) (hg : ∀ k, k < w.heap.size → Gd k) : LiSl Y v ls := by
  obtain ⟨A, c, h1', h2, h3, h4⟩ := h
  refine ⟨A, c, h1', h2, h3, fun h0 => ?_⟩
  obtain ⟨b, o, e, hlt, hc⟩ := h4 h0
  refine ⟨b, o, e, Nat.lt_of_lt_of_le hlt (Nat.le_trans h1.size hk.size), fun j l hj => ?_⟩
  obtain ⟨u, hu, hl⟩ := hc j l hj
  exact ⟨u, cell_kept ((h1.cell (p := ⟨b, o + j, none⟩) hlt).trans hu) hk (hg b hlt), hl.kept h1 hk hg⟩
theorem PtSl.kept {w : World} {v : Value} {l : List (Int × Int × Int)} (h : PtSl w v l) (h1 : Below w.heap.size w X) (hk : KpG Gd X Y) (hg : ∀ k, k < w.heap.size → Gd k) : PtSl Y v l := by
  obtain ⟨A, c, h1', h2, h3, h4⟩ := h
  refine ⟨A, c, h1', h2, h3, fun h0 => ?_⟩
  obtain ⟨b, o, e, hlt, hc⟩ := h4 h0
  refine ⟨b, o, e, Nat.lt_of_lt_of_le hlt (Nat.le_trans h1.size hk.size), fun j p hj => ?_⟩
  obtain ⟨c1, c2, c3⟩ := hc j p hj
  exact ⟨cell_kept ((h1.cell (p := ⟨b, o + j * 3, none⟩) hlt).trans c1) hk (hg b hlt), cell_kept ((h1.cell (p := ⟨b, o + j * 3 + 1, none⟩) hlt).trans c2) hk (hg b hlt), cell_kept ((h1.cell (p := ⟨b, o + j * 3 + 2, none⟩) hlt).trans c3) hk (hg b hlt)⟩
end
theorem one_cell {W : World} {b : Nat} {x0 : Value} {T : TypeId} (h : W.heap[b]? = some (.cells #[x0] T (0, 0))) : W.cell? ⟨b, 0, none⟩ = some x0 := by simp [World.cell?, h]
theorem row_new (W : World) (o : Obj) (b : Nat) (hb : b = W.heap.size) : (W.alloc o).heap[b]? = some o := by subst hb; exact heap_alloc_new W o
theorem old_heap {X : World} {b : Nat} {o : Obj} (o' : Obj) (h : X.heap[b]? = some o) : (X.alloc o').heap[b]? = some o := (Below.heap_alloc _ _ _ (at_lt h)).trans h
theorem cell_of {W : World} {b i : Nat} {cs : Array Value} {T : TypeId} {fr : Nat × Nat} {v : Value} (h : W.heap[b]? = some (.cells cs T fr)) (hi : cs[i]? = some v) : W.cell? ⟨b, i, none⟩ = some v := by simp [World.cell?, h, hi]
theorem ownsRow_block {X : World} {base : Nat} {e : TypeId} {size n g cap : Nat} {xs : List Value} (h : X.ownsRow base e size (.slice (some ⟨g, 0, none⟩) n cap) n xs) : ∃ cur, X.heap[g]? = some (.cells cur e (0, 0)) := by
  obtain ⟨k1, ⟨e, -⟩ | ⟨g', cap', cur, e, k3, k4, k⟩⟩ := h
  · cases e
  · injection e with e1 _ e2
    injection e1 with e1
    injection e1 with e1
    subst e1
    exact ⟨cur, k4⟩

/-- Numbers as cells. -/
def ints (l : List Int) : List Value := l.map fun x => .int .i64 x
theorem ints_snoc (l : List Int) (x : Int) : ints (l ++ [x]) = ints l ++ [.int .i64 x] := by simp [ints]
theorem own_intSl {w : World} {base : Nat} {v : Value} {l : List Int} (h : w.ownsRow base 3 1 v l.length (ints l)) : IntSl w v l := by
  have hc := h
  obtain ⟨k1, ⟨e, e2⟩ | ⟨g, cap, cur, e, k3, k4, k5, k6, k7, k8⟩⟩ := h
  · subst e
    obtain rfl : l = [] := List.eq_nil_of_length_eq_zero e2
    exact IntSl.nil w
  · subst e
    refine ⟨some ⟨g, 0, none⟩, cap, rfl, k5, k6, (by intro h; cases h), fun _ => ⟨g, 0, rfl, (Array.getElem?_eq_some_iff.1 k4).1, fun j x hj => ?_⟩⟩
    have hj' := (List.getElem?_eq_some_iff.1 hj).1
    rw [Nat.zero_add]
    have := hc.cellAt j (by simp; omega)
    rw [this]
    simp [ints, hj]
theorem below_own {w0 X Y : World} {S m : Nat} (h : Below w0.heap.size w0 X) (hE : OwnIt S m X Y) (hS : w0.heap.size ≤ S) : Below w0.heap.size w0 Y := by
  refine ⟨hE.os.trans h.os, hE.tape.trans h.tape, hE.output.trans h.output, Nat.le_trans h.size hE.size, fun k hk => ?_⟩
  have hlt : k < X.heap.size := Nat.lt_of_lt_of_le hk h.size
  have h3 := Array.getElem?_eq_getElem hlt
  have := hE.same k _ h3 (.inl (by omega))
  rw [this, ← h3]
  exact h.block k hk
theorem below_put {B l : Nat} {o' : Obj} {w X : World} (h : Below B w X) (hl : B ≤ l) : Below B w (X.putObj l o') :=
  ⟨h.os, h.tape, h.output, by simpa using h.size, fun k hk => (World.putObj_heap_other (by omega)).trans (h.block k hk)⟩
theorem own_row_kept {X Y : World} {base : Nat} {e : TypeId} {size n : Nat} {v : Value} {xs : List Value} (h : X.ownsRow base e size v n xs) (hs : ∀ g cur, v.ownBlock = some g → X.heap[g]? = some (.cells cur e (0, 0)) → Y.heap[g]? = some (.cells cur e (0, 0))) : Y.ownsRow base e size v n xs := by
  obtain ⟨k1, h | ⟨g, cap, cur, rfl, k3, k4, k⟩⟩ := h
  · exact ⟨k1, .inl h⟩
  · exact ⟨k1, .inr ⟨g, cap, cur, rfl, k3, hs g cur rfl k4, k⟩⟩
end Go.Proofs.YtidpiokkfnhobaaGreat.v5

namespace Go.Proofs.YtidpiokkfnhobaaGreat.v5
open Go.RowKit Go.Shelf
attribute [local go_sem] Oper.semAt_some
set_option maxRecDepth 100000

/-- One move is yielded. -/
def okN (v : Array Value) (x : Nat) : Prop := v = #[.int .i64 (x : Int)]
/-- A move has room, or none: R lies at ⟨b, o⟩. -/
def opR (b o : Nat) (X : World) (t : Nat) : Prop := ∃ x : Int, 0 < x ∧ X.cell? ⟨b, o + t, none⟩ = some (.int .i64 x)
def clR (b o : Nat) (X : World) (t : Nat) : Prop := ∃ x : Int, x ≤ 0 ∧ X.cell? ⟨b, o + t, none⟩ = some (.int .i64 x)
theorem cell_block {X : World} {b o : Nat} {v : Value} (h : X.cell? ⟨b, o, none⟩ = some v) : ∃ cs t fr, X.heap[b]? = some (.cells cs t fr) := by
  obtain ⟨ob, hob, hcl⟩ := cells_of_cell h
  cases ob with
  | cells cs t fr => exact ⟨cs, t, fr, hob⟩
  | _ => cases hcl
theorem opR.below {b o t : Nat} {X Y : World} (h : opR b o X t) (hb : Below X.heap.size X Y) : opR b o Y t := by
  obtain ⟨x, h0, h1⟩ := h
  obtain ⟨cs, T, fr, hc⟩ := cell_block h1
  exact ⟨x, h0, (hb.cell (p := ⟨b, o + t, none⟩) (at_lt hc)).trans h1⟩
theorem opR.put {b o t : Nat} {X : World} {l : Nat} {ob ob' : Obj} (h : opR b o X t) (hl : X.heap[l]? = some ob) (hc : ob.isCells = false) : opR b o (X.putObj l ob') t := by
  obtain ⟨x, h0, h1⟩ := h
  obtain ⟨cs, T, fr, hb⟩ := cell_block h1
  refine ⟨x, h0, ?_⟩
  rw [← h1]
  exact World.cell?_of_block ((put_cells hb hl hc).trans hb.symm)
theorem take_snoc {α : Type} {l : List α} {k : Nat} {x : α} (h : l[k]? = some x) : l.take (k + 1) = l.take k ++ [x] := by
  obtain ⟨hk, e⟩ := List.getElem?_eq_some_iff.1 h
  rw [List.take_succ_eq_append_getElem hk, e]
def nats (l : List Nat) : List Int := List.map (fun k : Nat => (k : Int)) l
theorem nats_get {l : List Nat} {k : Nat} {x : Nat} (h : l[k]? = some x) : (nats l)[k]? = some (x : Int) := by simp [nats, h]
theorem nats_len (l : List Nat) : (nats l).length = l.length := by simp [nats]
set_option maxHeartbeats 4000000 in
theorem c_leaving (E R M : Value) (n : Int) (w : World) :
    Calls Tryz.prog 117 #[.agg #[E, R, M], .int .i64 n] w fun e w' => e = .returned (.func (.func 128) #[] #[.pointer (some ⟨w.heap.size, 0, none⟩), .pointer (some ⟨w.heap.size + 1, 0, none⟩)]) ∧
      w' = (w.alloc (.cells #[E, R, M] 95)).alloc (.cells #[.int .i64 n] 3) := by
  go_enter Tryz.func117, Tryz.ntmps117
  go_wp2_with (fail)
  exact bodyPost_ret (by simp [results, go_sem]) rfl ⟨rfl, rfl⟩
/-- Between two rounds of leaving. -/
def LeI (Gd : Nat → Prop) (w : World) (S n : Nat) (ts : List Nat) (J : List Nat → World → Prop) (i : Value) (wr : World) : Prop :=
  ∃ (k : Nat) (pre : List Nat), i = .int .i64 (k : Int) ∧ k ≤ n ∧ Hid (pre = ts.take k) ∧ Hid (KpG Gd w wr) ∧ S ≤ wr.heap.size ∧ J pre wr
set_option maxHeartbeats 4000000 in
theorem c_leaving1 (d : Nat) (hd : 1 ≤ d) (Gd : Nat → Prop) (br bn bR oR nR cR bM oM nM cM : Nat) (E : Value) (p : Nat) (A : Option Addr) (c : Nat) (ts : List Nat) (RV : Value) (hn : ts.length ≤ 100000) (hp : p < nM ∧ nM ≤ cM ∧ cM ≤ maxLen) (hR : ∀ t ∈ ts, t < nR) (hRc : 0 < ts.length → RV = .slice (some ⟨bR, oR, none⟩) nR cR ∧ nR ≤ cR ∧ cR ≤ maxLen)
    (w : World) (gr : Gd br) (gn : Gd bn) (h1 : w.heap[br]? = some (.cells #[E, RV, .slice (some ⟨bM, oM, none⟩) nM cM] 95 (0, 0))) (h2 : Boxed w bn 3 (.int .i64 (p : Int)))
    (hM : ∀ X, KpG Gd w X → X.cell? ⟨bM, oM + p, none⟩ = some (.slice A ts.length c) ∧ IntSl X (.slice A ts.length c) (nats ts)) :
    SeqIt d Tryz.prog 128 #[.pointer (some ⟨br, 0, none⟩), .pointer (some ⟨bn, 0, none⟩)] 0 Gd okN (opR bR oR) (clR bR oR) ts w := by
  intro lp J Jx W hKW hlp hJE _ hrd hsk hY h0
  have hinit : LeI Gd w W.heap.size ts.length ts J (.int .i64 0) W := ⟨0, [], rfl, Nat.zero_le _, Lib.hid rfl, Lib.hid hKW, Nat.le_refl _, h0⟩
  have HY := Lib.hid hY
  have HJ := Lib.hid hJE
  have HRD := Lib.hid hrd
  have HSK := Lib.hid hsk
  have HI := Lib.hid hinit
  have HRC := Lib.hid hRc
  have HRL := Lib.hid hR
  have HX := Lib.hid (fun (X : World) (hX : KpG Gd w X) => (⟨cell_of (hX.same _ _ _ _ gr h1) rfl, (hM X hX).2⟩ : X.cell? ⟨br, 1, none⟩ = some RV ∧ IntSl X (.slice A ts.length c) (nats ts)))
  have x0 : W.cell? ⟨br, 2, none⟩ = some (.slice (some ⟨bM, oM, none⟩) nM cM) := cell_of (hKW.same _ _ _ _ gr h1) rfl
  have x1 : W.cell? ⟨bn, 0, none⟩ = some (.int .i64 (p : Int)) := (show Boxed W bn 3 (.int .i64 (p : Int)) from hKW.same _ _ _ _ gn h2).cell
  have x2 := (hM W hKW).1
  have hsh : ts.length ≤ c ∧ c ≤ maxLen := by
    obtain ⟨A', c', e, g1, g2⟩ := (hM W hKW).2.shape
    injection e with e1 e2 e3
    subst e3
    rw [nats_len] at g1
    exact ⟨g1, g2⟩
  unfold maxLen at hp hsh
  have hpl' : (p : Int) < (nM : Int) := by omega
  clear hinit hY hJE h0 hrd hsk hR hRc h1 h2 hKW hM
  refine callsIn_of_wp Tryz.func128 rfl trivial ?_ rfl
  simp only [Tryz.ntmps128, List.size_toArray, List.length_cons, List.length_nil, Nat.reduceAdd, Nat.reduceSub, Array.replicate_succ, Array.replicate_zero, List.push_toArray, List.append_toArray, List.nil_append, List.cons_append]
  gi_wp2_with (fail)
  gi_loopw [12] (fun i wr => LeI Gd w W.heap.size ts.length ts J i wr) (fun i wr => ts.length - (intOf i).toNat)
  case atStart => exact HI.out
  case round =>
    obtain ⟨k, pre, rfl, hk, hpre, hK, hsz, hj⟩ := hrel
    have HJr := Lib.hid hj
    have hki : ((k : Nat) : Int).toNat = k := by omega
    by_cases hlt : k < ts.length
    · obtain ⟨z, hz⟩ : ∃ z, ts[k]? = some z := ⟨_, List.getElem?_eq_getElem hlt⟩
      obtain ⟨y0, hI⟩ := HX.out wr hK.out
      obtain ⟨hrv, hr1, hr2⟩ := HRC.out (by omega)
      rw [hrv] at y0
      unfold maxLen at hr2
      clear hrv
      obtain ⟨b, o, c', e, hb, -, -, hcell⟩ := hI.at_ (nats_get hz)
      injection e with e1 hle e2
      clear hle
      subst e1 e2
      have hkl : (k : Int) < (ts.length : Int) := by omega
      have hzr : (z : Int) < (nR : Int) := by have := HRL.out z (List.mem_of_getElem? hz); omega
      have HPR := Lib.hid (show pre ++ [z] = ts.take (k + 1) by rw [hpre.out, take_snoc hz])
      have HPF := Lib.hid (show pre ++ [z] <+: ts by rw [HPR.out]; exact List.take_prefix _ _)
      rcases HRD.out pre z wr HJr.out HPF.out with ⟨x, hx, hcx⟩ | ⟨x, hx, hcx⟩
      · obtain ⟨fn, tmps, assign, body, hy, hR⟩ := HY.out pre #[.int .i64 z] z wr HJr.out hsz rfl ⟨x, hx, hcx⟩ HPF.out
        clear hj hz x0 x1 x2 hI
        have hgt : decide (0 < x) = true := decide_eq_true hx
        gi_wp2_with (fail)
        refine hR.mono ?_
        rintro e W3 (⟨rfl, hJ3, hk3⟩ | ⟨rfl, hJx3, -⟩)
        · have HJ3 := Lib.hid hJ3
          have HK3 := Lib.hid (hK.out.trans hk3.good)
          have hz3 := Nat.le_trans hsz hk3.size
          clear hJ3 hy hk3 hcx y0 hcell
          gi_wp2_with (fail)
          refine ⟨⟨k + 1, pre ++ [z], by go_num, by omega, HPR, HK3, hz3, HJ3.out⟩, ?_⟩
          simp only [intOf]; omega
        · have Hx := Lib.hid hJx3
          clear hJx3 hy hcx y0 hcell
          gi_wp2_with (fail)
          refine bodyPost_ret (results_none rfl _ _ _) rfl ?_
          exact ⟨⟨_, rfl⟩, .inr ⟨_, HPF.out, Hx.out⟩⟩
      · have HJS := Lib.hid (HSK.out pre z wr HJr.out HPF.out ⟨x, hx, hcx⟩)
        clear hj hz x0 x1 x2 hI
        have hgt : decide (0 < x) = false := decide_eq_false (by omega)
        gi_wp2_with (fail)
        refine ⟨fun f hf => (by cases hf), ?_⟩
        gi_wp2_with (fail)
        refine ⟨⟨k + 1, pre ++ [z], by go_num, by omega, HPR, hK, hsz, HJS.out⟩, ?_⟩
        simp only [intOf]; omega
    · obtain rfl : k = ts.length := by omega
      have HTE := Lib.hid (show ts = pre by rw [hpre.out, List.take_of_length_le (by omega)])
      clear hj
      gi_wp2_with (fail)
      refine bodyPost_end (results_none rfl _ _ _) rfl ?_
      exact ⟨⟨_, rfl⟩, .inl (by rw [HTE.out]; exact HJr.out)⟩
end Go.Proofs.YtidpiokkfnhobaaGreat.v5

namespace Go.Proofs.YtidpiokkfnhobaaGreat.v5
open Go.RowKit Go.Shelf
set_option maxRecDepth 100000

/-- Q, but nothing is outgrown. -/
def NoOut (Q : Exit → Act → World → Prop) : Exit → Act → World → Prop
  | .outgrown, _, _ => False
  | e, a, w => Q e a w
theorem NoOut.imp {Q : Exit → Act → World → Prop} : ∀ (e : Exit) (a : Act) (w : World), NoOut Q e a w → Q e a w := fun e _ _ h => by
  cases e <;> first | exact h | exact h.elim
theorem noOut_normal (Q : Exit → Act → World → Prop) (a : Act) (w : World) : NoOut Q .normal a w = Q .normal a w := rfl
theorem not_letsOut (Q : Exit → Act → World → Prop) : ¬ LetsOut (NoOut Q) := fun ⟨_, _, h⟩ => h
theorem opIn_of_op {P : Program} {o : Oper} {a : Act} {w : World} {l n : Nat} {K : Act → World → Prop} {Q : Exit → Act → World → Prop} (hnd : ∀ c, o.op ≠ .defer c) (h : o.wp P a w K (NoOut Q)) : o.wpIn (Fence.wide.inRound l) n P a w K Q := by
  unfold Oper.wpIn
  refine ⟨fun _ _ => trivial, ?_⟩
  rw [show (Fence.wide.inRound l).round = some l from rfl, Oper.semAt_eq _ _ _ hnd]
  unfold Oper.wp at h
  generalize (execOp a.eval o).run P w = r at *
  cases r with
  | ok x w' =>
    cases x <;> simp only [Oper.uponIn, Oper.upon] at h ⊢
    case value => exact h
    case skip => exact h
    case defer => exact h
    case enter f args =>
      refine ⟨fun h => (by cases h), (CallsIn.inRound l (calls_wide h)).mono fun e w'' he => ?_⟩
      cases e with
      | returned v => exact he
      | panicked c => exact he
      | outgrown => exact (not_letsOut Q he).elim
    case row row args => exact ⟨fun h => (by cases h), fun c cs _ => by obtain ⟨v, w'', r, s⟩ := h c cs; exact ⟨v, w'', r, stepsIn_wide.2 s⟩⟩
  | halt x w' =>
    cases x <;> simp only [Oper.uponIn, Oper.upon] at h ⊢
    case panic => exact h
def noDefer (ops : Array Oper) : Bool := ops.all fun o => match o.op with | .defer _ => false | _ => true
theorem noDefer_spec {ops : Array Oper} (h : noDefer ops = true) {i : Nat} {o : Oper} (ho : ops[i]? = some o) : ∀ c, o.op ≠ .defer c := by
  intro c hc
  unfold noDefer at h
  rw [Array.all_eq_true_iff_forall_mem] at h
  have := h o (Array.mem_of_getElem? ho)
  rw [hc] at this
  cases this
theorem anyIn_of_held {P : Program} {ops : Array Oper} {md : Region.Mode} {l n : Nat} {S : World → Prop} {Q : Exit → Act → World → Prop} (hnd : noDefer ops = true) :
    ∀ (fuel : Nat) (listed : Array Bool) (a : Act) (w : World), wpAnyH P md ops (NoOut Q) S fuel listed a w → wpAnyIn (Fence.wide.inRound l) n P md ops Q fuel listed a w
  | 0, _, _, _, h => ⟨h.1, NoOut.imp _ _ _ h.2⟩
  | fuel + 1, listed, a, w, h => by
    refine ⟨fun h0 => NoOut.imp _ _ _ (h.1 h0), fun i hi => ?_⟩
    have h2 := h.2 i hi
    unfold wpOp at h2
    unfold wpOpIn
    split at h2
    · rename_i e
      rw [e]
      exact anyIn_of_held hnd fuel _ _ _ h2.2
    · rename_i o e
      rw [e]
      show if _ then _ else _
      split at h2
      · rename_i hw
        rw [if_pos hw]
        rcases h2 with h2 | h2
        · exact Oper.wpIn_mono (fun a' w' h3 => anyIn_of_held hnd fuel _ a' w' h3.2) (opIn_of_op (noDefer_spec hnd e) h2)
        · exact (not_letsOut Q h2.2).elim
      · rename_i hw
        rw [if_neg hw]
        exact ⟨fun _ _ => trivial, anyIn_of_held hnd fuel _ _ _ h2.2⟩
/-- A region that draws, in a round. -/
theorem region_round {P : Program} {ops : Array Oper} {l n id : Nat} {S : World → Prop} {Q : Exit → Act → World → Prop} {a : Act} {w : World} (hm : P.follows .mixedOrders = true) (hnd : noDefer ops = true) (hS : S w.drew)
    (h : S w.drew → wpAnyH P .any ops (NoOut Q) S ops.size (Array.replicate ops.size false) a w.drew) : (Code.region id ops true).wpIn (Fence.wide.inRound l) n P Q a w :=
  wpIn_region_any hm (anyIn_of_held hnd _ _ _ _ (h hS))
theorem takeH {P : Program} {ops : Array Oper} {Q : Exit → Act → World → Prop} {md : Region.Mode} {S : World → Prop} (i : Nat) (d : Option Tmp) {oi : Oper} {v : Value} {fuel : Nat} {listed : Array Bool} {a : Act} {w : World} (hi : ops[i]? = some oi) (hd : oi.dst = d)
    (hs : Region.noSelect ops = true) (hf : Region.free md ops listed i = true) (hr : (Region.ready md ops listed).contains i = true)
    (hQ : ∀ c a w, Q (.panic c) (a.put d v) w → Q (.panic c) a w) (hw : Region.wanted oi (yielded ops a.tmps) = true) (hy : ∀ w, S w → (execOp a.eval oi).run P w = .ok (.value v) w) (hS : S w)
    (h : wpAnyH P md ops Q S fuel (listed.setIfInBounds i true) (a.put d v) w) : wpAnyH P md ops Q S (fuel + 1) listed a w := by
  subst hd
  exact wpAnyH_take hi hs hf hr hQ (.inl ⟨hw, hy⟩) hS h
end Go.Proofs.YtidpiokkfnhobaaGreat.v5
