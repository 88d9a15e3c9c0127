/-
  DERIVED. Several texts in one.
-/
import Derived.Test.YtbbadnlaelgmlaaGreatProg
import Derived.WalkKit
import Derived.ProofKit
import Derived.Below
import Derived.BigQuiet
import Derived.Laws.Rows
import Derived.Laws.OwnMore
import Derived.Lib.Hide
import Derived.RangeFuncNested
import Derived.RangeFuncBound
import Derived.RangeFuncCalls
import Derived.RangeFuncLeaves
import Derived.RangeFuncBox
import Derived.Shelf.Abstract
import Derived.Shelf.RegionOpen
import Derived.OwnWalkIn
import Derived.TacticsInMore
import Derived.LoopNIn
import Derived.LoopIn
import Derived.Deep.DrawnRows
import Derived.Deep.AppendLies
import Derived.StillTailTactics
import Derived.OrdersHeld
import Derived.Deep.RegionHeld3
set_option linter.unusedVariables false
set_option linter.unusedSimpArgs false

namespace Go.Proofs.YtbbadnlaelgmlaaGreat.v5

/-- An arc: from, to, what it can carry, what it carries. -/
structure Ar where
  u : Nat
  v : Nat
  cap : Int
  x : Int
/-- What begins at a node, less what ends there. -/
def gain (l : List Ar) (n : Nat) : Int := (l.map fun a => (if a.u = n then a.x else 0) - (if a.v = n then a.x else 0)).sum
/-- What leaves a set of nodes, what enters it, and what may leave it. -/
def outX (l : List Ar) (S : Nat → Bool) : Int := (l.map fun a => if S a.u && !S a.v then a.x else 0).sum
def inX (l : List Ar) (S : Nat → Bool) : Int := (l.map fun a => if !S a.u && S a.v then a.x else 0).sum
def capS (l : List Ar) (S : Nat → Bool) : Int := (l.map fun a => if S a.u && !S a.v then a.cap else 0).sum
/-- Numbers from 0 to what the arcs can carry; as much ends as begins at all nodes below N but s and t. -/
structure IsFlow (N : Nat) (l : List Ar) (s t : Nat) : Prop where
  nodes : ∀ a ∈ l, a.u < N ∧ a.v < N
  fits : ∀ a ∈ l, 0 ≤ a.x ∧ a.x ≤ a.cap
  even : ∀ n, n < N → n ≠ s → n ≠ t → gain l n = 0
def sumTo (f : Nat → Int) : Nat → Int
  | 0 => 0
  | n + 1 => sumTo f n + f n
theorem sumTo_congr {f g : Nat → Int} {N : Nat} (h : ∀ n, n < N → f n = g n) : sumTo f N = sumTo g N := by
  induction N with
  | zero => rfl
  | succ N ih => show sumTo f N + f N = sumTo g N + g N; rw [ih (fun n hn => h n (by omega)), h N (by omega)]
theorem sumTo_add (f g : Nat → Int) (N : Nat) : sumTo (fun n => f n + g n) N = sumTo f N + sumTo g N := by
  induction N with
  | zero => rfl
  | succ N ih => show sumTo _ N + (f N + g N) = (sumTo f N + f N) + (sumTo g N + g N); rw [ih]; omega
theorem sumTo_zero (N : Nat) : sumTo (fun _ => 0) N = 0 := by
  induction N with
  | zero => rfl
  | succ N ih => show sumTo _ N + 0 = 0; rw [ih]; rfl
theorem sumTo_one (x : Int) {m N : Nat} (h : m < N) : sumTo (fun n => if n = m then x else 0) N = x := by
  induction N with
  | zero => omega
  | succ N ih =>
    show sumTo _ N + (if N = m then x else 0) = x
    rcases Nat.lt_or_ge m N with hm | hm
    · rw [ih hm, if_neg (by omega)]; omega
    · obtain rfl : m = N := by omega
      rw [if_pos rfl, sumTo_congr (g := fun _ => 0) (fun n hn => if_neg (by omega)), sumTo_zero]; omega
theorem outX_cons (a : Ar) (l : List Ar) (S : Nat → Bool) : outX (a :: l) S = (if S a.u && !S a.v then a.x else 0) + outX l S := by unfold outX; rw [List.map_cons, List.sum_cons]
theorem inX_cons (a : Ar) (l : List Ar) (S : Nat → Bool) : inX (a :: l) S = (if !S a.u && S a.v then a.x else 0) + inX l S := by unfold inX; rw [List.map_cons, List.sum_cons]
theorem capS_cons (a : Ar) (l : List Ar) (S : Nat → Bool) : capS (a :: l) S = (if S a.u && !S a.v then a.cap else 0) + capS l S := by unfold capS; rw [List.map_cons, List.sum_cons]
theorem gain_cons (a : Ar) (l : List Ar) (n : Nat) : gain (a :: l) n = ((if a.u = n then a.x else 0) - (if a.v = n then a.x else 0)) + gain l n := by unfold gain; rw [List.map_cons, List.sum_cons]
/-- A set's gain is the sum of its nodes' gains. -/
theorem gain_set {N : Nat} (S : Nat → Bool) : ∀ (l : List Ar), (∀ a ∈ l, a.u < N ∧ a.v < N) → sumTo (fun n => if S n then gain l n else 0) N = outX l S - inX l S
  | [], _ => by
    rw [sumTo_congr (g := fun _ => 0) (fun n _ => by simp [gain]), sumTo_zero]; rfl
  | a :: l, h => by
    have ih := gain_set S l (fun b hb => h b (List.mem_cons_of_mem _ hb))
    obtain ⟨h1, h2⟩ := h a (by simp)
    have e : ∀ n, n < N → (if S n then gain (a :: l) n else 0) = ((if n = a.u then (if S a.u then a.x else 0) else 0) + (if n = a.v then (if S a.v then -a.x else 0) else 0)) + (if S n then gain l n else 0) := by
      intro n _
      rw [gain_cons]
      by_cases e1 : a.u = n <;> by_cases e2 : a.v = n <;> by_cases e3 : S n = true
      all_goals (try subst e1) <;> (try subst e2) <;> simp_all <;> omega
    rw [sumTo_congr e, sumTo_add, sumTo_add, sumTo_one _ h1, sumTo_one _ h2, ih]
    rw [outX_cons, inX_cons]
    cases S a.u <;> cases S a.v <;> simp <;> omega
/-- A flow's value is what leaves any set that holds s and not t, less what enters it. -/
theorem IsFlow.across {N : Nat} {l : List Ar} {s t : Nat} (h : IsFlow N l s t) (hs : s < N) {S : Nat → Bool} (h1 : S s = true) (h2 : S t = false) : gain l s = outX l S - inX l S := by
  rw [← gain_set S l h.nodes, sumTo_congr (g := fun n => if n = s then gain l s else 0) (fun n hn => ?_), sumTo_one _ hs]
  by_cases e : n = s
  · subst e; simp [h1]
  · rw [if_neg e]
    by_cases e2 : n = t
    · subst e2; simp [h2]
    · split
      · exact h.even n hn e e2
      · rfl
theorem out_le {l : List Ar} (h : ∀ a ∈ l, 0 ≤ a.x ∧ a.x ≤ a.cap) (S : Nat → Bool) : outX l S ≤ capS l S ∧ 0 ≤ inX l S := by
  induction l with
  | nil => exact ⟨Int.le_refl _, Int.le_refl _⟩
  | cons a l ih =>
    obtain ⟨i1, i2⟩ := ih (fun b hb => h b (List.mem_cons_of_mem _ hb))
    have := h a (by simp)
    rw [outX_cons, inX_cons, capS_cons]
    cases S a.u <;> cases S a.v <;> simp <;> omega
/-- No flow has a greater value than a cut's capacity. -/
theorem IsFlow.le_cut {N : Nat} {l : List Ar} {s t : Nat} (h : IsFlow N l s t) (hs : s < N) {S : Nat → Bool} (h1 : S s = true) (h2 : S t = false) : gain l s ≤ capS l S := by
  have := h.across hs h1 h2
  have := out_le h.fits S
  omega
/-- A set is closed if nothing is left that leaves it. -/
def Shut (l : List Ar) (S : Nat → Bool) : Prop := ∀ a ∈ l, (S a.u = true → S a.v = false → a.x = a.cap) ∧ (S a.u = false → S a.v = true → a.x = 0)
theorem Shut.full {l : List Ar} {S : Nat → Bool} (h : Shut l S) : outX l S = capS l S ∧ inX l S = 0 := by
  induction l with
  | nil => exact ⟨rfl, rfl⟩
  | cons a l ih =>
    obtain ⟨i1, i2⟩ := ih (fun b hb => h b (List.mem_cons_of_mem _ hb))
    obtain ⟨g1, g2⟩ := h a (by simp)
    rw [outX_cons, inX_cons, capS_cons]
    cases e1 : S a.u <;> cases e2 : S a.v <;> simp [e1, e2] at g1 g2 ⊢ <;> omega
theorem IsFlow.shut_cut {N : Nat} {l : List Ar} {s t : Nat} (h : IsFlow N l s t) (hs : s < N) {S : Nat → Bool} (h1 : S s = true) (h2 : S t = false) (hc : Shut l S) : gain l s = capS l S := by
  have := h.across hs h1 h2
  obtain ⟨g1, g2⟩ := hc.full
  omega
/-- Where a flow's value is a cut's capacity, the cut is closed. -/
theorem shut_of {l : List Ar} (h : ∀ a ∈ l, 0 ≤ a.x ∧ a.x ≤ a.cap) {S : Nat → Bool} (he : capS l S ≤ outX l S - inX l S) : Shut l S := by
  induction l with
  | nil => intro a ha; cases ha
  | cons a l ih =>
    have hl := fun b hb => h b (List.mem_cons_of_mem a hb)
    obtain ⟨i1, i2⟩ := out_le hl S
    have ha := h a (by simp)
    rw [outX_cons, inX_cons, capS_cons] at he
    intro b hb
    rcases List.mem_cons.1 hb with rfl | hb
    · cases e1 : S b.u <;> cases e2 : S b.v <;> simp [e1, e2] at he ⊢ <;> omega
    · refine ih hl ?_ b hb
      cases e1 : S a.u <;> cases e2 : S a.v <;> simp [e1, e2] at he ⊢ <;> omega
/-- What can be reached in what a flow leaves. -/
inductive Reach (l : List Ar) (s : Nat) : Nat → Prop
  | here : Reach l s s
  | along {a : Ar} : a ∈ l → Reach l s a.u → a.x < a.cap → Reach l s a.v
  | back {a : Ar} : a ∈ l → Reach l s a.v → 0 < a.x → Reach l s a.u
theorem Reach.mem {l : List Ar} {s : Nat} {S : Nat → Bool} (hc : Shut l S) (h1 : S s = true) {n : Nat} (h : Reach l s n) : S n = true := by
  induction h with
  | here => exact h1
  | along ha _ hx ih =>
    have := (hc _ ha).1 ih
    rcases e : S _ with _ | _
    · have := this e; omega
    · rfl
  | back ha _ hx ih =>
    have := (hc _ ha).2
    rcases e : S _ with _ | _
    · have := this e ih; omega
    · rfl
theorem reach_shut {l : List Ar} {s : Nat} (hf : ∀ a ∈ l, 0 ≤ a.x ∧ a.x ≤ a.cap) {S : Nat → Bool} (hS : ∀ n, S n = true ↔ Reach l s n) : Shut l S := by
  intro a ha
  refine ⟨fun h1 h2 => ?_, fun h1 h2 => ?_⟩
  · rcases Int.lt_or_le a.x a.cap with hx | hx
    · have := (hS _).2 (Reach.along ha ((hS _).1 h1) hx)
      rw [h2] at this; cases this
    · have := hf a ha; omega
  · rcases Int.lt_or_le 0 a.x with hx | hx
    · have := (hS _).2 (Reach.back ha ((hS _).1 h2) hx)
      rw [h1] at this; cases this
    · have := hf a ha; omega
/-- A flow that leaves no way to t: its value is the capacity of what can be reached; each cut's capacity is no less; a cut of the same capacity holds all that can be reached. -/
theorem IsFlow.greatest {N : Nat} {l : List Ar} {s t : Nat} (h : IsFlow N l s t) (hs : s < N) {R : Nat → Bool} (hR : ∀ n, R n = true ↔ Reach l s n) (ht : R t = false) :
    gain l s = capS l R ∧ (∀ S : Nat → Bool, S s = true → S t = false → capS l R ≤ capS l S) ∧ ∀ S : Nat → Bool, S s = true → S t = false → capS l S = capS l R → ∀ n, R n = true → S n = true := by
  have h1 : R s = true := (hR s).2 Reach.here
  have e := h.shut_cut hs h1 ht (reach_shut h.fits hR)
  refine ⟨e, fun S g1 g2 => by have := h.le_cut hs g1 g2; omega, fun S g1 g2 g3 n hn => ?_⟩
  have hx := h.across hs g1 g2
  exact Reach.mem (shut_of h.fits (by omega)) g1 ((hR n).1 hn)
/-- A greatest flow: none of the same arcs has a greater value. -/
theorem IsFlow.most {N : Nat} {l m : List Ar} {s t : Nat} (h : IsFlow N l s t) (hs : s < N) {R : Nat → Bool} (hR : ∀ n, R n = true ↔ Reach l s n) (ht : R t = false) (k : IsFlow N m s t) (he : l.map (fun a => (a.u, a.v, a.cap)) = m.map (fun a => (a.u, a.v, a.cap))) : gain m s ≤ gain l s := by
  have h1 : R s = true := (hR s).2 Reach.here
  have e := (h.greatest hs hR ht).1
  have e2 := k.le_cut hs h1 ht
  have e3 : ∀ l : List Ar, capS l R = ((l.map (fun a => (a.u, a.v, a.cap))).map fun p => if R p.1 && !R p.2.1 then p.2.2 else 0).sum := fun l => by
    unfold capS; rw [List.map_map]; rfl
  rw [e3] at e2
  rw [e3, he] at e
  omega
end Go.Proofs.YtbbadnlaelgmlaaGreat.v5

namespace Go.Proofs.YtbbadnlaelgmlaaGreat.v5

/-- An arc carries d more. -/
def upd (l : List Ar) (i : Nat) (d : Int) : List Ar := l.modify i fun a => { a with x := a.x + d }
theorem upd_cons0 (a : Ar) (l : List Ar) (d : Int) : upd (a :: l) 0 d = { a with x := a.x + d } :: l := rfl
theorem upd_cons (a : Ar) (l : List Ar) (i : Nat) (d : Int) : upd (a :: l) (i + 1) d = a :: upd l i d := rfl
theorem gain_upd {d : Int} : ∀ {l : List Ar} {i : Nat} {a : Ar}, l[i]? = some a → ∀ n, gain (upd l i d) n = gain l n + ((if a.u = n then d else 0) - (if a.v = n then d else 0))
  | [], i, a, h => by simp at h
  | b :: l, 0, a, h => fun n => by
    obtain rfl : b = a := by simpa using h
    rw [upd_cons0, gain_cons, gain_cons]
    by_cases e1 : b.u = n <;> by_cases e2 : b.v = n <;> simp [e1, e2] <;> omega
  | b :: l, i + 1, a, h => fun n => by
    rw [upd_cons, gain_cons, gain_cons, gain_upd (l := l) (i := i) (a := a) (by simpa using h) n]; omega
theorem upd_get {l : List Ar} {i : Nat} {d : Int} (j : Nat) : (upd l i d)[j]? = if i = j then (l[j]?).map (fun a => { a with x := a.x + d }) else l[j]? := by
  unfold upd
  rw [List.getElem?_modify]
  by_cases h : i = j
  · simp only [if_pos h]; cases l[j]? <;> rfl
  · simp only [if_neg h]; cases l[j]? <;> rfl
/-- The arcs' ends and capacities, which no sending changes. -/
def ends (l : List Ar) : List (Nat × Nat × Int) := l.map fun a => (a.u, a.v, a.cap)
theorem ends_upd (l : List Ar) (i : Nat) (d : Int) : ends (upd l i d) = ends l := by
  apply List.ext_getElem?
  intro j
  unfold ends
  rw [List.getElem?_map, List.getElem?_map, upd_get]
  split
  · cases l[j]? <;> rfl
  · rfl
theorem ends_get {l m : List Ar} (h : ends l = ends m) {i : Nat} {a : Ar} (ha : l[i]? = some a) : ∃ b, m[i]? = some b ∧ b.u = a.u ∧ b.v = a.v ∧ b.cap = a.cap := by
  have h1 : (ends m)[i]? = some (a.u, a.v, a.cap) := by rw [← h]; unfold ends; rw [List.getElem?_map, ha]; rfl
  unfold ends at h1
  rw [List.getElem?_map] at h1
  obtain ⟨b, hb, e⟩ := Option.map_eq_some_iff.1 h1
  injection e with e1 e2
  injection e2 with e2 e3
  exact ⟨b, hb, e1, e2, e3⟩
def Fits (l : List Ar) : Prop := ∀ a ∈ l, 0 ≤ a.x ∧ a.x ≤ a.cap
theorem Fits.upd {l : List Ar} (h : Fits l) {i : Nat} {d : Int} {a : Ar} (ha : l[i]? = some a) (h1 : 0 ≤ a.x + d) (h2 : a.x + d ≤ a.cap) : Fits (upd l i d) := by
  intro b hb
  obtain ⟨j, hj⟩ := List.getElem?_of_mem hb
  rw [upd_get] at hj
  by_cases e : i = j
  · subst e
    rw [if_pos rfl, ha] at hj
    injection hj with hj
    subst hj
    exact ⟨h1, h2⟩
  · rw [if_neg e] at hj
    exact h b (List.mem_of_getElem? hj)
theorem capS_ends {l m : List Ar} (h : ends l = ends m) (S : Nat → Bool) : capS l S = capS m S := by
  have e : ∀ l : List Ar, capS l S = ((ends l).map fun p => if S p.1 && !S p.2.1 then p.2.2 else 0).sum := fun l => by
    unfold capS ends; rw [List.map_map]; rfl
  rw [e, e, h]
/-- A move: 2 i goes along arc i, 2 i + 1 goes back. -/
def mvFrom (l : List Ar) (m : Nat) : Option Nat := (l[m / 2]?).map fun a => if m % 2 = 0 then a.u else a.v
def mvTo (l : List Ar) (m : Nat) : Option Nat := (l[m / 2]?).map fun a => if m % 2 = 0 then a.v else a.u
def mvRoom (l : List Ar) (m : Nat) : Int := match l[m / 2]? with
  | some a => if m % 2 = 0 then a.cap - a.x else a.x
  | none => 0
/-- d more goes through a move. -/
def mvSend (l : List Ar) (m : Nat) (d : Int) : List Ar := upd l (m / 2) (if m % 2 = 0 then d else -d)
theorem mvSend_gain {l : List Ar} {m : Nat} {d : Int} {p q : Nat} (h1 : mvFrom l m = some p) (h2 : mvTo l m = some q) (n : Nat) : gain (mvSend l m d) n = gain l n + ((if p = n then d else 0) - (if q = n then d else 0)) := by
  unfold mvFrom at h1
  unfold mvTo at h2
  obtain ⟨a, ha, e1⟩ := Option.map_eq_some_iff.1 h1
  obtain ⟨b, hb, e2⟩ := Option.map_eq_some_iff.1 h2
  rw [ha] at hb
  injection hb with hb
  subst hb
  unfold mvSend
  rw [gain_upd ha n]
  by_cases hm : m % 2 = 0
  · rw [if_pos hm] at e1 e2
    subst e1 e2
    rw [if_pos hm]
  · rw [if_neg hm] at e1 e2
    subst e1 e2
    rw [if_neg hm]
    by_cases e3 : a.u = n <;> by_cases e4 : a.v = n <;> simp [e3, e4]
theorem mvSend_fits {l : List Ar} (h : Fits l) {m : Nat} {d : Int} (h0 : 0 ≤ d) (h1 : d ≤ mvRoom l m) : Fits (mvSend l m d) := by
  unfold mvRoom at h1
  unfold mvSend
  rcases ha : l[m / 2]? with _ | a
  · have e : upd l (m / 2) (if m % 2 = 0 then d else -d) = l := by
      apply List.ext_getElem?
      intro j
      rw [upd_get]
      split
      · rename_i hj; subst hj; rw [ha]; rfl
      · rfl
    rw [e]; exact h
  · rw [ha] at h1
    have hx := h a (List.mem_of_getElem? ha)
    refine h.upd ha ?_ ?_
    · by_cases hm : m % 2 = 0
      · rw [if_pos hm]; omega
      · simp only [if_neg hm] at h1 ⊢; omega
    · by_cases hm : m % 2 = 0
      · simp only [if_pos hm] at h1 ⊢; omega
      · rw [if_neg hm]; omega
theorem mvSend_ends (l : List Ar) (m : Nat) (d : Int) : ends (mvSend l m d) = ends l := ends_upd _ _ _
end Go.Proofs.YtbbadnlaelgmlaaGreat.v5

namespace Go.Proofs.YtbbadnlaelgmlaaGreat.v5

/-- What can be reached, as a set. -/
noncomputable def reachB (l : List Ar) (s : Nat) (n : Nat) : Bool := @decide (Reach l s n) (Classical.propDecidable _)
theorem reachB_iff (l : List Ar) (s n : Nat) : reachB l s n = true ↔ Reach l s n := by unfold reachB; exact @decide_eq_true_iff _ (Classical.propDecidable _)
theorem reachB_no {l : List Ar} {s t : Nat} (h : ¬ Reach l s t) : reachB l s t = false := by
  rcases e : reachB l s t with _ | _
  · rfl
  · exact absurd ((reachB_iff l s t).1 e) h
/-- A flow of a net (its ends and capacities: e) that leaves no way to t; its value is v. -/
structure Gr (N : Nat) (e : List (Nat × Nat × Int)) (s t : Nat) (l : List Ar) (v : Int) : Prop where
  net : ends l = e
  flow : IsFlow N l s t
  val : gain l s = v
  done : ¬ Reach l s t
section
variable {N s t : Nat} {e : List (Nat × Nat × Int)} {l m : List Ar} {v w : Int}
theorem Gr.cut (h : Gr N e s t l v) (hs : s < N) : v = capS l (reachB l s) ∧ (∀ S : Nat → Bool, S s = true → S t = false → v ≤ capS l S) ∧ ∀ S : Nat → Bool, S s = true → S t = false → capS l S = v → ∀ n, Reach l s n → S n = true := by
  obtain ⟨g1, g2, g3⟩ := h.flow.greatest hs (reachB_iff l s) (reachB_no h.done)
  rw [h.val] at g1
  exact ⟨g1, fun S a b => by have := g2 S a b; omega, fun S a b c n hn => g3 S a b (by omega) n ((reachB_iff l s n).2 hn)⟩
/-- No flow of the net has a greater value. -/
theorem Gr.le (h : Gr N e s t l v) (hs : s < N) (k : IsFlow N m s t) (he : ends m = e) : gain m s ≤ v := by
  obtain ⟨g1, -, -⟩ := h.cut hs
  have h2 := k.le_cut (S := reachB l s) hs ((reachB_iff l s s).2 Reach.here) (reachB_no h.done)
  rw [capS_ends (he.trans h.net.symm)] at h2
  omega
/-- The greatest value is one, and what can be reached is the same for each greatest flow. -/
theorem Gr.uniq (h : Gr N e s t l v) (k : Gr N e s t m w) (hs : s < N) : v = w ∧ ∀ n, Reach l s n ↔ Reach m s n := by
  have h1 := h.le hs k.flow k.net
  have h2 := k.le hs h.flow h.net
  rw [k.val] at h1
  rw [h.val] at h2
  have hv : v = w := by omega
  have c1 := h.cut hs
  have c2 := k.cut hs
  have ee : ∀ S, capS l S = capS m S := capS_ends (h.net.trans k.net.symm)
  refine ⟨hv, fun n => ⟨fun hn => ?_, fun hn => ?_⟩⟩
  · exact (reachB_iff m s n).1 (c1.2.2 (reachB m s) ((reachB_iff m s s).2 Reach.here) (reachB_no k.done) (by rw [ee]; omega) n hn)
  · exact (reachB_iff l s n).1 (c2.2.2 (reachB l s) ((reachB_iff l s s).2 Reach.here) (reachB_no h.done) (by rw [← ee]; omega) n hn)
/-- A greatest flow is there if a flow is, and a set that holds s and not t has its value as its capacity. -/
theorem Gr.of_cut (k : IsFlow N l s t) (he : ends l = e) (hs : s < N) {S : Nat → Bool} (h1 : S s = true) (h2 : S t = false) (h3 : capS l S ≤ gain l s) : Gr N e s t l (gain l s) := by
  refine ⟨he, k, rfl, fun hr => ?_⟩
  have hx := k.across hs h1 h2
  have := Reach.mem (shut_of k.fits (by omega)) h1 hr
  rw [h2] at this; cases this
end
/-- An arc's capacity is lowered to what it carries, or raised: the sums of cuts. -/
def setCap (l : List Ar) (i : Nat) (c : Int) : List Ar := l.modify i fun a => { a with cap := c }
theorem setCap_get {l : List Ar} {i : Nat} {c : Int} (j : Nat) : (setCap l i c)[j]? = if i = j then (l[j]?).map (fun a => { a with cap := c }) else l[j]? := by
  unfold setCap
  rw [List.getElem?_modify]
  by_cases h : i = j
  · simp only [if_pos h]; cases l[j]? <;> rfl
  · simp only [if_neg h]; cases l[j]? <;> rfl
theorem setCap_gain (c : Int) : ∀ (l : List Ar) (i n : Nat), gain (setCap l i c) n = gain l n
  | [], _, _ => by simp [setCap]
  | a :: l, 0, n => by
    show gain ({ a with cap := c } :: l) n = _
    rw [gain_cons, gain_cons]
  | a :: l, i + 1, n => by
    show gain (a :: setCap l i c) n = _
    rw [gain_cons, gain_cons, setCap_gain c l i n]
theorem setCap_mem {l : List Ar} {i : Nat} {c : Int} {b : Ar} (hb : b ∈ setCap l i c) : b ∈ l ∨ ∃ a, l[i]? = some a ∧ b = { a with cap := c } := by
  obtain ⟨j, hj⟩ := List.getElem?_of_mem hb
  rw [setCap_get] at hj
  by_cases e : i = j
  · subst e
    rw [if_pos rfl] at hj
    obtain ⟨a, ha, rfl⟩ := Option.map_eq_some_iff.1 hj
    exact .inr ⟨a, ha, rfl⟩
  · rw [if_neg e] at hj
    exact .inl (List.mem_of_getElem? hj)
theorem setCap_flow {N s t : Nat} {l : List Ar} (h : IsFlow N l s t) {i : Nat} {c : Int} (hc : ∀ a, l[i]? = some a → a.x ≤ c) : IsFlow N (setCap l i c) s t := by
  refine ⟨fun b hb => ?_, fun b hb => ?_, fun n hn h1 h2 => ?_⟩
  · rcases setCap_mem hb with hb | ⟨a, ha, rfl⟩
    · exact h.nodes b hb
    · exact h.nodes a (List.mem_of_getElem? ha)
  · rcases setCap_mem hb with hb | ⟨a, ha, rfl⟩
    · exact h.fits b hb
    · exact ⟨(h.fits a (List.mem_of_getElem? ha)).1, hc a ha⟩
  · rw [setCap_gain]; exact h.even n hn h1 h2
theorem setCap_cut {c : Int} (S : Nat → Bool) : ∀ {l : List Ar} {i : Nat} {a : Ar}, l[i]? = some a → capS (setCap l i c) S = capS l S + (if S a.u && !S a.v then c - a.cap else 0)
  | [], i, a, h => by simp at h
  | b :: l, 0, a, h => by
    obtain rfl : b = a := by simpa using h
    show capS ({ b with cap := c } :: l) S = _
    rw [capS_cons, capS_cons]
    cases S b.u <;> cases S b.v <;> simp <;> omega
  | b :: l, i + 1, a, h => by
    show capS (b :: setCap l i c) S = _
    rw [capS_cons, capS_cons, setCap_cut S (l := l) (i := i) (a := a) (by simpa using h)]; omega
/-- An arc that carries nothing can be left without its capacity: the same flow is a greatest one. -/
theorem Gr.idle {N s t : Nat} {e : List (Nat × Nat × Int)} {l : List Ar} {v : Int} (h : Gr N e s t l v) (hs : s < N) {i : Nat} {a : Ar} (ha : l[i]? = some a) (hx : a.x = 0) : Gr N (ends (setCap l i 0)) s t (setCap l i 0) v := by
  have hf : IsFlow N (setCap l i 0) s t := setCap_flow h.flow (fun b hb => by rw [ha] at hb; injection hb with hb; subst hb; omega)
  have hv : gain (setCap l i 0) s = v := by rw [setCap_gain]; exact h.val
  obtain ⟨g1, -, -⟩ := h.cut hs
  have hcap := (h.flow.fits a (List.mem_of_getElem? ha))
  have := Gr.of_cut hf rfl hs (S := reachB l s) ((reachB_iff l s s).2 Reach.here) (reachB_no h.done) (by rw [setCap_cut _ ha, hv]; split <;> omega)
  rw [hv] at this
  exact this
end Go.Proofs.YtbbadnlaelgmlaaGreat.v5

namespace Go.Proofs.YtbbadnlaelgmlaaGreat.v5

/-- A way from a node to t, each node one further than the one before it. -/
inductive Way (l : List Ar) (far : Nat → Int) (t : Nat) : Nat → Prop
  | here : Way l far t t
  | step {m p q : Nat} : mvFrom l m = some p → mvTo l m = some q → 0 < mvRoom l m → far q = far p + 1 → Way l far t q → Way l far t p
/-- Where nodes without a way are struck, the others keep theirs. -/
theorem Way.kept {l : List Ar} {far far' : Nat → Int} {t : Nat} (hd : ∀ n, far' n ≠ far n → ¬ Way l far t n) {n : Nat} (h : Way l far t n) : far' n = far n ∧ Way l far' t n := by
  have keep : ∀ n, Way l far t n → far' n = far n := fun n h => Classical.byContradiction fun hn => hd n hn h
  refine ⟨keep n h, ?_⟩
  induction h with
  | here => exact Way.here
  | @step m p q h1 h2 h3 h4 h5 ih => exact Way.step h1 h2 h3 (by rw [keep q h5, keep p (Way.step h1 h2 h3 h4 h5)]; exact h4) ih
/-- What onward does when it lets nothing through: nothing flows otherwise, and the nodes that it strikes, and its own, have no way. -/
structure Dead (l : List Ar) (far far' : Nat → Int) (t : Nat) : Prop where
  struck : ∀ n, far' n ≠ far n → far' n = -1 ∧ ¬ Way l far t n
theorem Dead.refl (l : List Ar) (far : Nat → Int) (t : Nat) : Dead l far far t := ⟨fun _ h => absurd rfl h⟩
theorem Dead.way {l : List Ar} {far far' : Nat → Int} {t n : Nat} (h : Dead l far far' t) (hn : ¬ Way l far' t n) : ¬ Way l far t n := fun hw => hn (Way.kept (fun k hk => (h.struck k hk).2) hw).2
theorem Dead.trans {l : List Ar} {f g h : Nat → Int} {t : Nat} (h1 : Dead l f g t) (h2 : Dead l g h t) : Dead l f h t := by
  refine ⟨fun n hn => ?_⟩
  by_cases e : h n = g n
  · have := h1.struck n (by rw [← e]; exact hn)
    exact ⟨e.trans this.1, this.2⟩
  · have := h2.struck n e
    exact ⟨this.1, h1.way this.2⟩
/-- A node none of whose moves leads to a node with a way has none. -/
theorem no_way {l : List Ar} {far : Nat → Int} {t p : Nat} (hp : p ≠ t) (h : ∀ m q, mvFrom l m = some p → mvTo l m = some q → 0 < mvRoom l m → far q = far p + 1 → ¬ Way l far t q) : ¬ Way l far t p := by
  intro hw
  cases hw with
  | here => exact hp rfl
  | step h1 h2 h3 h4 h5 => exact h _ _ h1 h2 h3 h4 h5
/-- Distances from s: 0 at s alone; each further one is one more than that of a node from which a move leads; where a move leads, there is a distance. -/
structure IsFar (l : List Ar) (s : Nat) (far : Nat → Int) : Prop where
  low : ∀ n, -1 ≤ far n
  zero : ∀ n, far n = 0 ↔ n = s
  from_ : ∀ n, 0 < far n → ∃ m p, mvFrom l m = some p ∧ mvTo l m = some n ∧ 0 < mvRoom l m ∧ far n = far p + 1
  on : ∀ m p q, mvFrom l m = some p → mvTo l m = some q → 0 < mvRoom l m → 0 ≤ far p → 0 ≤ far q
theorem IsFar.way {l : List Ar} {s t : Nat} {far : Nat → Int} (h : IsFar l s far) : ∀ (k : Nat) (n : Nat), far n = (k : Int) → Way l far t n → Way l far t s
  | 0, n, hn, hw => by
    have := (h.zero n).1 hn
    subst this; exact hw
  | k + 1, n, hn, hw => by
    obtain ⟨m, p, h1, h2, h3, h4⟩ := h.from_ n (by omega)
    exact h.way k p (by omega) (Way.step h1 h2 h3 h4 hw)
theorem IsFar.no_way {l : List Ar} {s t : Nat} {far : Nat → Int} (h : IsFar l s far) (hn : ¬ Way l far t s) : far t = -1 := by
  rcases Int.lt_or_le (far t) 0 with h1 | h1
  · have := h.low t; omega
  · exact absurd (h.way (far t).toNat t (by omega) Way.here) hn
/-- More through a net: a flow of the same ends whose value is greater by what was sent. -/
theorem IsFlow.sent {N s t : Nat} {l l' : List Ar} {d : Int} (h : IsFlow N l s t) (hst : s ≠ t) (he : ends l' = ends l) (hf : Fits l') (hg : ∀ n, gain l' n = gain l n + ((if s = n then d else 0) - (if t = n then d else 0))) : IsFlow N l' s t ∧ gain l' s = gain l s + d := by
  refine ⟨⟨fun a ha => ?_, hf, fun n hn h1 h2 => ?_⟩, ?_⟩
  · obtain ⟨i, hi⟩ := List.getElem?_of_mem ha
    obtain ⟨b, hb, e1, e2, -⟩ := ends_get he hi
    have := h.nodes b (List.mem_of_getElem? hb)
    rw [e1, e2] at this
    exact this
  · rw [hg, h.even n hn h1 h2, if_neg (Ne.symm h1), if_neg (Ne.symm h2)]; rfl
  · rw [hg, if_pos rfl, if_neg (Ne.symm hst)]; omega
end Go.Proofs.YtbbadnlaelgmlaaGreat.v5

namespace Go.Proofs.YtbbadnlaelgmlaaGreat.v5

theorem mvFrom_send (l : List Ar) (m k : Nat) (d : Int) : mvFrom (mvSend l m d) k = mvFrom l k := by
  unfold mvFrom mvSend
  rw [upd_get]
  by_cases e : m / 2 = k / 2
  · rw [if_pos e]; cases l[k / 2]? <;> rfl
  · rw [if_neg e]
theorem mvTo_send (l : List Ar) (m k : Nat) (d : Int) : mvTo (mvSend l m d) k = mvTo l k := by
  unfold mvTo mvSend
  rw [upd_get]
  by_cases e : m / 2 = k / 2
  · rw [if_pos e]; cases l[k / 2]? <;> rfl
  · rw [if_neg e]
theorem mvRoom_other {l : List Ar} {m k : Nat} {d : Int} (h : k / 2 ≠ m / 2) : mvRoom (mvSend l m d) k = mvRoom l k := by
  unfold mvRoom mvSend
  rw [upd_get, if_neg (fun e => h e.symm)]
/-- The moves by which v is reached from s, from v back to s. -/
def Chain (l : List Ar) (s : Nat) : Nat → List Nat → Prop
  | v, [] => v = s
  | v, m :: ms => mvTo l m = some v ∧ ∃ u, mvFrom l m = some u ∧ Chain l s u ms
theorem Chain.send {l : List Ar} {s m : Nat} {d : Int} : ∀ {ms : List Nat} {v : Nat}, Chain l s v ms → Chain (mvSend l m d) s v ms
  | [], _, h => h
  | k :: ks, v, h => by
    obtain ⟨h1, u, h2, h3⟩ := h
    exact ⟨(mvTo_send l m k d).trans h1, u, (mvFrom_send l m k d).trans h2, h3.send⟩
/-- Sent along a way of different arcs that have room. -/
def sends (l : List Ar) (ms : List Nat) (d : Int) : List Ar := ms.foldl (fun l m => mvSend l m d) l
theorem chain_sends {s : Nat} {d : Int} (h0 : 0 ≤ d) : ∀ {ms : List Nat} {l : List Ar} {v : Nat}, Chain l s v ms → Fits l → (∀ m ∈ ms, d ≤ mvRoom l m) → (ms.map (· / 2)).Nodup →
    ends (sends l ms d) = ends l ∧ Fits (sends l ms d) ∧ ∀ n, gain (sends l ms d) n = gain l n + ((if s = n then d else 0) - (if v = n then d else 0))
  | [], l, v, hc, hf, _, _ => by
    obtain rfl : v = s := hc
    refine ⟨rfl, hf, fun n => ?_⟩
    show gain l n = _
    split <;> omega
  | m :: ms, l, v, hc, hf, hr, hn => by
    obtain ⟨h1, u, h2, h3⟩ := hc
    rw [List.map_cons, List.nodup_cons] at hn
    obtain ⟨g1, g2, g3⟩ := chain_sends h0 (l := mvSend l m d) (h3.send) (mvSend_fits hf h0 (hr m (by simp)))
      (fun k hk => by
        rw [mvRoom_other (fun e => hn.1 (by rw [← e]; exact List.mem_map_of_mem hk))]
        exact hr k (List.mem_cons_of_mem _ hk)) hn.2
    refine ⟨g1.trans (mvSend_ends l m d), g2, fun n => ?_⟩
    show gain (sends (mvSend l m d) ms d) n = _
    rw [g3 n, mvSend_gain h2 h1 n]
    omega
/-- Along a way with room the flow becomes greater. -/
theorem IsFlow.along {N s t : Nat} {l : List Ar} {d : Int} {ms : List Nat} (h : IsFlow N l s t) (hst : s ≠ t) (h0 : 0 ≤ d) (hc : Chain l s t ms) (hr : ∀ m ∈ ms, d ≤ mvRoom l m) (hn : (ms.map (· / 2)).Nodup) :
    IsFlow N (sends l ms d) s t ∧ gain (sends l ms d) s = gain l s + d ∧ ends (sends l ms d) = ends l := by
  obtain ⟨g1, g2, g3⟩ := chain_sends h0 hc h.fits hr hn
  obtain ⟨k1, k2⟩ := h.sent hst g1 g2 g3
  exact ⟨k1, k2, g1⟩
/-- Nothing flows. -/
theorem IsFlow.none {N s t : Nat} {l : List Ar} (h1 : ∀ a ∈ l, a.u < N ∧ a.v < N) (h2 : ∀ a ∈ l, a.x = 0 ∧ 0 ≤ a.cap) : IsFlow N l s t ∧ gain l s = 0 := by
  have hg : ∀ n, gain l n = 0 := by
    intro n
    clear h1
    induction l with
    | nil => rfl
    | cons a l ih => rw [gain_cons, ih (fun b hb => h2 b (List.mem_cons_of_mem _ hb)), (h2 a (by simp)).1]; simp
  exact ⟨⟨h1, fun a ha => by have := h2 a ha; omega, fun n _ _ _ => hg n⟩, hg s⟩
end Go.Proofs.YtbbadnlaelgmlaaGreat.v5

namespace Go.Proofs.YtbbadnlaelgmlaaGreat.v5

/-- Distances, while they are being found: each node that has one is done or waits. -/
structure Bfs (l : List Ar) (s : Nat) (far : Nat → Int) (done : Nat → Prop) : Prop where
  low : ∀ n, -1 ≤ far n
  zero : ∀ n, far n = 0 ↔ n = s
  from_ : ∀ n, 0 < far n → ∃ m p, mvFrom l m = some p ∧ mvTo l m = some n ∧ 0 < mvRoom l m ∧ far n = far p + 1
  on : ∀ m p q, mvFrom l m = some p → mvTo l m = some q → 0 < mvRoom l m → done p → 0 ≤ far q
theorem Bfs.start (l : List Ar) (s : Nat) : Bfs l s (fun n => if n = s then 0 else -1) fun _ => False :=
  ⟨fun n => by by_cases e : n = s <;> simp [e], fun n => by by_cases e : n = s <;> simp [e], fun n h => by by_cases e : n = s <;> simp [e] at h, fun _ _ _ _ _ _ h => h.elim⟩
theorem Bfs.far {l : List Ar} {s : Nat} {far : Nat → Int} {done : Nat → Prop} (h : Bfs l s far done) (hd : ∀ n, 0 ≤ far n → done n) : IsFar l s far :=
  ⟨h.low, h.zero, h.from_, fun m p q g1 g2 g3 g4 => h.on m p q g1 g2 g3 (hd p g4)⟩
end Go.Proofs.YtbbadnlaelgmlaaGreat.v5

namespace Go.Proofs.YtbbadnlaelgmlaaGreat.v5
set_option linter.unusedSimpArgs false
set_option linter.unusedVariables false

theorem ends_len {l l' : List Ar} (h : ends l = ends l') : l.length = l'.length := by
  have := congrArg List.length h
  simpa [ends] using this
theorem mvFrom_ends {l l' : List Ar} (h : ends l = ends l') (k : Nat) : mvFrom l k = mvFrom l' k := by
  unfold mvFrom
  rcases h1 : l[k / 2]? with _ | a
  · have : l'[k / 2]? = none := by rw [List.getElem?_eq_none_iff] at h1 ⊢; rw [← ends_len h]; exact h1
    rw [this]
  · obtain ⟨b, hb, e1, e2, -⟩ := ends_get h h1
    rw [hb]; simp [e1, e2]
theorem mvTo_ends {l l' : List Ar} (h : ends l = ends l') (k : Nat) : mvTo l k = mvTo l' k := by
  unfold mvTo
  rcases h1 : l[k / 2]? with _ | a
  · have : l'[k / 2]? = none := by rw [List.getElem?_eq_none_iff] at h1 ⊢; rw [← ends_len h]; exact h1
    rw [this]
  · obtain ⟨b, hb, e1, e2, -⟩ := ends_get h h1
    rw [hb]; simp [e1, e2]
theorem mvFrom_lt {l : List Ar} {k p : Nat} (h : mvFrom l k = some p) : k < 2 * l.length := by
  unfold mvFrom at h
  obtain ⟨a, ha, -⟩ := Option.map_eq_some_iff.1 h
  have := (List.getElem?_eq_some_iff.1 ha).1
  omega
def mvs (l : List Ar) (n : Nat) : List Nat := (List.range (2 * l.length)).filter fun k => mvFrom l k == some n
theorem mem_mvs {l : List Ar} {n k : Nat} : k ∈ mvs l n ↔ mvFrom l k = some n := by
  unfold mvs
  rw [List.mem_filter, List.mem_range]
  exact ⟨fun h => by simpa using h.2, fun h => ⟨mvFrom_lt h, by simpa using h⟩⟩
theorem mvSend_zero (l : List Ar) (m : Nat) : mvSend l m 0 = l := by
  unfold mvSend
  have : (if m % 2 = 0 then (0 : Int) else -0) = 0 := by split <;> rfl
  rw [this]
  apply List.ext_getElem?
  intro j
  rw [upd_get]
  split
  · cases l[j]? with
    | none => rfl
    | some a => simp
  · rfl
/-- Distances as a list. -/
def ff (F : List Int) (n : Nat) : Int := F[n]?.getD (-1)
theorem ff_set {F : List Int} {k : Nat} {x : Int} (h : k < F.length) (n : Nat) : ff (F.set k x) n = if n = k then x else ff F n := by
  unfold ff
  rw [List.getElem?_set]
  by_cases e : k = n
  · subst e; simp [h]
  · rw [if_neg e, if_neg (fun h => e h.symm)]
/-- What onward has done: d more goes on from p to t. -/
structure Onw (t : Nat) (l : List Ar) (F : List Int) (p : Nat) (most : Int) (l' : List Ar) (F' : List Int) (d : Int) : Prop where
  lo : 0 ≤ d
  hi : d ≤ most
  ends : ends l' = ends l
  fits : Fits l'
  gain : ∀ n, gain l' n = gain l n + ((if p = n then d else 0) - (if t = n then d else 0))
  len : F'.length = F.length
  lev : ∀ n, ff F' n ≠ ff F n → ff F' n = -1 ∧ (n = p ∨ ff F p < ff F n)
  room : ∀ m p', mvFrom l m = some p' → ff F p' < ff F p → mvRoom l' m = mvRoom l m
  none : d = 0 → l' = l ∧ Dead l (ff F) (ff F') t ∧ ¬ Way l (ff F) t p
/-- While onward looks at the moves of p. -/
structure Mid (t : Nat) (l : List Ar) (F : List Int) (p : Nat) (most : Int) (pre : List Nat) (l1 : List Ar) (F1 : List Int) (left : Int) : Prop where
  lo : 0 ≤ left
  hi : left ≤ most
  ends : ends l1 = ends l
  fits : Fits l1
  gain : ∀ n, gain l1 n = gain l n + ((if p = n then most - left else 0) - (if t = n then most - left else 0))
  len : F1.length = F.length
  lev : ∀ n, ff F1 n ≠ ff F n → ff F1 n = -1 ∧ ff F p < ff F n
  room : ∀ m p', mvFrom l m = some p' → ff F p' < ff F p → mvRoom l1 m = mvRoom l m
  none : left = most → l1 = l ∧ Dead l (ff F) (ff F1) t ∧ ∀ m ∈ pre, ∀ q, mvTo l m = some q → 0 < mvRoom l m → ff F q = ff F p + 1 → ¬ Way l (ff F) t q
section
variable {t p : Nat} {l l1 l2 : List Ar} {F F1 F2 : List Int} {most left d : Int} {pre : List Nat} {m q : Nat}
theorem Mid.start (hf : Fits l) (hm : 0 ≤ most) : Mid t l F p most [] l F most :=
  ⟨hm, Int.le_refl _, rfl, hf, fun n => by simp, rfl, fun n h => absurd rfl h, fun _ _ _ _ => rfl, fun _ => ⟨rfl, Dead.refl _ _ _, fun m hm => by cases hm⟩⟩
theorem Mid.same (h : Mid t l F p most pre l1 F1 left) : ff F1 p = ff F p :=
  Classical.byContradiction fun hn => by have := (h.lev p hn).2; omega
theorem Mid.skip (h : Mid t l F p most pre l1 F1 left) (hr : mvRoom l1 m ≤ 0) : Mid t l F p most (pre ++ [m]) l1 F1 left :=
  ⟨h.lo, h.hi, h.ends, h.fits, h.gain, h.len, h.lev, h.room, fun e => by
    obtain ⟨e1, e2, e3⟩ := h.none e
    refine ⟨e1, e2, fun k hk q hq hr' hf => ?_⟩
    rcases List.mem_append.1 hk with hk | hk
    · exact e3 k hk q hq hr' hf
    · rw [List.mem_singleton] at hk; subst hk; rw [e1] at hr; omega⟩
theorem Mid.off (h : Mid t l F p most pre l1 F1 left) (h0 : 0 ≤ ff F p) (hq : mvTo l m = some q) (hne : ff F1 q ≠ ff F1 p + 1) : Mid t l F p most (pre ++ [m]) l1 F1 left :=
  ⟨h.lo, h.hi, h.ends, h.fits, h.gain, h.len, h.lev, h.room, fun e => by
    obtain ⟨e1, e2, e3⟩ := h.none e
    refine ⟨e1, e2, fun k hk q' hq' hr' hf => ?_⟩
    rcases List.mem_append.1 hk with hk | hk
    · exact e3 k hk q' hq' hr' hf
    · rw [List.mem_singleton] at hk
      subst hk
      rw [hq] at hq'
      injection hq' with hq'
      subst hq'
      rw [h.same] at hne
      exact (e2.struck q (by omega)).2⟩
theorem Mid.sent (h : Mid t l F p most pre l1 F1 left) (h0 : 0 ≤ ff F p) (hp : mvFrom l m = some p) (hq : mvTo l m = some q) (hf : ff F1 q = ff F1 p + 1) (ho : Onw t l1 F1 q (min left (mvRoom l1 m)) l2 F2 d) :
    Mid t l F p most (pre ++ [m]) (mvSend l2 m d) F2 (left - d) ∧ mvRoom l2 m = mvRoom l1 m := by
  have hs := h.same
  have hends : Go.Proofs.YtbbadnlaelgmlaaGreat.v5.ends l2 = Go.Proofs.YtbbadnlaelgmlaaGreat.v5.ends l := ho.ends.trans h.ends
  have hp1 : mvFrom l1 m = some p := (mvFrom_ends h.ends m).trans hp
  have hr : mvRoom l2 m = mvRoom l1 m := ho.room m p hp1 (by omega)
  have hlo := ho.lo
  have hhi := ho.hi
  have hp2 : mvFrom l2 m = some p := (mvFrom_ends hends m).trans hp
  have hq2 : mvTo l2 m = some q := (mvTo_ends hends m).trans hq
  refine ⟨⟨by omega, by have := h.hi; omega, (mvSend_ends l2 m d).trans hends, mvSend_fits ho.fits hlo (by omega), fun n => ?_, ho.len.trans h.len, fun n hn => ?_, fun k p' hk hl => ?_, fun e => ?_⟩, hr⟩
  · rw [mvSend_gain hp2 hq2, ho.gain, h.gain]
    by_cases e1 : p = n <;> by_cases e2 : q = n <;> by_cases e3 : t = n <;> simp [e1, e2, e3] <;> omega
  · by_cases e : ff F1 n = ff F n
    · obtain ⟨g1, g2⟩ := ho.lev n (by rw [e]; exact hn)
      refine ⟨g1, ?_⟩
      rcases g2 with g2 | g2
      · subst g2; omega
      · omega
    · obtain ⟨g1, g2⟩ := h.lev n e
      refine ⟨?_, g2⟩
      by_cases e2 : ff F2 n = ff F1 n
      · rw [e2]; exact g1
      · exact (ho.lev n e2).1
  · have hkp : k / 2 ≠ m / 2 ∨ k / 2 = m / 2 := by omega
    have hk1 : mvFrom l1 k = some p' := (mvFrom_ends h.ends k).trans hk
    have hlv : ff F1 p' < ff F1 q := by
      by_cases e : ff F1 p' = ff F p'
      · omega
      · have := (h.lev p' e).1; omega
    rcases hkp with hkp | hkp
    · rw [mvRoom_other hkp, ho.room k p' hk1 hlv, h.room k p' hk hl]
    · exfalso
      have hk2 : mvFrom l2 k = some p' := (mvFrom_ends hends k).trans hk
      have hcase : k % 2 = m % 2 ∨ k % 2 ≠ m % 2 := by omega
      unfold mvFrom at hk2 hp2
      unfold mvTo at hq2
      rw [hkp] at hk2
      obtain ⟨a, ha, e1⟩ := Option.map_eq_some_iff.1 hk2
      rw [ha] at hp2 hq2
      have hpq : p' = p ∨ p' = q := by
        injection hp2 with hp2
        injection hq2 with hq2
        rcases hcase with hc | hc
        · rw [hc] at e1; left; rw [← e1, ← hp2]
        · right
          rw [← e1, ← hq2]
          have : k % 2 = 0 ∨ k % 2 = 1 := by omega
          rcases this with h3 | h3
          · simp only [if_pos h3, if_neg (show ¬ m % 2 = 0 by omega)]
          · simp only [if_neg (show ¬ k % 2 = 0 by omega), if_pos (show m % 2 = 0 by omega)]
      rcases hpq with e | e
      · subst e; omega
      · subst e
        by_cases e4 : ff F1 p' = ff F p'
        · omega
        · have := (h.lev p' e4).1; omega
  · have hd : d = 0 := by have := h.hi; omega
    subst hd
    have hl : left = most := by omega
    obtain ⟨e1, e2, e3⟩ := h.none hl
    obtain ⟨g1, g2, g3⟩ := ho.none rfl
    subst e1
    subst g1
    rw [mvSend_zero]
    refine ⟨rfl, e2.trans g2, fun k hk q' hq' hr' hf' => ?_⟩
    rcases List.mem_append.1 hk with hk | hk
    · exact e3 k hk q' hq' hr' hf'
    · rw [List.mem_singleton] at hk
      subst hk
      rw [hq] at hq'
      injection hq' with hq'
      subst hq'
      exact e2.way g3
theorem Mid.done (h : Mid t l F p most pre l1 F1 left) (hall : 0 < left → pre = mvs l p) (hpt : p ≠ t) (hm : 0 < most) (hp : p < F.length) (F2 : List Int) (hF : F2 = if 0 < left then F1.set p (-1) else F1) : Onw t l F p most l1 F2 (most - left) := by
  have hlo := h.lo
  have hhi := h.hi
  have hp1 : p < F1.length := by rw [h.len]; exact hp
  have hff : ∀ n, ff F2 n = if n = p ∧ 0 < left then -1 else ff F1 n := by
    intro n
    rw [hF]
    by_cases e : 0 < left
    · rw [if_pos e, ff_set hp1]
      by_cases e2 : n = p
      · rw [if_pos e2, if_pos ⟨e2, e⟩]
      · rw [if_neg e2, if_neg (fun h => e2 h.1)]
    · rw [if_neg e, if_neg (fun h => e h.2)]
  refine ⟨by omega, by omega, h.ends, h.fits, h.gain, ?_, fun n hn => ?_, h.room, fun e => ?_⟩
  · rw [hF]; split
    · rw [List.length_set]; exact h.len
    · exact h.len
  · rw [hff] at hn ⊢
    by_cases e : n = p ∧ 0 < left
    · rw [if_pos e]; exact ⟨rfl, .inl e.1⟩
    · rw [if_neg e] at hn ⊢
      obtain ⟨g1, g2⟩ := h.lev n hn
      exact ⟨g1, .inr g2⟩
  · have hl : left = most := by omega
    obtain ⟨e1, e2, e3⟩ := h.none hl
    rw [hall (by omega)] at e3
    have hw : ¬ Way l (ff F) t p := no_way hpt fun m q g1 g2 g3 g4 => e3 m (mem_mvs.2 g1) q g2 g3 g4
    refine ⟨e1, ⟨fun n hn => ?_⟩, hw⟩
    rw [hff] at hn ⊢
    by_cases e4 : n = p ∧ 0 < left
    · rw [if_pos e4, e4.1]; exact ⟨rfl, hw⟩
    · rw [if_neg e4] at hn ⊢; exact e2.struck n hn
theorem Onw.end_ (hf : Fits l) (hm : 0 < most) : Onw t l F t most l F most :=
  ⟨by omega, Int.le_refl _, rfl, hf, fun n => by omega, rfl, fun n h => absurd rfl h, fun _ _ _ _ => rfl, fun e => by omega⟩
end
end Go.Proofs.YtbbadnlaelgmlaaGreat.v5

namespace Go.Proofs.YtbbadnlaelgmlaaGreat.v5
open Go.RowKit Go.Shelf
attribute [local go_sem] Oper.semAt_some
set_option maxRecDepth 100000

/-- Numbers, as a slice. -/
def IntSl (w : World) (v : Value) (l : List Int) : Prop :=
  ∃ A c, v = .slice A l.length c ∧ l.length ≤ c ∧ c ≤ maxLen ∧ (A = none → c = 0) ∧ (0 < l.length → ∃ b o, A = some ⟨b, o, none⟩ ∧ b < w.heap.size ∧ ∀ j x, l[j]? = some x → w.cell? ⟨b, o + j, none⟩ = some (.int .i64 x))
theorem IntSl.on {w w' : World} {v : Value} {l : List Int} {B : Nat} (h : IntSl w v l) (hb : Below B w w') (hB : w.heap.size ≤ B) : IntSl w' v l := by
  obtain ⟨A, c, h1, h2, h3, h5, h4⟩ := h
  refine ⟨A, c, h1, h2, h3, h5, fun h0 => ?_⟩
  obtain ⟨b, o, e, hlt, hc⟩ := h4 h0
  exact ⟨b, o, e, Nat.lt_of_lt_of_le hlt hb.size, fun j x hj => (hb.cell (p := ⟨b, o + j, none⟩) (by show b < B; omega)).trans (hc j x hj)⟩
theorem IntSl.nil (w : World) : IntSl w (.slice none 0 0) [] := ⟨none, 0, rfl, Nat.le_refl _, Nat.zero_le _, fun _ => rfl, fun h => absurd h (Nat.lt_irrefl _)⟩
theorem IntSl.at_ {w : World} {v : Value} {l : List Int} (h : IntSl w v l) {k : Nat} {x : Int} (hk : l[k]? = some x) : ∃ b o c, v = .slice (some ⟨b, o, none⟩) l.length c ∧ b < w.heap.size ∧ l.length ≤ c ∧ c ≤ maxLen ∧ w.cell? ⟨b, o + k, none⟩ = some (.int .i64 x) := by
  obtain ⟨A, c, h1, h2, h3, -, h4⟩ := h
  obtain ⟨b, o, e, hlt, hc⟩ := h4 (by have := (List.getElem?_eq_some_iff.1 hk).1; omega)
  subst e
  exact ⟨b, o, c, h1, hlt, h2, h3, hc k x hk⟩
/-- Lists of numbers, as a slice of slices. -/
def LiSl (w : World) (v : Value) (ls : List (List Int)) : Prop :=
  ∃ A c, v = .slice A ls.length c ∧ ls.length ≤ c ∧ c ≤ maxLen ∧ (0 < ls.length → ∃ b o, A = some ⟨b, o, none⟩ ∧ b < w.heap.size ∧ ∀ j l, ls[j]? = some l → ∃ u, w.cell? ⟨b, o + j, none⟩ = some u ∧ IntSl w u l)
theorem LiSl.on {w w' : World} {v : Value} {ls : List (List Int)} {B : Nat} (h : LiSl w v ls) (hb : Below B w w') (hB : w.heap.size ≤ B) : LiSl w' v ls := by
  obtain ⟨A, c, h1, h2, h3, h4⟩ := h
  refine ⟨A, c, h1, h2, h3, fun h0 => ?_⟩
  obtain ⟨b, o, e, hlt, hc⟩ := h4 h0
  refine ⟨b, o, e, Nat.lt_of_lt_of_le hlt hb.size, fun j l hj => ?_⟩
  obtain ⟨u, hu, hl⟩ := hc j l hj
  exact ⟨u, (hb.cell (p := ⟨b, o + j, none⟩) (by show b < B; omega)).trans hu, hl.on hb hB⟩
theorem LiSl.at_ {w : World} {v : Value} {ls : List (List Int)} (h : LiSl w v ls) {k : Nat} {l : List Int} (hk : ls[k]? = some l) : ∃ b o c u, v = .slice (some ⟨b, o, none⟩) ls.length c ∧ b < w.heap.size ∧ ls.length ≤ c ∧ c ≤ maxLen ∧ w.cell? ⟨b, o + k, none⟩ = some u ∧ IntSl w u l := by
  obtain ⟨A, c, h1, h2, h3, h4⟩ := h
  obtain ⟨b, o, e, hlt, hc⟩ := h4 (by have := (List.getElem?_eq_some_iff.1 hk).1; omega)
  subst e
  obtain ⟨u, hu, hl⟩ := hc k l hk
  exact ⟨b, o, c, u, h1, hlt, h2, h3, hu, hl⟩
/-- Parts, as a slice. -/
def PtSl (w : World) (v : Value) (l : List (Int × Int × Int)) : Prop :=
  ∃ A c, v = .slice A l.length c ∧ l.length ≤ c ∧ c ≤ maxLen ∧ (0 < l.length → ∃ b o, A = some ⟨b, o, none⟩ ∧ b < w.heap.size ∧ ∀ j p, l[j]? = some p → w.cell? ⟨b, o + j * 3, none⟩ = some (.int .i64 p.1) ∧ w.cell? ⟨b, o + j * 3 + 1, none⟩ = some (.int .i64 p.2.1) ∧ w.cell? ⟨b, o + j * 3 + 2, none⟩ = some (.int .i64 p.2.2))
theorem PtSl.on {w w' : World} {v : Value} {l : List (Int × Int × Int)} {B : Nat} (h : PtSl w v l) (hb : Below B w w') (hB : w.heap.size ≤ B) : PtSl w' v l := by
  obtain ⟨A, c, h1, h2, h3, h4⟩ := h
  refine ⟨A, c, h1, h2, h3, fun h0 => ?_⟩
  obtain ⟨b, o, e, hlt, hc⟩ := h4 h0
  refine ⟨b, o, e, Nat.lt_of_lt_of_le hlt hb.size, fun j p hj => ?_⟩
  obtain ⟨c1, c2, c3⟩ := hc j p hj
  exact ⟨(hb.cell (p := ⟨b, o + j * 3, none⟩) (by show b < B; omega)).trans c1, (hb.cell (p := ⟨b, o + j * 3 + 1, none⟩) (by show b < B; omega)).trans c2, (hb.cell (p := ⟨b, o + j * 3 + 2, none⟩) (by show b < B; omega)).trans c3⟩
theorem PtSl.at_ {w : World} {v : Value} {l : List (Int × Int × Int)} (h : PtSl w v l) {k : Nat} {p : Int × Int × Int} (hk : l[k]? = some p) : ∃ b o c, v = .slice (some ⟨b, o, none⟩) l.length c ∧ b < w.heap.size ∧ l.length ≤ c ∧ c ≤ maxLen ∧ w.cell? ⟨b, o + k * 3, none⟩ = some (.int .i64 p.1) ∧ w.cell? ⟨b, o + k * 3 + 1, none⟩ = some (.int .i64 p.2.1) ∧ w.cell? ⟨b, o + k * 3 + 2, none⟩ = some (.int .i64 p.2.2) := by
  obtain ⟨A, c, h1, h2, h3, h4⟩ := h
  obtain ⟨b, o, e, hlt, hc⟩ := h4 (by have := (List.getElem?_eq_some_iff.1 hk).1; omega)
  subst e
  exact ⟨b, o, c, h1, hlt, h2, h3, hc k p hk⟩
/-- The cells of some blocks stand. -/
structure KpG (Gd : Nat → Prop) (X Y : World) : Prop where
  size : X.heap.size ≤ Y.heap.size
  same : ∀ (k : Nat) (cs : Array Value) (t : TypeId) (fr : Nat × Nat), Gd k → X.heap[k]? = some (.cells cs t fr) → Y.heap[k]? = some (.cells cs t fr)
/-- An iterator's own steps: S: where its blocks begin; m: how many boxes of its own it has. -/
structure OwnIt (S m : Nat) (X Y : World) : Prop where
  os : Y.os = X.os
  tape : Y.tape = X.tape
  output : Y.output = X.output
  size : X.heap.size ≤ Y.heap.size
  same : ∀ (k : Nat) (o : Obj), X.heap[k]? = some o → (k < S ∨ (o.isCells = true ∧ S + m ≤ k)) → Y.heap[k]? = some o
/-- What a round that goes on keeps: the cells of some blocks and of the iterator's boxes; what is no cells from S on. -/
structure KpIt (S m : Nat) (Gd : Nat → Prop) (X Y : World) : Prop where
  size : X.heap.size ≤ Y.heap.size
  cells : ∀ (k : Nat) (cs : Array Value) (t : TypeId) (fr : Nat × Nat), (Gd k ∨ (S ≤ k ∧ k < S + m)) → X.heap[k]? = some (.cells cs t fr) → Y.heap[k]? = some (.cells cs t fr)
  others : ∀ (k : Nat) (o : Obj), S ≤ k → X.heap[k]? = some o → o.isCells = false → Y.heap[k]? = some o
section
variable {Gd : Nat → Prop} {S m : Nat} {X Y Z : World}
theorem at_lt {X : World} {b : Nat} {o : Obj} (h : X.heap[b]? = some o) : b < X.heap.size := (Array.getElem?_eq_some_iff.1 h).1
theorem KpG.refl (X : World) : KpG Gd X X := ⟨Nat.le_refl _, fun _ _ _ _ _ h => h⟩
theorem KpG.trans (h : KpG Gd X Y) (k : KpG Gd Y Z) : KpG Gd X Z := ⟨Nat.le_trans h.size k.size, fun i cs t fr g hi => k.same i cs t fr g (h.same i cs t fr g hi)⟩
theorem KpG.of_below {B : Nat} (h : Below B X Y) (hB : X.heap.size ≤ B) : KpG Gd X Y := ⟨h.size, fun k _ _ _ _ hk => (h.block k (Nat.lt_of_lt_of_le (at_lt hk) hB)).trans hk⟩
theorem OwnIt.refl (X : World) : OwnIt S m X X := ⟨rfl, rfl, rfl, Nat.le_refl _, fun _ _ h _ => h⟩
theorem OwnIt.trans (h : OwnIt S m X Y) (k : OwnIt S m Y Z) : OwnIt S m X Z := ⟨k.os.trans h.os, k.tape.trans h.tape, k.output.trans h.output, Nat.le_trans h.size k.size, fun i o hi ho => k.same i o (h.same i o hi ho) ho⟩
theorem OwnIt.of_below {B : Nat} (h : Below B X Y) (hB : X.heap.size ≤ B) : OwnIt S m X Y := ⟨h.os, h.tape, h.output, h.size, fun k _ hk _ => (h.block k (Nat.lt_of_lt_of_le (at_lt hk) hB)).trans hk⟩
/-- The steps of an iterator within another one's. -/
theorem OwnIt.outer {S' m' : Nat} (h : OwnIt S' m' X Y) (hS : S ≤ S') (hm : m' = 0) : OwnIt S m X Y := ⟨h.os, h.tape, h.output, h.size, fun k o hk ho => h.same k o hk (by
  subst hm
  rcases Nat.lt_or_ge k S' with h1 | h1
  · exact .inl h1
  · rcases ho with h2 | h2
    · omega
    · exact .inr ⟨h2.1, h1⟩)⟩
theorem put_else {W : World} {l k : Nat} {o' : Obj} {o : Obj} (hk : W.heap[k]? = some o) (hne : k ≠ l) : (W.putObj l o').heap[k]? = some o := (World.putObj_heap_other hne).trans hk
theorem put_cells {l : Nat} {o o' : Obj} {k : Nat} {cs : Array Value} {T : TypeId} {fr : Nat × Nat} (hk : X.heap[k]? = some (.cells cs T fr)) (hl : X.heap[l]? = some o) (ho : o.isCells = false) : (X.putObj l o').heap[k]? = some (.cells cs T fr) :=
  put_else hk (fun e => by subst e; rw [hl] at hk; cases hk; cases ho)
theorem OwnIt.put {l : Nat} {o : Obj} (o' : Obj) (hS : S ≤ l) (hl : X.heap[l]? = some o) (ho : o.isCells = false) : OwnIt S m X (X.putObj l o') :=
  ⟨rfl, rfl, rfl, by simp, fun k u hk hu => put_else hk (fun e => by
    subst e
    rw [hl] at hk; cases hk
    rcases hu with h | h
    · omega
    · rw [ho] at h; cases h.1)⟩
theorem OwnIt.store {b : Nat} (h : S ≤ b) (h2 : b < S + m) (x : Value) (o : Nat) : OwnIt S m X (X.setCell ⟨b, o, none⟩ x) :=
  ⟨rfl, rfl, rfl, by simp [World.setCell], fun k u hk hu => by
    have hne : k ≠ b := by rcases hu with h1 | h1 <;> omega
    rw [Below.heap_setCell _ ⟨b, o, none⟩ x k hne]; exact hk⟩
theorem KpG.put {l : Nat} {o : Obj} (o' : Obj) (hl : X.heap[l]? = some o) (ho : o.isCells = false) : KpG Gd X (X.putObj l o') :=
  ⟨by simp, fun k cs t fr _ hk => put_cells hk hl ho⟩
theorem KpIt.refl (X : World) : KpIt S m Gd X X := ⟨Nat.le_refl _, fun _ _ _ _ _ h => h, fun _ _ _ h _ => h⟩
theorem KpIt.trans (h : KpIt S m Gd X Y) (k : KpIt S m Gd Y Z) : KpIt S m Gd X Z :=
  ⟨Nat.le_trans h.size k.size, fun i cs t fr g hi => k.cells i cs t fr g (h.cells i cs t fr g hi), fun i o hS hi ho => k.others i o hS (h.others i o hS hi ho) ho⟩
theorem KpIt.put {l : Nat} {o : Obj} (o' : Obj) (hS : l < S) (hl : X.heap[l]? = some o) (ho : o.isCells = false) : KpIt S m Gd X (X.putObj l o') :=
  ⟨by simp, fun k cs t fr _ hk => put_cells hk hl ho, fun k u hk hu _ => put_else hu (by omega)⟩
theorem KpIt.of_below {B : Nat} (h : Below B X Y) (hB : X.heap.size ≤ B) : KpIt S m Gd X Y :=
  ⟨h.size, fun k _ _ _ _ hk => (h.block k (Nat.lt_of_lt_of_le (at_lt hk) hB)).trans hk, fun k _ _ hk _ => (h.block k (Nat.lt_of_lt_of_le (at_lt hk) hB)).trans hk⟩
theorem KpIt.good (h : KpIt S m Gd X Y) : KpG Gd X Y := ⟨h.size, fun k cs t fr g hk => h.cells k cs t fr (.inl g) hk⟩
theorem KpIt.from (h : KpIt S m Gd X Y) : KeepsFrom S X Y := ⟨h.size, fun k o hS hk ho => h.others k o hS hk ho⟩
end
theorem YieldAt.any {m : Nat} (m' : Nat) {P : Program} {l : Nat} {args : Array Value} {W : World} {R : Ending → World → Prop} (h : YieldAt Fence.wide m P l args W R) : YieldAt Fence.wide m' P l args W R := by
  obtain ⟨fn, tmps, assign, body, hy, hR⟩ := h
  exact ⟨fn, tmps, assign, body, hy, ⟨hR.1, fun c cs _ => hR.2 c cs (room_wide _)⟩⟩
section
variable {α : Type} {n : Nat} {P : Program}
end
/-- All blocks but b stand. -/
structure But (b : Nat) (X Y : World) : Prop where
  os : Y.os = X.os
  tape : Y.tape = X.tape
  output : Y.output = X.output
  size : X.heap.size ≤ Y.heap.size
  same : ∀ (k : Nat) (o : Obj), k ≠ b → X.heap[k]? = some o → Y.heap[k]? = some o
section
variable {b : Nat} {X Y Z : World}
theorem But.refl (X : World) : But b X X := ⟨rfl, rfl, rfl, Nat.le_refl _, fun _ _ _ h => h⟩
theorem But.trans (h : But b X Y) (k : But b Y Z) : But b X Z := ⟨k.os.trans h.os, k.tape.trans h.tape, k.output.trans h.output, Nat.le_trans h.size k.size, fun i o ho hi => k.same i o ho (h.same i o ho hi)⟩
theorem But.of_below {B : Nat} (h : Below B X Y) (hB : X.heap.size ≤ B) : But b X Y := ⟨h.os, h.tape, h.output, h.size, fun k _ _ hk => (h.block k (Nat.lt_of_lt_of_le (at_lt hk) hB)).trans hk⟩
theorem But.store (x : Value) (o : Nat) : But b X (X.setCell ⟨b, o, none⟩ x) :=
  ⟨rfl, rfl, rfl, by simp [World.setCell], fun k u hne hk => by rw [Below.heap_setCell _ ⟨b, o, none⟩ x k hne]; exact hk⟩
theorem But.drewN (n : Nat) : But b X (X.drewN n) := ⟨rfl, rfl, rfl, Nat.le_refl _, fun _ _ _ h => h⟩
theorem But.drew : But b X X.drew := ⟨rfl, rfl, rfl, Nat.le_refl _, fun _ _ _ h => h⟩
theorem But.below {w : World} (h : But b X Y) (k : Below w.heap.size w X) (hb : w.heap.size ≤ b) : Below w.heap.size w Y := by
  refine ⟨h.os.trans k.os, h.tape.trans k.tape, h.output.trans k.output, Nat.le_trans k.size h.size, fun i hi => ?_⟩
  have hlt : i < X.heap.size := Nat.lt_of_lt_of_le hi k.size
  have h3 := Array.getElem?_eq_getElem hlt
  have := h.same i _ (by omega) h3
  rw [this, ← h3]
  exact k.block i hi
theorem But.good {Gd : Nat → Prop} (h : But b X Y) (hg : ∀ k, Gd k → k ≠ b) : KpG Gd X Y := ⟨h.size, fun k _ _ _ g hk => h.same k _ (hg k g) hk⟩
end
section
variable {Gd : Nat → Prop} {X Y : World}
theorem cell_kept {c o : Nat} {v : Value} (h : X.cell? ⟨c, o, none⟩ = some v) (hk : KpG Gd X Y) (g : Gd c) : Y.cell? ⟨c, o, none⟩ = some v := by
  obtain ⟨ob, hob, hcl⟩ := cells_of_cell h
  cases ob with
  | cells cs t fr => exact (World.cell?_of_block (a := ⟨c, o, none⟩) ((hk.same _ _ _ _ g hob).trans hob.symm)).trans h
  | _ => cases hcl
theorem IntSl.kept {w : World} {v : Value} {l : List Int} (h : IntSl w v l) (h1 : Below w.heap.size w X) (hk : KpG Gd X Y) (hg : ∀ k, k < w.heap.size → Gd k) : IntSl Y v l := by
  obtain ⟨A, c, h1', h2, h3, h5, h4⟩ := h
  refine ⟨A, c, h1', h2, h3, h5, fun h0 => ?_⟩
  obtain ⟨b, o, e, hlt, hc⟩ := h4 h0
  exact ⟨b, o, e, Nat.lt_of_lt_of_le hlt (Nat.le_trans h1.size hk.size), fun j x hj => cell_kept ((h1.cell (p := ⟨b, o + j, none⟩) hlt).trans (hc j x hj)) hk (hg b hlt)⟩
theorem LiSl.kept {w : World} {v : Value} {ls : List (List Int)} (h : LiSl w v ls) (h1 : Below w.heap.size w X) (hk : KpG Gd X Y) (hg : ∀ k, k < w.heap.size → Gd k) : LiSl Y v ls := by
  obtain ⟨A, c, h1', h2, h3, h4⟩ := h
  refine ⟨A, c, h1', h2, h3, fun h0 => ?_⟩
  obtain ⟨b, o, e, hlt, hc⟩ := h4 h0
  refine ⟨b, o, e, Nat.lt_of_lt_of_le hlt (Nat.le_trans h1.size hk.size), fun j l hj => ?_⟩
  obtain ⟨u, hu, hl⟩ := hc j l hj
  exact ⟨u, cell_kept ((h1.cell (p := ⟨b, o + j, none⟩) hlt).trans hu) hk (hg b hlt), hl.kept h1 hk hg⟩
theorem PtSl.kept {w : World} {v : Value} {l : List (Int × Int × Int)} (h : PtSl w v l) (h1 : Below w.heap.size w X) (hk : KpG Gd X Y) (hg : ∀ k, k < w.heap.size → Gd k) : PtSl Y v l := by
  obtain ⟨A, c, h1', h2, h3, h4⟩ := h
  refine ⟨A, c, h1', h2, h3, fun h0 => ?_⟩
  obtain ⟨b, o, e, hlt, hc⟩ := h4 h0
  refine ⟨b, o, e, Nat.lt_of_lt_of_le hlt (Nat.le_trans h1.size hk.size), fun j p hj => ?_⟩
  obtain ⟨c1, c2, c3⟩ := hc j p hj
  exact ⟨cell_kept ((h1.cell (p := ⟨b, o + j * 3, none⟩) hlt).trans c1) hk (hg b hlt), cell_kept ((h1.cell (p := ⟨b, o + j * 3 + 1, none⟩) hlt).trans c2) hk (hg b hlt), cell_kept ((h1.cell (p := ⟨b, o + j * 3 + 2, none⟩) hlt).trans c3) hk (hg b hlt)⟩
end
end Go.Proofs.YtbbadnlaelgmlaaGreat.v5

namespace Go.Proofs.YtbbadnlaelgmlaaGreat.v5
open Go.RowKit Go.Shelf
attribute [local go_sem] Oper.semAt_some
set_option maxRecDepth 100000

/-- A move has room, or none: R lies at ⟨b, o⟩. -/
def opR (b o : Nat) (X : World) (t : Nat) : Prop := ∃ x : Int, 0 < x ∧ X.cell? ⟨b, o + t, none⟩ = some (.int .i64 x)
theorem cell_block {X : World} {b o : Nat} {v : Value} (h : X.cell? ⟨b, o, none⟩ = some v) : ∃ cs t fr, X.heap[b]? = some (.cells cs t fr) := by
  obtain ⟨ob, hob, hcl⟩ := cells_of_cell h
  cases ob with
  | cells cs t fr => exact ⟨cs, t, fr, hob⟩
  | _ => cases hcl
theorem opR.below {b o t : Nat} {X Y : World} (h : opR b o X t) (hb : Below X.heap.size X Y) : opR b o Y t := by
  obtain ⟨x, h0, h1⟩ := h
  obtain ⟨cs, T, fr, hc⟩ := cell_block h1
  exact ⟨x, h0, (hb.cell (p := ⟨b, o + t, none⟩) (at_lt hc)).trans h1⟩
theorem opR.put {b o t : Nat} {X : World} {l : Nat} {ob ob' : Obj} (h : opR b o X t) (hl : X.heap[l]? = some ob) (hc : ob.isCells = false) : opR b o (X.putObj l ob') t := by
  obtain ⟨x, h0, h1⟩ := h
  obtain ⟨cs, T, fr, hb⟩ := cell_block h1
  refine ⟨x, h0, ?_⟩
  rw [← h1]
  exact World.cell?_of_block ((put_cells hb hl hc).trans hb.symm)
end Go.Proofs.YtbbadnlaelgmlaaGreat.v5

namespace Go.Proofs.YtbbadnlaelgmlaaGreat.v5
open Go.RowKit Go.Shelf
set_option maxRecDepth 100000

section
variable {P : Program} {ops : Array Oper} {Q : Exit → Act → World → Prop} {md : Region.Mode} {S : World → Prop} {z : Nat}
/-- Whatever order comes: S holds behind each operation but z. -/
def wpAnyZ (P : Program) (md : Region.Mode) (ops : Array Oper) (Q : Exit → Act → World → Prop) (S : World → Prop) (z : Nat) : Nat → Array Bool → Act → World → Prop
  | 0, listed, a, w => Region.ready md ops listed = [] ∧ Q .normal a w
  | fuel + 1, listed, a, w =>
    (Region.ready md ops listed = [] → Q .normal a w) ∧
    ∀ i ∈ Region.ready md ops listed, wpOp P ops Q i (fun a' w' => (i = z ∨ S w') ∧ wpAnyZ P md ops Q S z fuel (listed.setIfInBounds i true) a' w') a w
theorem any_of_z : ∀ (fuel : Nat) (listed : Array Bool) (a : Act) (w : World), wpAnyZ P md ops Q S z fuel listed a w → wpAny P md ops Q fuel listed a w
  | 0, _, _, _, h => h
  | fuel + 1, _, _, _, h => ⟨h.1, fun i hi => wpOp_mono (fun a' w' h' => any_of_z fuel _ a' w' h'.2) (h.2 i hi)⟩
/-- z waits for all others. -/
def waitsAll (md : Region.Mode) (ops : Array Oper) (z : Nat) : Bool :=
  match ops[z]? with
  | none => false
  | some o => (List.range ops.size).all fun k => k == z || o.after.any fun e => Region.binds md e && e.on == k
theorem waits_spec (hz : waitsAll md ops z = true) {listed : Array Bool} (hr : z ∈ Region.ready md ops listed) {i : Nat} (hi : i < ops.size) (hne : i ≠ z) : listed.getD i false = true := by
  obtain ⟨-, o, ho, hall⟩ := mem_ready.1 hr
  unfold waitsAll at hz
  rw [ho] at hz
  have h1 := List.all_eq_true.1 hz i (List.mem_range.2 hi)
  simp only [Bool.or_eq_true, beq_iff_eq] at h1
  rcases h1 with h1 | h1
  · exact absurd h1 hne
  · rw [← Array.any_toList, List.any_eq_true] at h1
    obtain ⟨e, he, hb⟩ := h1
    rw [Array.mem_toList_iff] at he
    simp only [Bool.and_eq_true, beq_iff_eq] at hb
    have := hall e he hb.1
    rw [hb.2] at this
    exact this
theorem not_both {listed : Array Bool} {i : Nat} (h1 : listed.getD i true = false) (h2 : listed.getD i false = true) : False := by
  by_cases hlt : i < listed.size
  · simp [hlt] at h1 h2
    rw [h1] at h2; cases h2
  · simp [Array.getElem?_eq_none (show listed.size ≤ i by omega)] at h1
theorem z_first {i : Nat} {oi : Oper} {v : Value} (hz : waitsAll md ops z = true) (hi : ops[i]? = some oi) (hsel : ∀ (j : Nat) (o : Oper) cs b, ops[j]? = some o → o.op ≠ .select cs b) (hQ : ∀ c a w, Q (.panic c) (a.put oi.dst v) w → Q (.panic c) a w) :
    ∀ (fuel : Nat) (listed : Array Bool) (a : Act) (w : World), (∀ j oj, ops[j]? = some oj → j ≠ i → listed.getD j true = false → (∀ e ∈ oj.after, Region.binds md e = true → e.on ≠ i) → oi.apart ops oj = true) →
      i ∈ Region.ready md ops listed → YieldsIf P ops S oi v a → S w → wpAnyZ P md ops Q S z fuel (listed.setIfInBounds i true) (a.put oi.dst v) w → wpAnyZ P md ops Q S z (fuel + 1) listed a w := by
  intro fuel
  induction fuel with
  | zero =>
    intro listed a w _ hr hy hS H
    refine ⟨fun h0 => ?_, fun j hj => ?_⟩
    · rw [h0] at hr; cases hr
    · rcases Nat.decEq j i with hne | heq
      · have h1 := ready_mono hj hne
        rw [H.1] at h1
        cases h1
      · subst heq
        exact hy.wpOp hi hS ⟨.inr hS, H⟩
  | succ fuel ih =>
    intro listed a w hfree hr hy hS H
    refine ⟨fun h0 => ?_, fun j hj => ?_⟩
    · rw [h0] at hr; cases hr
    rcases Nat.decEq j i with hne | heq
    · obtain ⟨hjun, oj, hoj, hall⟩ := mem_ready.1 hj
      have hi0 := (mem_ready.1 hr).1
      have hwait : ∀ e ∈ oj.after, Region.binds md e = true → e.on ≠ i := fun e he hb heq => not_both hi0 (by have h1 := hall e he hb; rw [heq] at h1; exact h1)
      have hjz : j ≠ z := fun e => by
        subst e
        exact not_both hi0 (waits_spec hz hj ((Array.getElem?_eq_some_iff.1 hi).1) (Ne.symm hne))
      have h2 := wpOp_putIf hoj (hfree j oj hoj hne hjun hwait) (fun cs b => hsel i oi cs b hi) (fun cs b => hsel j oj cs b hoj) hQ hy (H.2 j (ready_mono hj hne))
      refine wpOp_mono (fun a' w' h3 => ?_) h2
      obtain ⟨h4, h5, h6⟩ := h3
      have hSw : S w' := h5.resolve_left hjz
      refine ⟨.inr hSw, ih (listed.setIfInBounds j true) a' w' (fun k ok hk hki hun hno => hfree k ok hk hki ?_ hno) (ready_mono hr (Ne.symm hne)) h4 hSw ?_⟩
      · by_cases hjk : j = k
        · subst hjk; exact hjun
        · rw [getD_set_ne true hjk] at hun; exact hun
      · rw [Array.setIfInBounds_comm _ _ hne]
        exact h6
    · subst heq
      exact hy.wpOp hi hS ⟨.inr hS, H⟩
theorem takeZ (i : Nat) (d : Option Tmp) {oi : Oper} {v : Value} {fuel : Nat} {listed : Array Bool} {a : Act} {w : World} (hz : waitsAll md ops z = true) (hi : ops[i]? = some oi) (hd : oi.dst = d)
    (hs : Region.noSelect ops = true) (hf : Region.free md ops listed i = true) (hr : (Region.ready md ops listed).contains i = true)
    (hQ : ∀ c a w, Q (.panic c) (a.put d v) w → Q (.panic c) a w) (hw : Region.wanted oi (yielded ops a.tmps) = true) (hy : ∀ w, S w → (execOp a.eval oi).run P w = .ok (.value v) w) (hS : S w)
    (h : wpAnyZ P md ops Q S z fuel (listed.setIfInBounds i true) (a.put d v) w) : wpAnyZ P md ops Q S z (fuel + 1) listed a w := by
  subst hd
  exact z_first hz hi (Region.noSelect_spec hs) hQ fuel listed a w (Region.free_spec hi hf) (by simpa using hr) (.inl ⟨hw, hy⟩) hS h
/-- One operation alone may come up. -/
theorem oneZ (i : Nat) {oi : Oper} {fuel : Nat} {listed : Array Bool} {a : Act} {w : World} (hi : ops[i]? = some oi) (hr : Region.ready md ops listed = [i])
    (h : ∀ K : Act → World → Prop, _root_.Go.Shut (∀ a w, (i = z ∨ S w) → wpAnyZ P md ops Q S z fuel (listed.setIfInBounds i true) a w → K a w) → if Region.wanted oi (yielded ops a.tmps) = true then Oper.wp P oi a w K Q else K (a.put oi.dst undef) w) :
    wpAnyZ P md ops Q S z (fuel + 1) listed a w := by
  refine ⟨fun h0 => ?_, fun j hj => ?_⟩
  · rw [hr] at h0; cases h0
  · rw [hr] at hj
    obtain rfl : j = i := by simpa using hj
    exact wpOp_step hi fun K hK => h K fun a w h1 h2 => hK a w ⟨h1, h2⟩
theorem doneZ {listed : Array Bool} {a : Act} {w : World} (hr : Region.ready md ops listed = []) (h : Q .normal a w) : ∀ fuel, wpAnyZ P md ops Q S z fuel listed a w
  | 0 => ⟨hr, h⟩
  | _ + 1 => ⟨fun _ => h, by rw [hr]; simp⟩
theorem region_z {id : Nat} {a : Act} {w : World} (z : Nat) (hm : P.follows .mixedOrders = true) (hS : S w.drew) (h : S w.drew → wpAnyZ P .any ops Q S z ops.size (Array.replicate ops.size false) a w.drew) : (Code.region id ops true).wp P Q a w :=
  wp_region_any hm (any_of_z _ _ _ _ (h hS))
end
end Go.Proofs.YtbbadnlaelgmlaaGreat.v5
