/-
  DERIVED. The law FlowDual: plain facts (stage 5).
-/
import Derived.Test.YtglpaihadongkaaCA
set_option linter.unusedVariables false
set_option linter.unusedSimpArgs false
namespace Go.Proofs.Ytglpaihadongkaa
set_option linter.unusedSimpArgs false
set_option linter.unusedVariables false
open Go.RowKit Go.Shelf
set_option maxRecDepth 100000

theorem nats_contains (l : List Nat) (n : Nat) : (nats l).contains (n : Int) = l.contains n := by
  induction l with
  | nil => rfl
  | cons a l ih =>
    show ((n : Int) == (a : Int) || (nats l).contains (n : Int)) = (n == a || l.contains n)
    rw [ih]
    congr 1
    rw [Bool.eq_iff_iff, beq_iff_eq, beq_iff_eq]; omega
theorem filter_contains (f : Nat → Bool) {N n : Nat} (h : n < N) : ((List.range N).filter f).contains n = f n := by
  rw [Bool.eq_iff_iff, List.contains_iff_mem, List.mem_filter, List.mem_range]
  exact ⟨fun h => h.2, fun h2 => ⟨h, h2⟩⟩
theorem range_get {N k x : Nat} (h : (List.range N)[k]? = some x) : x = k := by
  obtain ⟨h1, h2⟩ := List.getElem?_eq_some_iff.1 h
  rw [List.getElem_range] at h2; exact h2.symm
theorem setOk_filter (f : Nat → Bool) (N : Nat) : setOk (N : Int) (nats ((List.range N).filter f)) = true := by
  unfold setOk
  rw [List.all_eq_true]
  intro i hi
  rw [List.mem_range, nats_len] at hi
  have hp : ((List.range N).filter f).Pairwise (· < ·) := List.pairwise_lt_range.filter _
  unfold okAt
  obtain ⟨x, hx⟩ : ∃ x, ((List.range N).filter f)[i]? = some x := ⟨_, List.getElem?_eq_getElem hi⟩
  have hxN : x < N := List.mem_range.1 (List.mem_filter.1 (List.mem_of_getElem? hx)).1
  have e1 : (nats ((List.range N).filter f)).getD i 0 = (x : Int) := by simp [nats_get hx]
  rw [e1, show ndOk (N : Int) (x : Int) = true from ndOk_iff.2 (by omega), Bool.true_and]
  by_cases h0 : i = 0
  · rw [decide_eq_true h0]; rfl
  · obtain ⟨z, hz⟩ : ∃ z, ((List.range N).filter f)[i - 1]? = some z := ⟨_, List.getElem?_eq_getElem (by omega)⟩
    have e2 : (nats ((List.range N).filter f)).getD (i - 1) 0 = (z : Int) := by simp [nats_get hz]
    have hlt : z < x := by
      obtain ⟨g1, g2⟩ := List.getElem?_eq_some_iff.1 hz
      obtain ⟨g3, g4⟩ := List.getElem?_eq_some_iff.1 hx
      have := (List.pairwise_iff_getElem.1 hp) (i - 1) i g1 g3 (by omega)
      rw [g2, g4] at this; exact this
    rw [e2, decide_eq_true (show (z : Int) < (x : Int) by omega), Bool.or_true]
theorem capS_congr {N : Nat} {S T : Nat → Bool} (h : ∀ n, n < N → S n = T n) : ∀ {l : List Ar}, (∀ a ∈ l, a.u < N ∧ a.v < N) → capS l S = capS l T
  | [], _ => rfl
  | a :: l, hl => by
    rw [capS_cons, capS_cons, capS_congr h (fun b hb => hl b (List.mem_cons_of_mem _ hb)), h _ (hl a (by simp)).1, h _ (hl a (by simp)).2]
theorem capL_capS (S : List Int) : ∀ {l : List (Int × Int × Int)}, (∀ a ∈ l, 0 ≤ a.1 ∧ 0 ≤ a.2.1) → capL S l = capS (arsOf l) fun n => S.contains (n : Int)
  | [], _ => rfl
  | a :: l, hl => by
    have ih := capL_capS S (l := l) (fun b hb => hl b (List.mem_cons_of_mem _ hb))
    obtain ⟨h1, h2⟩ := hl a (by simp)
    have e : capL S (a :: l) = capOf S a + capL S l := by simp [capL]
    show capL S (a :: l) = capS (arOf a :: arsOf l) _
    rw [e, capS_cons, ih]
    congr 1
    show capOf S a = if (S.contains ((a.1.toNat : Nat) : Int) && !S.contains ((a.2.1.toNat : Nat) : Int)) then a.2.2 else 0
    rw [Int.toNat_of_nonneg h1, Int.toNat_of_nonneg h2]
    rfl
theorem capL_filter {N : Nat} {l : List (Int × Int × Int)} (hok : ntOk (N : Int) l = true) (f : Nat → Bool) : capL (nats ((List.range N).filter f)) l = capS (arsOf l) f := by
  have hall := (ntOk_iff.1 hok).2.2.2
  rw [capL_capS _ (fun a ha => ⟨(arOk_iff.1 (hall a ha)).1.1, (arOk_iff.1 (hall a ha)).2.1.1⟩)]
  refine capS_congr (N := N) (fun n hn => ?_) (fun a ha => ⟨(arsOf_nodes hall a ha).1, (arsOf_nodes hall a ha).2.1⟩)
  rw [nats_contains, filter_contains f hn]
theorem acr_filter {N : Nat} {l : List (Int × Int × Int)} (hok : ntOk (N : Int) l = true) (f : Nat → Bool) : acrV (N : Int) l (nats ((List.range N).filter f)) = (capS (arsOf l) f, 0) := by
  unfold acrV
  rw [if_pos hok, if_pos (setOk_filter f N), capL_filter hok f]
theorem Best.cut {N s t : Nat} {l : List (Int × Int × Int)} {lf : List Ar} {v : Int} (h : Best N s t l lf v) (hs : s < N) :
    v = capS (arsOf l) (reachB lf s) ∧ reachB lf s s = true ∧ reachB lf s t = false ∧ (∀ S : Nat → Bool, S s = true → S t = false → v ≤ capS (arsOf l) S ∧ (capS (arsOf l) S = v → ∀ n, reachB lf s n = true → S n = true)) := by
  obtain ⟨h1, h2, h3⟩ := h.gr.cut hs
  refine ⟨by rw [← capS_ends h.ends_]; exact h1, (reachB_iff _ _ _).2 Reach.here, reachB_no h.no, fun S a b => ⟨by rw [← capS_ends h.ends_]; exact h2 S a b, fun e n hn => h3 S a b (by rw [capS_ends h.ends_]; exact e) n ((reachB_iff _ _ _).1 hn)⟩⟩
end Go.Proofs.Ytglpaihadongkaa
