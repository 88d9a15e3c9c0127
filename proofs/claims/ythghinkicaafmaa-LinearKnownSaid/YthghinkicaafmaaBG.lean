/-
  DERIVED. The law LinearLeast (stage 6).
-/
import Derived.Test.YthghinkicaafmaaBF
namespace Go.Proofs.Ythghinkicaafmaa
open Go.RowKit
set_option maxRecDepth 100000

theorem giv_le {ins : List (List Int)} {M : Int} (hM : 0 ≤ M) (h : ∀ l ∈ ins, ∀ x ∈ l, 0 ≤ x ∧ x ≤ M) (s t : Int) : 0 ≤ giv ins s t ∧ giv ins s t ≤ M := by
  unfold giv
  split
  · omega
  · rcases h1 : ins[s.toNat]? with _ | l
    · exact ⟨Int.le_refl _, hM⟩
    · rcases h2 : l[t.toNat]? with _ | x
      · simp [h2]; exact hM
      · have := h l (List.mem_of_getElem? h1) x (List.mem_of_getElem? h2)
        simp [h2]
        exact this
theorem arr_small {q0 q1 r0 r1 : Int} {ins : List (List Int)} (hq : 0 ≤ q0 ∧ q0 ≤ 3 ∧ 0 ≤ q1 ∧ q1 ≤ 3) {M : Int} (hM : 0 ≤ M) (h : ∀ l ∈ ins, ∀ x ∈ l, 0 ≤ x ∧ x ≤ M) (t : Int) : 0 ≤ arr (mdP q0 q1 r0 r1) ins t ∧ arr (mdP q0 q1 r0 r1) ins t ≤ 6 * M := by
  have e : arr (mdP q0 q1 r0 r1) ins t = q0 * giv ins 0 (t - r0) + (q1 * giv ins 1 (t - r1) + 0) := rfl
  obtain ⟨a1, a2⟩ := giv_le hM h 0 (t - r0)
  obtain ⟨b1, b2⟩ := giv_le hM h 1 (t - r1)
  have h1 := Int.mul_le_mul hq.2.1 a2 a1 (by omega : (0 : Int) ≤ 3)
  have h2 := Int.mul_le_mul hq.2.2.2 b2 b1 (by omega : (0 : Int) ≤ 3)
  have h3 := Int.mul_nonneg hq.1 a1
  have h4 := Int.mul_nonneg hq.2.2.1 b1
  rw [e]
  omega
theorem ldL_small {l : List Nat} (h : ∀ x ∈ l, x ≤ 255) : ∀ x ∈ ldL l, 0 ≤ x ∧ x ≤ 255 := by
  intro x hx
  unfold ldL at hx
  obtain ⟨y, hy, rfl⟩ := List.mem_map.1 hx
  have := h y (List.mem_of_mem_take hy)
  omega
/-- A Carry above all that arrives keeps each limit that the start keeps. -/
theorem lvE_great {C s lim : Int} (_h0 : 0 ≤ lim) (hs : 0 ≤ s ∧ s ≤ lim) : ∀ (l : List Int), (∀ a ∈ l, lim + a ≤ C) → lvE C s l ≤ lim ∧ 0 ≤ lvE C s l := by
  intro l
  induction l generalizing s with
  | nil => intro _; exact ⟨hs.2, hs.1⟩
  | cons a l ih =>
    intro h
    have ha := h a (by simp)
    exact ih (s := lv1 C s a) (by unfold lv1; omega) (fun x hx => h x (List.mem_cons_of_mem _ hx))
theorem lstN_small {s lim : Int} {am : List Int} (h0 : 0 ≤ lim ∧ lim ≤ 255) (hs : 0 ≤ s ∧ s ≤ lim) (h : ∀ a ∈ am, 0 ≤ a ∧ a ≤ 1530) : lstN s lim am ≤ 100000000 := by
  have he : enP s lim am ((100000000 : Nat) : Int) = true := by
    rw [enP_iff]
    intro m _
    exact (lvE_great h0.1 hs (am.take m) (fun a ha => by have := h a (List.mem_of_mem_take ha); omega)).1
  rcases Nat.lt_or_ge 100000000 (lstN s lim am) with hlt | hge
  · exfalso
    unfold lstN at hlt
    rcases hf : (List.range 100000001).find? (fun C : Nat => enP s lim am (C : Int)) with _ | C
    · rw [List.find?_eq_none] at hf
      exact hf 100000000 (List.mem_range.2 (by omega)) he
    · rw [hf] at hlt
      have := List.mem_range.1 (List.mem_of_find?_eq_some hf)
      have hlt' : 100000000 < C := hlt
      omega
  · exact hge
theorem lstN_spec {s lim : Int} {am : List Int} (h : lstN s lim am ≤ 100000000) : enP s lim am ((lstN s lim am : Nat) : Int) = true ∧ ∀ C : Nat, C < lstN s lim am → enP s lim am (C : Int) = false := by
  unfold lstN at h ⊢
  rcases hf : (List.range 100000001).find? (fun C : Nat => enP s lim am (C : Int)) with _ | C
  · rw [hf] at h
    have h' : 100000001 ≤ 100000000 := h
    omega
  · have h1 := List.find?_some hf
    rw [List.find?_range_eq_some] at hf
    refine ⟨h1, fun D hD => ?_⟩
    have := hf.2.2 D hD
    simpa using this
theorem lstN_none {s lim : Int} {am : List Int} (h : lim < s) : lstN s lim am = 100000001 := by
  refine lstN_eq (Nat.le_refl _) (fun _ => ?_) (fun h => absurd h (Nat.lt_irrefl _))
  rw [Bool.eq_false_iff]
  intro he
  rw [enP_iff] at he
  have h0 := he 0 (Nat.zero_le _)
  have h1 : s ≤ lim := h0
  omega
theorem frs_some {lim : Int} {l : List Int} (h : frs lim l ≠ -1) : ∃ (i : Nat) (x : Int), frs lim l = (i : Int) ∧ l[i]? = some x ∧ lim < x ∧ ∀ (j : Nat) (y : Int), j < i → l[j]? = some y → y ≤ lim := by
  unfold frs at h ⊢
  rcases hf : l.findIdx? (fun x => decide (lim < x)) with _ | i
  · rw [hf] at h; exact absurd rfl h
  · obtain ⟨hi, hp, hb⟩ := List.findIdx?_eq_some_iff_getElem.1 hf
    refine ⟨i, l[i], rfl, List.getElem?_eq_getElem hi, by simpa using hp, fun j y hj hy => ?_⟩
    have hjl : j < l.length := by omega
    rw [List.getElem?_eq_getElem hjl] at hy
    injection hy with hy
    have := hb j hj
    simp at this
    omega
end Go.Proofs.Ythghinkicaafmaa
