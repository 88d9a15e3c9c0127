/-
  DERIVED. The reference's Least: plain facts, above (stage 6).
-/
import Derived.Test.YthghinkicaafmaaBR
namespace Go.Proofs.Ythghinkicaafmaa
open Go.RowKit
set_option maxRecDepth 100000

/-- The Carry found so far is the least that bears all stretches looked at so far. -/
def LsI (s lim : Int) (am : List Int) (i t : Nat) (K : Int) : Prop :=
  0 ≤ K ∧ ∀ C : Int, 0 ≤ C → (K ≤ C ↔ (∀ i' t' : Nat, ((i' < i ∧ i' ≤ t' ∧ t' < am.length) ∨ (i' = i ∧ i' ≤ t' ∧ t' < t)) → ((am.take (t' + 1)).drop i').sum - C * ((t' + 1 - i' : Nat) : Int) ≤ lim) ∧
    ∀ t' : Nat, ((0 < i ∧ t' < am.length) ∨ (i = 0 ∧ t' < t)) → s + (am.take (t' + 1)).sum - C * ((t' + 1 : Nat) : Int) ≤ lim)
theorem lsI_start (s lim : Int) (am : List Int) : LsI s lim am 0 0 0 :=
  ⟨Int.le_refl _, fun C hC => ⟨fun _ => ⟨fun i' t' h => by omega, fun t' h => by omega⟩, fun _ => hC⟩⟩
theorem lsI_next {s lim : Int} {am : List Int} {i : Nat} {K : Int} (h : LsI s lim am i am.length K) : LsI s lim am (i + 1) (i + 1) K := by
  refine ⟨h.1, fun C hC => (h.2 C hC).trans ⟨fun k => ⟨fun i' t' q => k.1 i' t' (by omega), fun t' q => k.2 t' (by omega)⟩, fun k => ⟨fun i' t' q => k.1 i' t' (by omega), fun t' q => k.2 t' (by omega)⟩⟩⟩
theorem lsI_step {s lim : Int} {am : List Int} {i t : Nat} {K A : Int} (h : LsI s lim am i t K) (hi : 0 < i) (hit : i ≤ t) (ht : t < am.length) (hA : A = abv ((am.take (t + 1)).drop i).sum ((t + 1 - i : Nat) : Int) lim) : LsI s lim am i (t + 1) (max K A) := by
  refine ⟨by have := h.1; omega, fun C hC => ?_⟩
  have h1 := h.2 C hC
  have h2 : A ≤ C ↔ ((am.take (t + 1)).drop i).sum - C * ((t + 1 - i : Nat) : Int) ≤ lim := by rw [hA]; exact abv_spec (by omega) hC
  constructor
  · intro hm
    obtain ⟨k1, k2⟩ := h1.1 (by omega)
    have k3 := h2.1 (by omega)
    refine ⟨fun i' t' q => ?_, fun t' q => k2 t' (by omega)⟩
    by_cases e : i' = i ∧ t' = t
    · rw [e.1, e.2]; exact k3
    · exact k1 i' t' (by omega)
  · rintro ⟨k1, k2⟩
    have q1 := h1.2 ⟨fun i' t' q => k1 i' t' (by omega), fun t' q => k2 t' (by omega)⟩
    have q2 := h2.2 (k1 i t (by omega))
    omega
theorem lsI_step0 {s lim : Int} {am : List Int} {t : Nat} {K A B : Int} (h : LsI s lim am 0 t K) (ht : t < am.length) (hA : A = abv ((am.take (t + 1)).drop 0).sum ((t + 1 - 0 : Nat) : Int) lim) (hB : B = abv (s + (am.take (t + 1)).sum) ((t + 1 : Nat) : Int) lim) : LsI s lim am 0 (t + 1) (max (max K A) B) := by
  refine ⟨by have := h.1; omega, fun C hC => ?_⟩
  have h1 := h.2 C hC
  have h2 : A ≤ C ↔ ((am.take (t + 1)).drop 0).sum - C * ((t + 1 - 0 : Nat) : Int) ≤ lim := by rw [hA]; exact abv_spec (by omega) hC
  have h3 : B ≤ C ↔ s + (am.take (t + 1)).sum - C * ((t + 1 : Nat) : Int) ≤ lim := by
    rw [hB]; exact abv_spec (by omega) hC
  constructor
  · intro hm
    obtain ⟨k1, k2⟩ := h1.1 (by omega)
    have k3 := h2.1 (by omega)
    have k4 := h3.1 (by omega)
    refine ⟨fun i' t' q => ?_, fun t' q => ?_⟩
    · by_cases e : i' = 0 ∧ t' = t
      · rw [e.1, e.2]; exact k3
      · exact k1 i' t' (by omega)
    · by_cases e : t' = t
      · rw [e]; exact k4
      · exact k2 t' (by omega)
  · rintro ⟨k1, k2⟩
    have q1 := h1.2 ⟨fun i' t' q => k1 i' t' (by omega), fun t' q => k2 t' (by omega)⟩
    have q2 := h2.2 (k1 0 t (by omega))
    have q3 := h3.2 (k2 t (by omega))
    omega
theorem lsI_end {s lim : Int} {am : List Int} {K : Int} (h : LsI s lim am am.length am.length K) (hs : 0 ≤ s) (h1 : s ≤ lim) : lstN s lim am = if K ≤ 100000000 then K.toNat else 100000001 := by
  have hen : ∀ C : Nat, enP s lim am (C : Int) = true ↔ K ≤ (C : Int) := fun C => by
    rw [enP_iff, h.2 (C : Int) (by omega), enough_iff hs h1 (by omega) am]
    exact ⟨fun k => ⟨fun i' t' q => k.1 i' t' (by omega) (by omega), fun t' q => k.2 t' (by omega)⟩, fun k => ⟨fun i' t' q1 q2 => k.1 i' t' (by omega), fun t' q => k.2 t' (by omega)⟩⟩
  have hf : ∀ C : Nat, (C : Int) < K → enP s lim am (C : Int) = false := fun C hC => by
    rw [Bool.eq_false_iff]; intro h2; have := (hen C).1 h2; omega
  have h0 := h.1
  split
  · exact lstN_eq (by omega) (fun h2 => hf _ (by omega)) (fun _ => (hen _).2 (by omega))
  · exact lstN_eq (Nat.le_refl _) (fun _ => hf _ (by omega)) (fun h2 => absurd h2 (Nat.lt_irrefl _))
theorem abv_bound {sum ticks lim M : Int} (ht : 0 < ticks) (hl : 0 ≤ lim) (hM : 0 ≤ M) (hs : sum ≤ M) : 0 ≤ abv sum ticks lim ∧ abv sum ticks lim ≤ M := by
  constructor
  · unfold abv
    split
    · have := Int.ediv_nonneg (show 0 ≤ sum - lim by omega) (show 0 ≤ ticks by omega)
      split <;> omega
    · omega
  · rw [abv_spec ht hM]
    have : M * 1 ≤ M * ticks := Int.mul_le_mul_of_nonneg_left (by omega) hM
    omega
set_option maxHeartbeats 4000000 in
theorem d_above (sum ticks lim : Int) (w : World) (hs : 0 ≤ sum ∧ sum ≤ 4000000000000000) (ht : 0 < ticks ∧ ticks ≤ 1001) (hl : 0 ≤ lim) :
    Calls Try.prog 42 #[.int .i64 sum, .int .i64 ticks, .int .i64 lim] w fun e w' => e = .returned (.int .i64 (abv sum ticks lim)) ∧ Below w.heap.size w w' := by
  rcases hd : decide (lim < sum) with _ | _
  · have hn : ¬ lim < sum := of_decide_eq_false hd
    have HE := Lib.hid (show abv sum ticks lim = 0 by unfold abv; rw [if_neg hn])
    clear hn
    go_enter Try.func42, Try.ntmps42
    go_wp2_with (fail)
    go_ret
    exact ⟨by rw [HE.out]; rfl, Below.refl _ _⟩
  · have hn : lim < sum := of_decide_eq_true hd
    obtain ⟨q, hq⟩ : ∃ q, q = (sum - lim) / ticks := ⟨_, rfl⟩
    have hq0 : 0 ≤ q := by rw [hq]; exact Int.ediv_nonneg (by omega) (by omega)
    have hqt : q * ticks ≤ sum - lim := by rw [hq]; exact Int.ediv_mul_le _ (by omega)
    have hqm : q * 1 ≤ q * ticks := Int.mul_le_mul_of_nonneg_left (by omega) hq0
    have htd : (sum - lim).tdiv ticks = q := by rw [hq]; exact Int.tdiv_eq_ediv_of_nonneg (by omega)
    have hw1 : IntKind.i64.wrap (sum - lim) = sum - lim := by rw [IntKind.wrap_i64]; omega
    have hw2 : IntKind.i64.wrap q = q := by rw [IntKind.wrap_i64]; omega
    have hw3 : IntKind.i64.wrap (q * ticks) = q * ticks := by rw [IntKind.wrap_i64]; omega
    have hw4 : IntKind.i64.wrap (q + 1) = q + 1 := by rw [IntKind.wrap_i64]; omega
    have ht0 : (ticks == 0) = false := by rw [beq_eq_false_iff_ne]; omega
    have ht1 : ¬ ticks = 0 := by omega
    rcases hc : decide (q * ticks < sum - lim) with _ | _
    · have HE := Lib.hid (show abv sum ticks lim = q by unfold abv; rw [if_pos hn, ← hq, if_neg (of_decide_eq_false hc)])
      clear hn hq hqt hqm
      go_enter Try.func42, Try.ntmps42
      go_wp2_with (fail)
      go_ret
      exact ⟨by rw [HE.out]; rfl, Below.refl _ _⟩
    · have HE := Lib.hid (show abv sum ticks lim = q + 1 by unfold abv; rw [if_pos hn, ← hq, if_pos (of_decide_eq_true hc)])
      clear hn hq hqt hqm
      go_enter Try.func42, Try.ntmps42
      go_wp2_with (fail)
      go_ret
      exact ⟨by rw [HE.out]; rfl, Below.refl _ _⟩
end Go.Proofs.Ythghinkicaafmaa
