/-
  PLAIN. The greatest net of the law FlowKnown: a line of 64 nodes with two arcs from each to the next (stage 5): no program is named.
-/
import Derived.Test.YtglpaihadongkaaBY
import Derived.Test.YtglpaihadongkaaEA
namespace Go.Proofs.Ytglpaihadongkaa
set_option linter.unusedSimpArgs false
set_option linter.unusedVariables false
set_option maxRecDepth 100000

def lnAr (c x : Nat → Int × Int) (K : Nat) : List Ar := (List.range K).flatMap fun k => [⟨k, k + 1, (c k).1, (x k).1⟩, ⟨k, k + 1, (c k).2, (x k).2⟩]
section
variable {c x : Nat → Int × Int}
theorem lnAr_succ (c x : Nat → Int × Int) (K : Nat) : lnAr c x (K + 1) = (lnAr c x K ++ [⟨K, K + 1, (c K).1, (x K).1⟩]) ++ [⟨K, K + 1, (c K).2, (x K).2⟩] := by
  unfold lnAr
  rw [List.range_succ, List.flatMap_append]
  simp
theorem lnAr_mem {K : Nat} {a : Ar} (h : a ∈ lnAr c x K) : ∃ k, k < K ∧ a.u = k ∧ a.v = k + 1 ∧ ((a.cap = (c k).1 ∧ a.x = (x k).1) ∨ (a.cap = (c k).2 ∧ a.x = (x k).2)) := by
  unfold lnAr at h
  rw [List.mem_flatMap] at h
  obtain ⟨k, hk, ha⟩ := h
  rcases List.mem_cons.1 ha with rfl | ha
  · exact ⟨k, List.mem_range.1 hk, rfl, rfl, .inl ⟨rfl, rfl⟩⟩
  · rw [List.mem_singleton] at ha
    subst ha
    exact ⟨k, List.mem_range.1 hk, rfl, rfl, .inr ⟨rfl, rfl⟩⟩
theorem gain_ln (K n : Nat) : gain (lnAr c x K) n = (if n < K then (x n).1 + (x n).2 else 0) - (if 0 < n ∧ n ≤ K then (x (n - 1)).1 + (x (n - 1)).2 else 0) := by
  induction K with
  | zero =>
    have : ¬ (0 < n ∧ n ≤ 0) := by omega
    rw [if_neg this, if_neg (by omega)]; rfl
  | succ K ih =>
    rw [lnAr_succ, gain_snoc, gain_snoc, ih]
    simp only
    by_cases e1 : n = K
    · subst e1
      rw [if_neg (Nat.lt_irrefl _), if_pos (Nat.lt_succ_self n), if_pos rfl, if_pos rfl, if_neg (by omega : ¬ n + 1 = n), if_neg (by omega : ¬ n + 1 = n)]
      by_cases e2 : 0 < n
      · rw [if_pos ⟨e2, Nat.le_refl _⟩, if_pos ⟨e2, Nat.le_succ _⟩]; omega
      · rw [if_neg (fun h => e2 h.1), if_neg (fun h => e2 h.1)]; omega
    · by_cases e2 : n = K + 1
      · subst e2
        rw [if_neg (by omega : ¬ K + 1 < K), if_neg (by omega : ¬ K + 1 < K + 1), if_neg (by omega : ¬ (0 < K + 1 ∧ K + 1 ≤ K)), if_pos (by omega : 0 < K + 1 ∧ K + 1 ≤ K + 1), if_neg (by omega : ¬ K = K + 1), if_neg (by omega : ¬ K = K + 1), if_pos rfl, if_pos rfl, Nat.add_sub_cancel]
        omega
      · have a1 : ¬ K = n := fun h => e1 h.symm
        have a2 : ¬ K + 1 = n := fun h => e2 h.symm
        rw [if_neg a1, if_neg a2, if_neg a1, if_neg a2]
        by_cases e3 : n < K
        · rw [if_pos e3, if_pos (by omega : n < K + 1)]
          by_cases e4 : 0 < n
          · rw [if_pos ⟨e4, by omega⟩, if_pos ⟨e4, by omega⟩]; omega
          · rw [if_neg (fun h => e4 h.1), if_neg (fun h => e4 h.1)]; omega
        · rw [if_neg e3, if_neg (by omega : ¬ n < K + 1), if_neg (by omega : ¬ (0 < n ∧ n ≤ K)), if_neg (by omega : ¬ (0 < n ∧ n ≤ K + 1))]; omega
theorem capS_snoc (l : List Ar) (a : Ar) (S : Nat → Bool) : capS (l ++ [a]) S = capS l S + if S a.u && !S a.v then a.cap else 0 := by
  unfold capS
  rw [List.map_append, List.sum_append]; simp
theorem capS_ln (j K : Nat) : capS (lnAr c x K) (fun n => decide (n ≤ j)) = if j < K then (c j).1 + (c j).2 else 0 := by
  induction K with
  | zero => rw [if_neg (by omega)]; rfl
  | succ K ih =>
    rw [lnAr_succ, capS_snoc, capS_snoc, ih]
    simp only
    by_cases e : K = j
    · subst e
      have : (decide (K ≤ K) && !decide (K + 1 ≤ K)) = true := by simp
      rw [if_neg (Nat.lt_irrefl _), if_pos (Nat.lt_succ_self _), if_pos this, if_pos this]; omega
    · have : (decide (K ≤ j) && !decide (K + 1 ≤ j)) = false := by
        rcases Nat.lt_or_gt_of_ne e with h | h
        · simp; omega
        · simp; omega
      rw [this]
      simp only [Bool.false_eq_true, if_false]
      by_cases e2 : j < K
      · rw [if_pos e2, if_pos (by omega)]; omega
      · rw [if_neg e2, if_neg (by omega)]; omega
/-- A greatest flow along a line. -/
theorem ln_gr {K : Nat} {e : List (Nat × Nat × Int)} {v : Int} (he : ends (lnAr c x K) = e) (hf : ∀ k, k < K → 0 ≤ (x k).1 ∧ (x k).1 ≤ (c k).1 ∧ 0 ≤ (x k).2 ∧ (x k).2 ≤ (c k).2) (hv : ∀ k, k < K → (x k).1 + (x k).2 = v) (j : Nat) (hj : j < K) (hc : (c j).1 + (c j).2 ≤ v) : Gr (K + 1) e 0 K (lnAr c x K) v := by
  have hF : IsFlow (K + 1) (lnAr c x K) 0 K := by
    refine ⟨fun a ha => ?_, fun a ha => ?_, fun n hn h1 h2 => ?_⟩
    · obtain ⟨k, hk, e1, e2, -⟩ := lnAr_mem ha; omega
    · obtain ⟨k, hk, -, -, h⟩ := lnAr_mem ha
      have := hf k hk
      rcases h with ⟨e1, e2⟩ | ⟨e1, e2⟩ <;> omega
    · rw [gain_ln, if_pos (by omega : n < K), if_pos (by omega : 0 < n ∧ n ≤ K), hv n (by omega), hv (n - 1) (by omega)]; omega
  have hg : gain (lnAr c x K) 0 = v := by rw [gain_ln, if_pos (by omega : 0 < K), if_neg (by omega), hv 0 (by omega)]; omega
  have := Gr.of_cut hF he (by omega) (S := fun n => decide (n ≤ j)) (by simp) (by simp; omega) (by rw [capS_ln, if_pos hj, hg]; exact hc)
  rw [hg] at this
  exact this
end
def bigL : List (Int × Int × Int) := (List.range 63).flatMap fun (k : Nat) => [((k : Int), (k : Int) + 1, 100000000), ((k : Int), (k : Int) + 1, 100000000 - (k : Int))]
def bigC (k : Nat) : Int × Int := (100000000, 100000000 - (k : Int))
def bigX (_ : Nat) : Int × Int := (100000000, 99999938)
theorem big_gr : Gr 64 (ends (arsOf bigL)) 0 63 (lnAr bigC bigX 63) 199999938 :=
  ln_gr (K := 63) (by decide +kernel) (fun k hk => by unfold bigX bigC; simp only; omega) (fun k hk => rfl) 62 (by decide) (by decide)
theorem big_val {lf : List Ar} {val : Int} (h : Gr 64 (ends (arsOf bigL)) 0 63 lf val) : val = 199999938 := (h.uniq big_gr (by decide)).1
theorem big_step : ∀ k, k < 62 → mvFrom (lnAr bigC bigX 63) (mvOf (2 * k + 1) false) = some k ∧ mvTo (lnAr bigC bigX 63) (mvOf (2 * k + 1) false) = some (k + 1) ∧ 0 < mvRoom (lnAr bigC bigX 63) (mvOf (2 * k + 1) false) := by decide +kernel
theorem big_reach : ∀ k, k ≤ 62 → Reach (lnAr bigC bigX 63) 0 k
  | 0, _ => Reach.here
  | k + 1, h => by
    obtain ⟨h1, h2, h3⟩ := big_step k (by omega)
    exact reach_move h1 h2 h3 (big_reach k (by omega))
theorem big_cut {lf : List Ar} {val : Int} (h : Gr 64 (ends (arsOf bigL)) 0 63 lf val) : (List.range 64).filter (reachB lf 0) = List.range 63 := by
  have hc := (big_gr.cut (by decide)).2.2 (fun n => decide (n ≤ 62)) rfl rfl (by rw [capS_ln]; decide)
  have e : ∀ n, reachB lf 0 n = decide (n ≤ 62) := fun n => by
    rw [Bool.eq_iff_iff, reachB_iff, (h.uniq big_gr (by decide)).2 n]
    exact ⟨fun hr => hc n hr, fun hn => big_reach n (of_decide_eq_true hn)⟩
  rw [List.filter_congr (fun n _ => e n)]
  decide
def atC (i k : Nat) : Int × Int := if k = i / 2 then (if i % 2 = 0 then (0, 100000000 - (k : Int)) else (100000000, 0)) else bigC k
def atV (i : Nat) : Int := if i % 2 = 0 then 100000000 - ((i / 2 : Nat) : Int) else 100000000
def atX (i k : Nat) : Int × Int := if k = i / 2 then (if i % 2 = 0 then (0, atV i) else (atV i, 0)) else (atV i, 0)
theorem at_ends : ∀ i, i < 126 → ends (lnAr (atC i) (atX i) 63) = ends (arsOf (zeroAt bigL i)) := by decide +kernel
theorem at_gr {i : Nat} (hi : i < 126) : Gr 64 (ends (arsOf (zeroAt bigL i))) 0 63 (lnAr (atC i) (atX i) 63) (atV i) := by
  have h2 : i / 2 < 63 := by omega
  refine ln_gr (K := 63) (at_ends i hi) (fun k hk => ?_) (fun k hk => ?_) (i / 2) h2 ?_
  · unfold atX atC bigC
    by_cases e : k = i / 2
    · rw [if_pos e, if_pos e]
      unfold atV
      by_cases e2 : i % 2 = 0
      · rw [if_pos e2, if_pos e2, if_pos e2]; simp only; omega
      · rw [if_neg e2, if_neg e2, if_neg e2]; simp only; omega
    · rw [if_neg e, if_neg e]
      unfold atV
      simp only
      split <;> omega
  · unfold atX
    by_cases e : k = i / 2
    · rw [if_pos e]
      by_cases e2 : i % 2 = 0
      · rw [if_pos e2]; simp only; omega
      · rw [if_neg e2]; simp only; omega
    · rw [if_neg e]; simp only; omega
  · unfold atC atV
    rw [if_pos rfl]
    by_cases e2 : i % 2 = 0
    · rw [if_pos e2, if_pos e2]; simp only; omega
    · rw [if_neg e2, if_neg e2]; simp only; omega
theorem big_crit {lf : List Ar} {val : Int} (h : Gr 64 (ends (arsOf bigL)) 0 63 lf val) : (List.range 126).filter (crAt 64 0 63 bigL val) = List.range 126 := by
  obtain rfl := big_val h
  rw [List.filter_eq_self]
  intro i hi
  rw [crAt_best (at_gr (List.mem_range.1 hi)).best (by decide)]
  refine decide_eq_true ?_
  unfold atV
  split <;> omega
end Go.Proofs.Ytglpaihadongkaa
