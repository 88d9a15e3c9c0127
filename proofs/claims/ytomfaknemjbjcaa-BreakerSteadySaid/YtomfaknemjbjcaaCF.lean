/-
  DERIVED. What the courses of a steady load show.
-/
import Derived.Test.YtomfaknemjbjcaaCE
namespace Go.Proofs.Ytomfaknemjbjcaa

theorem course_get (L S F : Int) : ∀ (l : List Int) (x : Int × Bool) (i : Nat), i ≤ l.length → (x :: crs L S F x l)[i]? = some ((l.take i).foldl (nx L S F) x) := by
  intro l
  induction l with
  | nil => intro x i h; obtain rfl : i = 0 := (by simpa using h); rfl
  | cons w l ih =>
    intro x i h
    cases i with
    | zero => rfl
    | succ i => exact ih _ i (by simpa using h)
def stAt (L S F h w : Int) (k : Nat) : Int × Bool := (List.replicate k w).foldl (nx L S F) (h, false)
theorem stAt_succ (L S F h w : Int) (k : Nat) : stAt L S F h w (k + 1) = nx L S F (stAt L S F h w k) w := by
  unfold stAt
  rw [List.replicate_succ', List.foldl_append]
  rfl
def steadyC (L S F h w : Int) : List (Int × Bool) := (h, false) :: crs L S F (h, false) (List.replicate 300 w)
theorem steadyC_get (L S F h w : Int) (k : Nat) (hk : k ≤ 300) : (steadyC L S F h w)[k]? = some (stAt L S F h w k) := by
  unfold steadyC stAt
  rw [course_get _ _ _ _ _ _ (by rw [List.length_replicate]; exact hk), List.take_replicate, Nat.min_eq_left hk]
theorem steadyC_len (L S F h w : Int) : (steadyC L S F h w).length = 301 := by
  unfold steadyC
  rw [List.length_cons, crs_len, List.length_replicate]
theorem steadyC_at {L S F h w : Int} {i : Nat} {y : Int × Bool} (h1 : (steadyC L S F h w)[i]? = some y) : i ≤ 300 ∧ y = stAt L S F h w i := by
  have hi := (List.getElem?_eq_some_iff.1 h1).1
  rw [steadyC_len] at hi
  rw [steadyC_get L S F h w i (by omega)] at h1
  injection h1 with h1
  exact ⟨by omega, h1.symm⟩
section
variable {L S F h w : Int}
/-- A load of at most Limit. -/
theorem stAt_low (hS : S ≤ 255) (h0 : 0 ≤ h) (hh : h ≤ S) (hw : w ≤ L) (hF : L ≤ F) (k : Nat) : stAt L S F h w k = (max 0 (h - (k : Int) * (L - w)), false) := by
  induction k with
  | zero => unfold stAt; simp; omega
  | succ k ih =>
    rw [stAt_succ, ih, nx_live]
    have e : ((k + 1 : Nat) : Int) * (L - w) = (k : Int) * (L - w) + (L - w) := by push_cast; rw [Int.add_mul]; omega
    have p : 0 ≤ (k : Int) * (L - w) := Int.mul_nonneg (by omega) (by omega)
    rw [e]
    generalize (k : Int) * (L - w) = z at *
    rw [decide_eq_false (by omega), decide_eq_false (by omega)]
    congr 1
    omega
/-- A greater load, as long as it is borne. -/
theorem stAt_high (hS : S ≤ 255) (h0 : 0 ≤ h) (hw : L < w) (hF : w ≤ F) (k : Nat) (hk : h + (k : Int) * (w - L) ≤ S) : stAt L S F h w k = (h + (k : Int) * (w - L), false) := by
  induction k with
  | zero => unfold stAt; simp
  | succ k ih =>
    have e : ((k + 1 : Nat) : Int) * (w - L) = (k : Int) * (w - L) + (w - L) := by push_cast; rw [Int.add_mul]; omega
    rw [stAt_succ, ih (by omega)]
    have := nx_rise (L := L) (S := S) (F := F) (by omega) h0 hw hF (k : Int) (by omega) (by push_cast at hk; exact hk)
    rw [this]
    push_cast
    rfl
theorem stAt_tripped {k : Nat} (hk : (stAt L S F h w k).2 = true) (j : Nat) : (stAt L S F h w (k + j)).2 = true := by
  induction j with
  | zero => exact hk
  | succ j ih =>
    rw [← Nat.add_assoc, stAt_succ]
    generalize stAt L S F h w (k + j) = x at *
    obtain ⟨a, t⟩ := x
    obtain rfl : t = true := ih
    rfl
theorem col_zero : col L 0 w = 0 := rfl
theorem steady_main (h1 : 0 ≤ L) (hF : L ≤ F) (hS0 : 0 ≤ S) (hS : S ≤ 255) (h0 : 0 ≤ h) (hh : h ≤ S) :
    (lst L S F h w = -1 ↔ w ≤ L) ∧ (lst L S F h w = -1 → fidx (fun x => x.2) (steadyC L S F h w) = none) ∧ (lst L S F h w ≠ -1 → optI (fidx (fun x => x.2) (steadyC L S F h w)) = lst L S F h w + 1) ∧ optI (fidx coldB (steadyC L S F h w)) = col L h w := by
  by_cases hw : w ≤ L
  · have hl : lst L S F h w = -1 := by unfold lst; rw [if_pos hw]
    have hat : ∀ k : Nat, stAt L S F h w k = (max 0 (h - (k : Int) * (L - w)), false) := stAt_low hS h0 hh hw hF
    refine ⟨⟨fun _ => hw, fun _ => hl⟩, fun _ => fidx_none _ _ fun i y hy => by rw [(steadyC_at hy).2, hat], fun h => absurd hl h, ?_⟩
    rcases Int.lt_or_le w L with hlt | hge
    · by_cases hz : h = 0
      · subst hz
        rw [col_zero, fidx_some coldB _ 0 (0, false) (fun i y hi => absurd hi (by omega)) (by rfl) rfl]
        rfl
      · have hc : col L h w = (h + (L - w) - 1) / (L - w) := by unfold col; rw [if_neg hz, if_neg (by omega)]
        have hd : 0 < L - w := by omega
        have g1 := Int.ediv_mul_le (h + (L - w) - 1) (show L - w ≠ 0 by omega)
        have g2 := Int.lt_ediv_add_one_mul_self (h + (L - w) - 1) hd
        have g0 : 0 ≤ (h + (L - w) - 1) / (L - w) := Int.ediv_nonneg (by omega) (by omega)
        rw [← hc] at g0 g1 g2
        obtain ⟨n, hn⟩ : ∃ n : Nat, col L h w = (n : Int) := ⟨(col L h w).toNat, by omega⟩
        rw [hn] at g0 g1 g2 ⊢
        have e2 : ((n : Int) + 1) * (L - w) = (n : Int) * (L - w) + (L - w) := by rw [Int.add_mul]; omega
        rw [e2] at g2
        have hn1 : 1 ≤ n := by
          rcases Nat.eq_zero_or_pos n with g | g
          · subst g; simp at g1 g2; omega
          · exact g
        have e3 : ((n : Int) - 1) * (L - w) = (n : Int) * (L - w) - (L - w) := by rw [Int.sub_mul]; omega
        have hnb : (n : Int) - 1 ≤ ((n : Int) - 1) * (L - w) := by
          have := Int.mul_le_mul_of_nonneg_left (show (1 : Int) ≤ L - w by omega) (show 0 ≤ (n : Int) - 1 by omega)
          omega
        rw [fidx_some coldB _ n (0, false) (fun i y hi hy => ?_) (by rw [steadyC_get L S F h w n (by omega), hat]; congr 2; omega) rfl]
        · rfl
        · rw [(steadyC_at hy).2, hat]
          have : (i : Int) * (L - w) ≤ ((n : Int) - 1) * (L - w) := Int.mul_le_mul_of_nonneg_right (by omega) (by omega)
          have hne : max 0 (h - (i : Int) * (L - w)) ≠ 0 := by omega
          unfold coldB
          simp [hne]
    · have hwL : w = L := by omega
      subst hwL
      by_cases hz : h = 0
      · subst hz
        rw [col_zero, fidx_some coldB _ 0 (0, false) (fun i y hi => absurd hi (by omega)) (by rfl) rfl]
        rfl
      · have hc : col w h w = -1 := by unfold col; rw [if_neg hz, if_pos (Int.le_refl _)]
        rw [hc, fidx_none coldB _ (fun i y hy => ?_)]
        · rfl
        · rw [(steadyC_at hy).2, hat]
          have e : (i : Int) * (w - w) = 0 := by rw [Int.sub_self, Int.mul_zero]
          rw [e, Int.sub_zero]
          have hne : max 0 h ≠ 0 := by omega
          unfold coldB
          simp [hne]
  · have hwL : L < w := by omega
    have cold : (∀ k : Nat, k ≤ 300 → (stAt L S F h w k).2 = true ∨ 0 < (stAt L S F h w k).1 ∨ h = 0) → optI (fidx coldB (steadyC L S F h w)) = col L h w := by
      intro H
      by_cases hz : h = 0
      · subst hz
        rw [col_zero, fidx_some coldB _ 0 (0, false) (fun i y hi => absurd hi (by omega)) (by rfl) rfl]
        rfl
      · have hc : col L h w = -1 := by unfold col; rw [if_neg hz, if_pos (by omega)]
        rw [hc, fidx_none coldB _ (fun i y hy => ?_)]
        · rfl
        · obtain ⟨hi, rfl⟩ := steadyC_at hy
          unfold coldB
          rcases H i hi with g | g | g
          · simp [g]
          · have hne : (stAt L S F h w i).1 ≠ 0 := by omega
            simp [hne]
          · exact absurd g hz
    by_cases hFw : F < w
    · have hl : lst L S F h w = 0 := by unfold lst; rw [if_neg hw, if_pos hFw]
      have h1t : (stAt L S F h w 1).2 = true := by
        rw [stAt_succ]
        show (nx L S F (h, false) w).2 = true
        rw [nx_live]; simp [hFw]
      have hall : ∀ k : Nat, 1 ≤ k → (stAt L S F h w k).2 = true := fun k hk => by
        have := stAt_tripped h1t (k - 1)
        rwa [show 1 + (k - 1) = k by omega] at this
      refine ⟨⟨fun h => by rw [hl] at h; omega, fun h => absurd h hw⟩, fun h => by rw [hl] at h; omega, fun _ => ?_, cold fun k _ => ?_⟩
      · rw [hl, fidx_some _ _ 1 _ (fun i y hi hy => by
          obtain rfl : i = 0 := by omega
          rw [(steadyC_at hy).2]; rfl) (steadyC_get L S F h w 1 (by omega)) h1t]
        rfl
      · rcases Nat.eq_zero_or_pos k with g | g
        · subst g
          show _ ∨ 0 < h ∨ h = 0
          right; omega
        · exact .inl (hall k g)
    · have hd : 0 < w - L := by omega
      have hl : lst L S F h w = (S - h) / (w - L) := by unfold lst; rw [if_neg hw, if_neg hFw]
      have g0 : 0 ≤ (S - h) / (w - L) := Int.ediv_nonneg (by omega) (by omega)
      have g1 := Int.ediv_mul_le (S - h) (show w - L ≠ 0 by omega)
      have g2 := Int.lt_ediv_add_one_mul_self (S - h) hd
      rw [← hl] at g0 g1 g2
      obtain ⟨n, hn⟩ : ∃ n : Nat, lst L S F h w = (n : Int) := ⟨(lst L S F h w).toNat, by omega⟩
      rw [hn] at g0 g1 g2 ⊢
      have hnb : (n : Int) ≤ (n : Int) * (w - L) := by
        have := Int.mul_le_mul_of_nonneg_left (show (1 : Int) ≤ w - L by omega) (show 0 ≤ (n : Int) by omega)
        omega
      have hat : ∀ k : Nat, k ≤ n → stAt L S F h w k = (h + (k : Int) * (w - L), false) := fun k hk => by
        refine stAt_high hS h0 hwL (by omega) k ?_
        have : (k : Int) * (w - L) ≤ (n : Int) * (w - L) := Int.mul_le_mul_of_nonneg_right (by omega) (by omega)
        omega
      have h1t : (stAt L S F h w (n + 1)).2 = true := by
        rw [stAt_succ, hat n (Nat.le_refl _)]
        exact nx_trips (n : Int) (.inr (by omega))
      refine ⟨⟨fun h => by omega, fun h => absurd h hw⟩, fun h => by omega, fun _ => ?_, cold fun k hk => ?_⟩
      · rw [fidx_some _ _ (n + 1) _ (fun i y hi hy => by rw [(steadyC_at hy).2, hat i (by omega)]) (steadyC_get L S F h w (n + 1) (by omega)) h1t]
        rfl
      · rcases Nat.lt_or_ge n k with g | g
        · left
          have := stAt_tripped h1t (k - (n + 1))
          rwa [show n + 1 + (k - (n + 1)) = k by omega] at this
        · rw [hat k g]
          have : 0 ≤ (k : Int) * (w - L) := Int.mul_nonneg (by omega) (by omega)
          right
          show 0 < h + (k : Int) * (w - L) ∨ h = 0
          omega
end
end Go.Proofs.Ytomfaknemjbjcaa
