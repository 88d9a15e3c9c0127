/-
  PLAIN. The levels of a line (stage 6): no program is named.
-/
namespace Go.Proofs.Ythghinkicaafmaa

/-- The level after one tick. -/
def lv1 (C s a : Int) : Int := max 0 (s + a - C)
/-- The levels behind a start, by what arrives. -/
def lvs (C s : Int) : List Int → List Int
  | [] => []
  | a :: l => lv1 C s a :: lvs C (lv1 C s a) l
/-- The last level. -/
def lvE (C s : Int) (l : List Int) : Int := l.foldl (lv1 C) s
theorem lvs_len (C : Int) (l : List Int) : ∀ s, (lvs C s l).length = l.length := by
  induction l with
  | nil => intro s; rfl
  | cons a l ih => intro s; simp [lvs, ih]
theorem lvs_get (C : Int) (l : List Int) : ∀ (s : Int) (i : Nat), i ≤ l.length → (s :: lvs C s l)[i]? = some (lvE C s (l.take i)) := by
  induction l with
  | nil => intro s i hi; obtain rfl : i = 0 := by simpa using hi
           rfl
  | cons a l ih =>
    intro s i hi
    cases i with
    | zero => rfl
    | succ i => exact ih (lv1 C s a) i (by simpa using hi)
theorem lvE_snoc (C s : Int) (l : List Int) (a : Int) : lvE C s (l ++ [a]) = lv1 C (lvE C s l) a := by
  unfold lvE; rw [List.foldl_append]; rfl
theorem lv1_mono {C C' s s' a a' : Int} (hC : C' ≤ C) (hs : s ≤ s') (ha : a ≤ a') : lv1 C s a ≤ lv1 C' s' a' := by unfold lv1; omega
theorem lvE_mono {C C' : Int} (hC : C' ≤ C) : ∀ (l l' : List Int) (s s' : Int), s ≤ s' → l.length = l'.length → (∀ (i : Nat) (a a' : Int), l[i]? = some a → l'[i]? = some a' → a ≤ a') → lvE C s l ≤ lvE C' s' l' := by
  intro l
  induction l with
  | nil =>
    intro l' s s' hs hl _
    obtain rfl : l' = [] := List.eq_nil_of_length_eq_zero hl.symm
    exact hs
  | cons a l ih =>
    intro l' s s' hs hl h
    cases l' with
    | nil => simp at hl
    | cons a' l' =>
      refine ih l' _ _ (lv1_mono hC hs (h 0 a a' rfl rfl)) (by simpa using hl) (fun i x x' hx hx' => h (i + 1) x x' ?_ ?_)
      · simpa using hx
      · simpa using hx'
theorem lvE_nonneg {C s : Int} (hs : 0 ≤ s) (l : List Int) : 0 ≤ lvE C s l := by
  induction l generalizing s with
  | nil => exact hs
  | cons a l ih => exact ih (s := lv1 C s a) (by unfold lv1; omega)
/-- The greatest sum from some tick on, and the whole sum: each amount less C. -/
def sfx (C : Int) (l : List Int) : Int × Int := l.foldr (fun a x => (max x.1 (x.2 + (a - C)), x.2 + (a - C))) (0, 0)
theorem sfx_cons (C a : Int) (l : List Int) : sfx C (a :: l) = (max (sfx C l).1 ((sfx C l).2 + (a - C)), (sfx C l).2 + (a - C)) := rfl
theorem sfx_le (C : Int) (l : List Int) : (sfx C l).2 ≤ (sfx C l).1 ∧ 0 ≤ (sfx C l).1 := by
  induction l with
  | nil => exact ⟨Int.le_refl _, Int.le_refl _⟩
  | cons a l ih => rw [sfx_cons]; constructor <;> simp only [] <;> omega
/-- P6.5: each level is the greatest one of the sums. -/
theorem lvE_closed (C : Int) (l : List Int) : ∀ s : Int, 0 ≤ s → lvE C s l = max (sfx C l).1 (s + (sfx C l).2) := by
  induction l with
  | nil => intro s hs; show s = max 0 (s + 0); omega
  | cons a l ih =>
    intro s hs
    have h := ih (lv1 C s a) (by unfold lv1; omega)
    have hle := sfx_le C l
    rw [show lvE C s (a :: l) = lvE C (lv1 C s a) l from rfl, h, sfx_cons]
    simp only []
    unfold lv1
    omega
/-- Ticks in which nothing arrives leave a level of 0. -/
theorem lvE_zeros {C : Int} (hC : 0 ≤ C) (k : Nat) (l : List Int) : lvE C 0 (List.replicate k 0 ++ l) = lvE C 0 l := by
  induction k with
  | zero => rfl
  | succ k ih =>
    rw [List.replicate_succ, List.cons_append]
    show lvE C (lv1 C 0 0) _ = _
    rw [show lv1 C 0 0 = 0 by unfold lv1; omega]
    exact ih
/-- The least Carry with which a sum over so many ticks is at most a limit. -/
def abv (sum ticks limit : Int) : Int := if limit < sum then (if (sum - limit) / ticks * ticks < sum - limit then (sum - limit) / ticks + 1 else (sum - limit) / ticks) else 0
theorem abv_spec {sum ticks limit C : Int} (ht : 0 < ticks) (hC : 0 ≤ C) : abv sum ticks limit ≤ C ↔ sum - C * ticks ≤ limit := by
  unfold abv
  have hdm := Int.mul_ediv_add_emod (sum - limit) ticks
  have h0 := Int.emod_nonneg (sum - limit) (show ticks ≠ 0 by omega)
  have h1 := Int.emod_lt_of_pos (sum - limit) ht
  have hc : ticks * ((sum - limit) / ticks) = (sum - limit) / ticks * ticks := Int.mul_comm _ _
  have hmul : ∀ x y : Int, x ≤ y → x * ticks ≤ y * ticks := fun x y h => Int.mul_le_mul_of_nonneg_right h (by omega)
  have hadd : ∀ x : Int, (x + 1) * ticks = x * ticks + ticks := fun x => by rw [Int.add_mul, Int.one_mul]
  generalize (sum - limit) / ticks = q at *
  split
  · split
    · constructor
      · intro h
        have := hmul _ _ h
        rw [hadd] at this
        omega
      · intro h
        rcases Int.lt_or_le C (q + 1) with hlt | hle
        · have := hmul C q (by omega)
          omega
        · exact hle
    · constructor
      · intro h
        have := hmul _ _ h
        omega
      · intro h
        rcases Int.lt_or_le C q with hlt | hle
        · have := hmul (C + 1) q (by omega)
          rw [hadd] at this
          omega
        · exact hle
  · constructor
    · intro _
      have : 0 ≤ C * ticks := Int.mul_nonneg hC (by omega)
      omega
    · intro _; exact hC
theorem sfx_sum (C : Int) (l : List Int) : (sfx C l).2 = l.sum - C * (l.length : Int) := by
  induction l with
  | nil => show (0 : Int) = 0 - C * 0; omega
  | cons a l ih =>
    rw [sfx_cons, List.sum_cons, List.length_cons]
    show (sfx C l).2 + (a - C) = _
    rw [ih, show ((l.length + 1 : Nat) : Int) = (l.length : Int) + 1 from by omega, Int.mul_add, Int.mul_one]
    omega
theorem sfx_bound (C x : Int) (l : List Int) : (sfx C l).1 ≤ x ↔ ∀ i : Nat, i ≤ l.length → (l.drop i).sum - C * ((l.length - i : Nat) : Int) ≤ x := by
  induction l with
  | nil =>
    constructor
    · intro h i hi
      obtain rfl : i = 0 := by simpa using hi
      show (0 : Int) - C * 0 ≤ x
      have : (0 : Int) ≤ x := h
      omega
    · intro h
      have h0 : (0 : Int) - C * 0 ≤ x := h 0 (Nat.le_refl _)
      show (0 : Int) ≤ x
      omega
  | cons a l ih =>
    have hs := sfx_sum C (a :: l)
    rw [sfx_cons] at hs
    have hs' : (sfx C l).2 + (a - C) = (a :: l).sum - C * ((a :: l).length : Int) := hs
    rw [sfx_cons]
    show max (sfx C l).1 ((sfx C l).2 + (a - C)) ≤ x ↔ _
    rw [hs']
    constructor
    · intro h i hi
      cases i with
      | zero =>
        show (a :: l).sum - C * (((a :: l).length - 0 : Nat) : Int) ≤ x
        rw [Nat.sub_zero]; omega
      | succ i =>
        have := (ih.1 (by omega)) i (by simpa using hi)
        rw [List.drop_succ_cons, List.length_cons, show l.length + 1 - (i + 1) = l.length - i by omega]
        exact this
    · intro h
      have h1 : (sfx C l).1 ≤ x := ih.2 fun i hi => by
        have := h (i + 1) (by simpa using hi)
        rw [List.drop_succ_cons, List.length_cons, show l.length + 1 - (i + 1) = l.length - i by omega] at this
        exact this
      have h2 := h 0 (Nat.zero_le _)
      rw [List.drop_zero, Nat.sub_zero] at h2
      omega
/-- P6.4: no level is above a limit exactly if no stretch of ticks brings too much. -/
theorem enough_iff {C s lim : Int} (hs : 0 ≤ s) (h1 : s ≤ lim) (h2 : 0 ≤ lim) (l : List Int) :
    (∀ m : Nat, m ≤ l.length → lvE C s (l.take m) ≤ lim) ↔
      (∀ i t : Nat, i ≤ t → t < l.length → ((l.take (t + 1)).drop i).sum - C * ((t + 1 - i : Nat) : Int) ≤ lim) ∧ ∀ t : Nat, t < l.length → s + (l.take (t + 1)).sum - C * ((t + 1 : Nat) : Int) ≤ lim := by
  have hlen : ∀ m : Nat, m ≤ l.length → (l.take m).length = m := fun m hm => by rw [List.length_take]; omega
  constructor
  · intro h
    constructor
    · intro i t hit ht
      have h3 := h (t + 1) (by omega)
      rw [lvE_closed C _ s hs] at h3
      have h4 := (sfx_bound C lim (l.take (t + 1))).1 (by omega) i (by rw [hlen _ (by omega)]; omega)
      rw [hlen _ (by omega)] at h4
      exact h4
    · intro t ht
      have h3 := h (t + 1) (by omega)
      rw [lvE_closed C _ s hs, sfx_sum, hlen _ (by omega)] at h3
      omega
  · rintro ⟨h3, h4⟩ m hm
    rw [lvE_closed C _ s hs, sfx_sum, hlen _ hm]
    have h5 : (sfx C (l.take m)).1 ≤ lim := (sfx_bound C lim (l.take m)).2 fun i hi => by
      rw [hlen _ hm] at hi ⊢
      rcases Nat.lt_or_ge i m with hlt | hge
      · have := h3 i (m - 1) (by omega) (by omega)
        rw [show m - 1 + 1 = m by omega] at this
        exact this
      · obtain rfl : i = m := by omega
        rw [List.drop_of_length_le (by rw [hlen _ hm]; exact Nat.le_refl _), Nat.sub_self]
        show (0 : Int) - C * 0 ≤ lim
        omega
    cases m with
    | zero =>
      show max (sfx C (l.take 0)).1 (s + ((0 : Int) - C * 0)) ≤ lim
      omega
    | succ t =>
      have := h4 t (by omega)
      omega
end Go.Proofs.Ythghinkicaafmaa
