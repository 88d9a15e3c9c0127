/-
  DERIVED. Breakers as functions of numbers: what the chapter says, and that the quick ways answer it.
-/
import Derived.Lib.Hide
namespace Go.Proofs.Ytomfaknemjbjcaa

/-- The curve is valid. -/
def bOk (L S F : Int) : Bool := decide (0 ≤ L) && (decide (L ≤ 1000000) && (decide (0 ≤ S) && (decide (S ≤ 1000000) && (decide (L ≤ F) && decide (F ≤ 1000000)))))
theorem bOk_iff {L S F : Int} : bOk L S F = true ↔ 0 ≤ L ∧ L ≤ 1000000 ∧ 0 ≤ S ∧ S ≤ 1000000 ∧ L ≤ F ∧ F ≤ 1000000 := by
  simp [bOk]
/-- The state is valid. -/
def sOk (S h : Int) (t : Bool) : Bool := decide (0 ≤ h) && (decide (h ≤ 100000000) && (t || decide (h ≤ S)))
theorem sOk_iff {S h : Int} {t : Bool} : sOk S h t = true ↔ 0 ≤ h ∧ h ≤ 100000000 ∧ (t = true ∨ h ≤ S) := by
  simp [sOk]
/-- A load is in its range. -/
def wOk (w : Int) : Bool := decide (0 ≤ w) && decide (w ≤ 100000000)
theorem wOk_iff {w : Int} : wOk w = true ↔ 0 ≤ w ∧ w ≤ 100000000 := by simp [wOk]
def lsOk (l : List Int) : Bool := decide (l.length ≤ 1000) && l.all wOk
/-- The state after a tick. -/
def nx (L S F : Int) (x : Int × Bool) (w : Int) : Int × Bool :=
  if x.2 = true then x else (min (max 0 (x.1 + w - L)) 100000000, decide (F < w) || decide (S < max 0 (x.1 + w - L)))
theorem nx_tripped {L S F h w : Int} : nx L S F (h, true) w = (h, true) := rfl
theorem nx_live {L S F h w : Int} : nx L S F (h, false) w = (min (max 0 (h + w - L)) 100000000, decide (F < w) || decide (S < max 0 (h + w - L))) := rfl
/-- The states behind each tick. -/
def crs (L S F : Int) (x : Int × Bool) : List Int → List (Int × Bool)
  | [] => []
  | w :: l => nx L S F x w :: crs L S F (nx L S F x w) l
theorem crs_len (L S F : Int) (l : List Int) : ∀ x, (crs L S F x l).length = l.length := by
  induction l with
  | nil => intro x; rfl
  | cons w l ih => intro x; simp [crs, ih]
theorem crs_append (L S F : Int) (l m : List Int) : ∀ x, crs L S F x (l ++ m) = crs L S F x l ++ crs L S F (l.foldl (nx L S F) x) m := by
  induction l with
  | nil => intro x; rfl
  | cons w l ih => intro x; simp only [List.cons_append, crs, ih, List.foldl_cons]
theorem crs_last (L S F : Int) (l : List Int) : ∀ x, (x :: crs L S F x l)[l.length]? = some (l.foldl (nx L S F) x) := by
  induction l with
  | nil => intro x; rfl
  | cons w l ih => intro x; exact ih _
theorem crs_step (L S F : Int) (l : List Int) : ∀ (x : Int × Bool) (i : Nat) (w : Int), l[i]? = some w → ∃ y, (x :: crs L S F x l)[i]? = some y ∧ (x :: crs L S F x l)[i + 1]? = some (nx L S F y w) := by
  induction l with
  | nil => intro x i w h; simp at h
  | cons v l ih =>
    intro x i w h
    cases i with
    | zero => simp at h; subst h; exact ⟨x, rfl, rfl⟩
    | succ i => exact ih _ i w (by simpa using h)
/-- A state that a valid one leads to. -/
def Vs (S : Int) (x : Int × Bool) : Prop := 0 ≤ x.1 ∧ x.1 ≤ 100000000 ∧ (x.2 = true ∨ x.1 ≤ S)
theorem vs_nx {L S F : Int} {x : Int × Bool} {w : Int} (hx : Vs S x) (hS : S ≤ 1000000) : Vs S (nx L S F x w) := by
  obtain ⟨h, t⟩ := x
  cases t
  · obtain ⟨h1, h2, -⟩ := hx
    rw [nx_live]
    refine ⟨by omega, by omega, ?_⟩
    by_cases g : S < max 0 (h + w - L)
    · left; simp [g]
    · right
      show min (max 0 (h + w - L)) 100000000 ≤ S
      omega
  · exact hx
/-- The first index with which the breaker trips. -/
def trp (L S F : Int) (x : Int × Bool) : List Int → Option Nat
  | [] => none
  | w :: l => if (nx L S F x w).2 = true then some 0 else (trp L S F (nx L S F x w) l).map (· + 1)
def optI : Option Nat → Int
  | none => -1
  | some k => k
theorem trp_crs (L S F : Int) (l : List Int) : ∀ x k, (∀ i, i < k → ((crs L S F x l)[i]?.map (·.2)) = some false) → (crs L S F x l)[k]?.map (·.2) = some true → trp L S F x l = some k := by
  induction l with
  | nil => intro x k _ h; simp [crs] at h
  | cons w l ih =>
    intro x k h1 h2
    unfold trp
    cases k with
    | zero => simp [crs] at h2; rw [if_pos h2]
    | succ k =>
      have h0 := h1 0 (by omega)
      simp [crs] at h0 h2
      rw [if_neg (by simp [h0]), ih _ k (fun i hi => by simpa [crs] using h1 (i + 1) (by omega)) (by simpa using h2)]
      rfl
theorem trp_none (L S F : Int) (l : List Int) : ∀ x, (∀ i, i < l.length → ((crs L S F x l)[i]?.map (·.2)) = some false) → trp L S F x l = none := by
  induction l with
  | nil => intro x _; rfl
  | cons w l ih =>
    intro x h1
    have h0 := h1 0 (by simp)
    simp [crs] at h0
    unfold trp
    rw [if_neg (by simp [h0]), ih _ (fun i hi => by simpa [crs] using h1 (i + 1) (by simpa using hi))]
    rfl

/-- In how many ticks a load is borne. -/
def lst (L S F h w : Int) : Int := if w ≤ L then -1 else if F < w then 0 else (S - h) / (w - L)
/-- After how many ticks the heat is 0. -/
def col (L h w : Int) : Int := if h = 0 then 0 else if L ≤ w then -1 else (h + (L - w) - 1) / (L - w)
/-- A load is borne in so many ticks. -/
def brn (L S F h k w : Int) : Bool := decide (w ≤ L) || (decide (w ≤ F) && decide (h + k * (w - L) ≤ S))
theorem ediv_eq {a d k : Int} (hd : 0 < d) (h1 : k * d ≤ a) (h2 : a < (k + 1) * d) : a / d = k := by
  have h3 : k ≤ a / d := Int.le_ediv_of_mul_le hd h1
  have h4 : a / d < k + 1 := Int.ediv_lt_of_lt_mul hd h2
  omega
/-- Tick after tick with the same load: as long as it is borne the heat is the sum. -/
theorem nx_rise {L S F h w : Int} (hS : S ≤ 1000000) (h0 : 0 ≤ h) (hw : L < w) (hF : w ≤ F) (n : Int) (hn : 0 ≤ n) (hle : h + (n + 1) * (w - L) ≤ S) :
    nx L S F (h + n * (w - L), false) w = (h + (n + 1) * (w - L), false) := by
  have e : h + n * (w - L) + w - L = h + (n + 1) * (w - L) := by rw [Int.add_mul]; omega
  have p : 0 ≤ (n + 1) * (w - L) := Int.mul_nonneg (by omega) (by omega)
  rw [nx_live, e]
  generalize (n + 1) * (w - L) = z at *
  rw [show max 0 (h + z) = h + z by omega, show min (h + z) 100000000 = h + z by omega, decide_eq_false (by omega), decide_eq_false (by omega)]
  rfl
theorem nx_trips {L S F h w : Int} (n : Int) (hle : F < w ∨ S < h + (n + 1) * (w - L)) :
    (nx L S F (h + n * (w - L), false) w).2 = true := by
  have e : h + n * (w - L) + w - L = h + (n + 1) * (w - L) := by rw [Int.add_mul]; omega
  rw [nx_live, e]
  rcases hle with g | g
  · simp [g]
  · simp only [Bool.or_eq_true, decide_eq_true_eq]
    right; omega
theorem lst_steps {L S F h w n : Int} (hw : L < w) (hF : w ≤ F) (h1 : h + n * (w - L) ≤ S) (h2 : S < h + (n + 1) * (w - L)) : lst L S F h w = n := by
  unfold lst
  rw [if_neg (by omega), if_neg (by omega)]
  exact ediv_eq (by omega) (by omega) (by omega)
theorem col_steps {L h w n : Int} (hw : w < L) (h0 : 0 < h) (h1 : (n - 1) * (L - w) < h) (h2 : h ≤ n * (L - w)) : col L h w = n := by
  unfold col
  rw [if_neg (by omega), if_neg (by omega)]
  have e1 : (n - 1) * (L - w) = n * (L - w) - (L - w) := by rw [Int.sub_mul]; omega
  have e2 : (n + 1) * (L - w) = n * (L - w) + (L - w) := by rw [Int.add_mul]; omega
  exact ediv_eq (by omega) (by omega) (by omega)
/-- What bears judges too much. -/
theorem lst_brn {L S F h k w : Int} (hh : h ≤ S) (hk : 0 < k) : (lst L S F h w = -1 ∨ k ≤ lst L S F h w) ↔ brn L S F h k w = true := by
  unfold lst brn
  by_cases h1 : w ≤ L
  · simp [h1]
  · by_cases h2 : F < w
    · rw [if_neg h1, if_pos h2]
      simp only [Bool.or_eq_true, Bool.and_eq_true, decide_eq_true_eq]
      omega
    · rw [if_neg h1, if_neg h2]
      simp only [Bool.or_eq_true, Bool.and_eq_true, decide_eq_true_eq]
      have p : 0 ≤ (S - h) / (w - L) := Int.ediv_nonneg (by omega) (by omega)
      rw [Int.le_ediv_iff_mul_le (by omega)]
      omega
theorem brn_mono {L S F h k v w : Int} (hk : 0 < k) (hvw : v ≤ w) (h1 : brn L S F h k w = true) : brn L S F h k v = true := by
  unfold brn at *
  simp only [Bool.or_eq_true, Bool.and_eq_true, decide_eq_true_eq] at *
  by_cases g : v ≤ L
  · exact .inl g
  · right
    rcases h1 with h1 | ⟨h1, h2⟩
    · omega
    · refine ⟨by omega, ?_⟩
      have : k * (v - L) ≤ k * (w - L) := Int.mul_le_mul_of_nonneg_left (by omega) (by omega)
      omega
/-- The greatest load that is borne. -/
def Brs (L S F h k r : Int) : Prop := L ≤ r ∧ r ≤ F ∧ brn L S F h k r = true ∧ brn L S F h k (r + 1) = false
theorem brs_unique {L S F h k r r' : Int} (hk : 0 < k) (h1 : Brs L S F h k r) (h2 : Brs L S F h k r') : r = r' := by
  obtain ⟨-, -, a1, b1⟩ := h1
  obtain ⟨-, -, a2, b2⟩ := h2
  rcases Int.lt_trichotomy r r' with g | g | g
  · have := brn_mono hk (show r + 1 ≤ r' by omega) a2
    rw [b1] at this; cases this
  · exact g
  · have := brn_mono hk (show r' + 1 ≤ r by omega) a1
    rw [b2] at this; cases this
theorem brs_ge {L S F h k r w : Int} (hk : 0 < k) (h1 : Brs L S F h k r) : w ≤ r ↔ brn L S F h k w = true := by
  obtain ⟨-, -, a1, b1⟩ := h1
  constructor
  · exact fun g => brn_mono hk g a1
  · intro g
    by_cases hw : w ≤ r
    · exact hw
    · have := brn_mono hk (show r + 1 ≤ w by omega) g
      rw [b1] at this; cases this
theorem countP_anti (p : Nat → Bool) (hp : ∀ i j, i ≤ j → p j = true → p i = true) : ∀ n, (List.range n).countP p ≤ n ∧ ∀ i, i < n → (p i = true ↔ i < (List.range n).countP p) := by
  intro n
  induction n with
  | zero => exact ⟨Nat.le_refl _, fun i hi => absurd hi (Nat.not_lt_zero _)⟩
  | succ n ih =>
    obtain ⟨h1, h2⟩ := ih
    rw [List.range_succ, List.countP_append]
    rcases hn : p n with _ | _
    · have e : [n].countP p = 0 := by simp [hn]
      rw [e, Nat.add_zero]
      refine ⟨by omega, fun i hi => ?_⟩
      rcases Nat.lt_or_ge i n with g | g
      · exact h2 i g
      · obtain rfl : i = n := by omega
        constructor
        · intro k; rw [hn] at k; cases k
        · intro k; omega
    · have e : [n].countP p = 1 := by simp [hn]
      have full : (List.range n).countP p = n := by
        rcases Nat.eq_zero_or_pos n with g | g
        · subst g; rfl
        · have := (h2 (n - 1) (by omega)).1 (hp _ _ (by omega) hn)
          omega
      rw [e, full]
      refine ⟨Nat.le_refl _, fun i hi => ⟨fun _ => hi, fun _ => hp i n (by omega) hn⟩⟩
def brsR (L S F h k : Int) : Int := ((List.range (F + 1).toNat).countP (fun i : Nat => brn L S F h k (i : Int)) : Nat) - 1
theorem brs_R {L S F h k : Int} (hL : 0 ≤ L) (hF : L ≤ F) (hk : 0 < k) : Brs L S F h k (brsR L S F h k) := by
  obtain ⟨h1, h2⟩ := countP_anti (fun i : Nat => brn L S F h k (i : Int)) (fun i j hij hj => brn_mono hk (by omega) hj) (F + 1).toNat
  unfold brsR
  generalize (List.range (F + 1).toNat).countP (fun i : Nat => brn L S F h k (i : Int)) = c at *
  have e : (L.toNat : Int) = L := by omega
  have g1 : L.toNat < c := (h2 L.toNat (by omega)).1 (by rw [e]; unfold brn; simp)
  refine ⟨by omega, by omega, ?_, ?_⟩
  · have := (h2 (c - 1) (by omega)).2 (by omega)
    rw [show ((c : Int) - 1) = ((c - 1 : Nat) : Int) by omega]
    exact this
  · rw [show ((c : Int) - 1 + 1) = (c : Int) by omega]
    rcases Nat.lt_or_ge c (F + 1).toNat with g | g
    · rcases hc : brn L S F h k (c : Int) with _ | _
      · rfl
      · exact absurd ((h2 c g).1 hc) (Nat.lt_irrefl _)
    · unfold brn
      rw [decide_eq_false (by omega), decide_eq_false (by omega)]; rfl
end Go.Proofs.Ytomfaknemjbjcaa
