/-
  DERIVED. Several texts in one.
-/
import Derived.Test.YtfdkdloldjfnjaaGreatDoorYRAm
set_option linter.unusedVariables false
set_option linter.unusedSimpArgs false

/- DERIVED. Plain: what the laws RatioNearest and RatioSimplest say of whole numbers. -/
namespace Go.Proofs.YtfdkdloldjfnjaaGreatDoor

/-- A fraction over a small denominator. -/
theorem over_den (m : Int) {k : Nat} (hk : 0 < k) : ((m : Rat) / ((k : Int) : Rat)).den ≤ k ∧ ((m : Rat) / ((k : Int) : Rat)) * ((k : Int) : Rat) = (m : Rat) := by
  have hk0 : ((k : Int) : Rat) ≠ 0 := by
    have : (0 : Rat) < ((k : Int) : Rat) := by rw [Rat.intCast_natCast]; exact Rat.natCast_pos.2 hk
    intro h; rw [h] at this; exact absurd this (by decide)
  refine ⟨?_, Rat.div_mul_cancel hk0⟩
  have e : (m : Rat) / ((k : Int) : Rat) = quo (decide (m < 0)) m.natAbs k := by
    unfold quo
    rw [sgn_self, Rat.mkRat_eq_div, Rat.intCast_natCast]
  rw [e, quo_den (by omega)]
  exact Nat.div_le_self _ _
theorem den_mul (y : Rat) : y * ((y.den : Int) : Rat) = (y.num : Rat) := by
  have h0 : ((y.den : Int) : Rat) ≠ 0 := by
    have : (0 : Rat) < ((y.den : Int) : Rat) := by rw [Rat.intCast_natCast]; exact Rat.natCast_pos.2 y.den_pos
    intro h; rw [h] at this; exact absurd this (by decide)
  have e : y = (y.num : Rat) / ((y.den : Int) : Rat) := by
    rw [← Rat.divInt_eq_div]; exact (Rat.num_divInt_den y).symm
  exact (congrArg (· * ((y.den : Int) : Rat)) e).trans (Rat.div_mul_cancel h0)
theorem cast_abs (u : Int) : ((max u (-u) : Int) : Rat) = if (0 : Rat) ≤ (u : Rat) then (u : Rat) else -(u : Rat) := by
  by_cases h : 0 ≤ u
  · rw [if_pos (Rat.intCast_nonneg.2 h), show max u (-u) = u by omega]
  · rw [if_neg (fun h' => h (Rat.intCast_nonneg.1 h')), show max u (-u) = -u by omega, Rat.intCast_neg]
theorem qd_abs {x y c u : Rat} (hc : 0 < c) (hu : (y - x) * c = u) : qd x y * c = if (0 : Rat) ≤ u then u else -u := by
  unfold qd
  by_cases h : x ≤ y
  · rw [if_pos h]
    have h1 : (0 : Rat) ≤ (y - x) * c := Rat.mul_nonneg (by grind) (by grind)
    rw [hu] at h1
    rw [if_pos h1, hu]
  · rw [if_neg h]
    have h1 : (0 : Rat) < (x - y) * c := Rat.mul_pos (by grind) hc
    have h2 : (x - y) * c = -u := by rw [← hu]; grind
    rw [h2] at h1
    rw [if_neg (by grind), h2]
/-- The distances of the nearest one and of another one, times the product of all denominators. -/
theorem near_law {x y : Rat} {most : Nat} (h : IsNear x most y) {a b m : Int} {k : Nat} (hb : 0 < b) (hx : x * (b : Rat) = (a : Rat)) (hk : 0 < k) (hkm : k ≤ most) :
    max ((y.num * b - a * y.den) * k) (-((y.num * b - a * y.den) * k)) ≤ max ((m * b - a * k) * y.den) (-((m * b - a * k) * y.den)) ∧
      (max ((m * b - a * k) * y.den) (-((m * b - a * k) * y.den)) = max ((y.num * b - a * y.den) * k) (-((y.num * b - a * y.den) * k)) → y.num * k ≤ m * y.den) := by
  obtain ⟨z, hz⟩ : ∃ z, z = (m : Rat) / ((k : Int) : Rat) := ⟨_, rfl⟩
  obtain ⟨hzd, hzm⟩ := over_den m hk
  rw [← hz] at hzd hzm
  have hy := den_mul y
  obtain ⟨c, hc⟩ : ∃ c : Rat, c = (b : Rat) * ((y.den : Int) : Rat) * ((k : Int) : Rat) := ⟨_, rfl⟩
  have pb : (0 : Rat) < (b : Rat) := Rat.intCast_pos.2 hb
  have pq : (0 : Rat) < ((y.den : Int) : Rat) := Rat.intCast_pos.2 (by have := y.den_pos; omega)
  have pk : (0 : Rat) < ((k : Int) : Rat) := Rat.intCast_pos.2 (by omega)
  have pc : 0 < c := by rw [hc]; exact Rat.mul_pos (Rat.mul_pos pb pq) pk
  have hu : (y - x) * c = (((y.num * b - a * y.den) * k : Int) : Rat) := by
    rw [Rat.intCast_mul, Rat.intCast_sub, Rat.intCast_mul, Rat.intCast_mul, ← hx, ← hy, hc]; grind
  have hv : (z - x) * c = (((m * b - a * k) * y.den : Int) : Rat) := by
    rw [Rat.intCast_mul, Rat.intCast_sub, Rat.intCast_mul, Rat.intCast_mul, ← hx, ← hzm, hc]; grind
  have e1 := qd_abs pc hu
  have e2 := qd_abs pc hv
  rw [← cast_abs] at e1 e2
  rcases h.best z (Nat.le_trans hzd hkm) with h1 | ⟨h1, h2⟩
  · have := Rat.mul_lt_mul_of_pos_right h1 pc
    rw [e1, e2, Rat.intCast_lt_intCast] at this
    exact ⟨by omega, fun h => by omega⟩
  · have : qd x y * c = qd x z * c := by rw [h1]
    rw [e1, e2, Rat.intCast_inj] at this
    refine ⟨by omega, fun _ => ?_⟩
    have h3 := Rat.mul_le_mul_of_nonneg_right h2 (Rat.le_of_lt (Rat.mul_pos pq pk))
    have h4 : y * (((y.den : Int) : Rat) * ((k : Int) : Rat)) = ((y.num * k : Int) : Rat) := by rw [Rat.intCast_mul, ← hy]; grind
    have h5 : z * (((y.den : Int) : Rat) * ((k : Int) : Rat)) = ((m * y.den : Int) : Rat) := by rw [Rat.intCast_mul, ← hzm]; grind
    rw [h4, h5, Rat.intCast_le_intCast] at h3
    exact h3
/-- n / k is the simplest fraction between a / b and c / d: of all in between none has a lesser denominator, and none is closer to 0. -/
structure Simp (a b c d n : Int) (k : Nat) : Prop where
  pos : 0 < k
  lo : a * k ≤ n * b
  hi : n * d ≤ c * k
  best : ∀ (m : Int) (j : Nat), 0 < j → a * j ≤ m * b → m * d ≤ c * j → k ≤ j ∧ n.natAbs ≤ m.natAbs
theorem Simp.floors {a b c d n : Int} {k : Nat} (h : Simp a b c d n k) (hd : 0 < d) {j : Nat} (h0 : 0 < j) (hj : j < k) : (c * j / d) * b < a * j := by
  rcases Int.lt_or_le ((c * j / d) * b) (a * j) with hlt | hge
  · exact hlt
  · have := (h.best (c * j / d) j h0 hge (Int.ediv_mul_le _ (by omega))).1
    omega
theorem Simp.next {a b c d n : Int} {k : Nat} (h : Simp a b c d n k) (hn : n ≠ 0) : (if n < 0 then n + 1 else n - 1) * b < a * k ∨ c * k < (if n < 0 then n + 1 else n - 1) * d := by
  obtain ⟨m, hm⟩ : ∃ m, m = if n < 0 then n + 1 else n - 1 := ⟨_, rfl⟩
  rw [← hm]
  rcases Int.lt_or_le (m * b) (a * k) with h1 | h1
  · exact .inl h1
  · rcases Int.lt_or_le (c * k) (m * d) with h2 | h2
    · exact .inr h2
    · have := (h.best m k h.pos h1 h2).2
      split at hm <;> omega
theorem Simp.den_le {a b c d n : Int} {k : Nat} (h : Simp a b c d n k) (hb : 0 < b) (hac : a * d ≤ c * b) : (k : Int) ≤ b := by
  have := (h.best a b.toNat (by omega) (by rw [Int.toNat_of_nonneg (by omega)]; exact Int.le_refl _) (by rw [Int.toNat_of_nonneg (by omega)]; exact hac)).1
  omega
theorem cross_le {a b a' b' x y : Int} (hb : 0 < b) (hb' : 0 < b') (e : a * b' = a' * b) (hx : a * x ≤ y * b) : a' * x ≤ y * b' := by
  have h1 := Int.mul_le_mul_of_nonneg_right hx (show 0 ≤ b' by omega)
  have h2 : a * x * b' = (a' * x) * b := by rw [Int.mul_right_comm, e]; grind
  have h3 : y * b * b' = (y * b') * b := by grind
  rw [h2, h3] at h1
  exact Int.le_of_mul_le_mul_right h1 hb
theorem cross_ge {a b a' b' x y : Int} (hb : 0 < b) (hb' : 0 < b') (e : a * b' = a' * b) (hx : y * b ≤ a * x) : y * b' ≤ a' * x := by
  have h1 := Int.mul_le_mul_of_nonneg_right hx (show 0 ≤ b' by omega)
  have h2 : a * x * b' = (a' * x) * b := by rw [Int.mul_right_comm, e]; grind
  have h3 : y * b * b' = (y * b') * b := by grind
  rw [h2, h3] at h1
  exact Int.le_of_mul_le_mul_right h1 hb
/-- The ends may be written otherwise. -/
theorem Simp.ends {a b c d a' b' c' d' n : Int} {k : Nat} (h : Simp a b c d n k) (hb : 0 < b) (hb' : 0 < b') (hd : 0 < d) (hd' : 0 < d') (e : a * b' = a' * b) (e' : c * d' = c' * d) : Simp a' b' c' d' n k :=
  ⟨h.pos, cross_le hb hb' e h.lo, cross_ge hd hd' e' h.hi, fun m j hj h1 h2 => h.best m j hj (cross_le hb' hb e.symm h1) (cross_ge hd' hd e'.symm h2)⟩
theorem Simp.zero {a b c d : Int} (ha : a ≤ 0) (hc : 0 ≤ c) : Simp a b c d 0 1 :=
  ⟨Nat.one_pos, by simp; exact ha, by simp; exact hc, fun m j hj _ _ => ⟨hj, Nat.zero_le _⟩⟩
theorem Simp.neg {a b c d n : Int} {k : Nat} (h : Simp (-c) d (-a) b n k) : Simp a b c d (-n) k := by
  refine ⟨h.pos, ?_, ?_, fun m j hj h1 h2 => ?_⟩
  · have := h.hi; rw [Int.neg_mul] at this ⊢; omega
  · have := h.lo; rw [Int.neg_mul] at this ⊢; omega
  · have := h.best (-m) j hj (by rw [Int.neg_mul, Int.neg_mul]; omega) (by rw [Int.neg_mul, Int.neg_mul]; omega)
    rw [Int.natAbs_neg] at this ⊢
    exact this
theorem Simp.parts {a b c d : Nat} (f : Nat) (ha : 0 < a) (hb : 0 < b) (hd : 0 < d) (hf : b + d ≤ f) (h : a * d ≤ c * b) :
    Simp (a : Int) (b : Int) (c : Int) (d : Int) ((ev (partsF f a b c d)).1 : Int) (ev (partsF f a b c d)).2 := by
  obtain ⟨g1, -, g3, g4, g5⟩ := parts_best f a b c d hb hd hf h
  refine ⟨g1, by exact_mod_cast g3, by exact_mod_cast g4, fun m j hj h1 h2 => ?_⟩
  have hm : 0 ≤ m := by
    rcases Int.lt_or_le m 0 with hm | hm
    · exfalso
      have h3 : m * (b : Int) < 0 := Int.mul_neg_of_neg_of_pos hm (by omega)
      have h4 : 0 ≤ (a : Int) * (j : Int) := Int.mul_nonneg (by omega) (by omega)
      omega
    · exact hm
  obtain ⟨M, rfl⟩ : ∃ M : Nat, m = (M : Int) := ⟨m.toNat, by omega⟩
  have := g5 M j hj (by exact_mod_cast h1) (by exact_mod_cast h2)
  exact ⟨this.1, by simpa using this.2⟩
end Go.Proofs.YtfdkdloldjfnjaaGreatDoor

/- DERIVED. Plain: what the laws RatioOrder and RatioField say of numbers. -/
namespace Go.Proofs.YtfdkdloldjfnjaaGreatDoor

theorem qcmp_add (x y z : Rat) : qcmp (x + z) (y + z) = qcmp x y := by
  unfold qcmp
  have h1 : (x + z < y + z) ↔ x < y := by constructor <;> intro h <;> grind
  have h2 : (y + z < x + z) ↔ y < x := by constructor <;> intro h <;> grind
  simp only [h1, h2]
/-- The sign of a number: what the law reads off its parts. -/
def sgq (q : Rat) : Int := if qneg q = true then -1 else if q = 0 then 0 else 1
theorem sgq_sub (x y : Rat) : sgq (x - y) = qcmp x y := by
  unfold sgq qcmp qneg
  have h1 : decide ((x - y).num < 0) = true ↔ x < y := by
    have h0 : (x - y).num < 0 ↔ ¬ 0 ≤ x - y := by rw [← Rat.num_nonneg]; omega
    rw [decide_eq_true_iff, h0]
    constructor <;> intro h <;> grind
  by_cases hxy : x < y
  · rw [if_pos (h1.2 hxy), if_pos hxy]
  · rw [if_neg (fun h => hxy (h1.1 h)), if_neg hxy]
    by_cases hyx : y < x
    · rw [if_neg (by grind), if_pos hyx]
    · rw [if_pos (by grind), if_neg hyx]
theorem rest_small (x : Rat) : 0 ≤ x - (x.floor : Rat) ∧ x - (x.floor : Rat) < 1 := by
  have h1 := Rat.floor_le x
  have h2 := Rat.lt_floor_add_one x
  constructor <;> grind
theorem rest_sign (x : Rat) : 0 ≤ sgq (x - (x.floor : Rat)) ∧ qcmp (x - (x.floor : Rat)) 1 = -1 := by
  obtain ⟨h1, h2⟩ := rest_small x
  refine ⟨?_, by unfold qcmp; rw [if_pos h2]⟩
  rw [sgq_sub]
  unfold qcmp
  rw [if_neg (by grind)]
  split <;> omega
theorem add_back (x y : Rat) : x + y - y = x := by grind
theorem add_three (x y z : Rat) : x + y + z = x + (y + z) := by grind
theorem mul_over (x y z : Rat) : x * y + x * z = x * (y + z) := by grind
theorem mul_back (x : Rat) {y : Rat} (h : y ≠ 0) : x * y / y = x := Rat.mul_div_cancel h
theorem num_zero {q : Rat} : q.num.natAbs = 0 ↔ q = 0 := by rw [Int.natAbs_eq_zero]; exact Rat.num_eq_zero
end Go.Proofs.YtfdkdloldjfnjaaGreatDoor

/- DERIVED. Plain: what the laws RatioNearest and RatioSimplest want of small numbers. -/
namespace Go.Proofs.YtfdkdloldjfnjaaGreatDoor

/-- The number of two ints, written with the sign on top. -/
def nq (n d : Int) : Rat := quo (decide (n < 0) != decide (d < 0)) n.natAbs d.natAbs
theorem nq_pos (n : Int) {d : Int} (hd : 0 < d) : nq n d * (d : Rat) = (n : Rat) := by
  have e : nq n d = (n : Rat) / ((d.natAbs : Int) : Rat) := by
    unfold nq quo
    rw [decide_eq_false (show ¬ d < 0 by omega), Bool.bne_false, sgn_self, Rat.mkRat_eq_div, Rat.intCast_natCast]
  rw [e, show ((d.natAbs : Nat) : Int) = d by omega]
  refine Rat.div_mul_cancel ?_
  intro h
  have := Rat.intCast_pos.2 hd
  rw [h] at this
  exact absurd this (by decide)
theorem sgn_flip (n : Int) : sgn (decide (n < 0) != true) n.natAbs = -n := by
  unfold sgn
  by_cases h : n < 0
  · rw [decide_eq_true h]; simp; omega
  · rw [decide_eq_false h]; simp; omega
theorem nq_neg (n : Int) {d : Int} (hd : d < 0) : nq n d * ((-d : Int) : Rat) = ((-n : Int) : Rat) := by
  have e : nq n d = ((-n : Int) : Rat) / ((d.natAbs : Int) : Rat) := by
    unfold nq quo
    rw [decide_eq_true hd, sgn_flip, Rat.mkRat_eq_div, Rat.intCast_natCast]
  rw [e, show ((d.natAbs : Nat) : Int) = -d by omega]
  refine Rat.div_mul_cancel ?_
  intro h
  have := Rat.intCast_pos.2 (show 0 < -d by omega)
  rw [h] at this
  exact absurd this (by decide)
theorem abs_le {u v : Int} (h : max u (-u) ≤ v) : u ≤ v ∧ -v ≤ u := by omega
/-- The nearest fraction of a small number is small. -/
theorem near_small {x y : Rat} {most : Nat} (h : IsNear x most y) {a b : Int} (hb : 0 < b) (hx : x * (b : Rat) = (a : Rat)) (hm : 1 ≤ most) (hm2 : most ≤ 40) (h1 : -32768 ≤ a) (h2 : a ≤ 32768) : y.num.natAbs ≤ 1310760 ∧ y.den ≤ 40 := by
  have hd := h.den
  refine ⟨?_, by omega⟩
  obtain ⟨h3, -⟩ := near_law h (m := a / b) (k := 1) hb hx (by omega) hm
  have h4 := Int.ediv_mul_le a (show b ≠ 0 by omega)
  have h5 := Int.lt_ediv_add_one_mul_self a hb
  obtain ⟨f, hf⟩ : ∃ f, f = a / b := ⟨_, rfl⟩
  rw [← hf] at h3 h4 h5
  obtain ⟨p, hp⟩ : ∃ p, p = y.num := ⟨_, rfl⟩
  obtain ⟨q, hq⟩ : ∃ q : Int, q = (y.den : Int) := ⟨_, rfl⟩
  rw [← hp, ← hq] at h3
  rw [← hp]
  have hq0 : 0 < q := by have := y.den_pos; omega
  have hq4 : q ≤ 40 := by omega
  have h6 : f * b - a ≤ 0 := by omega
  have h7 : -b ≤ f * b - a := by rw [Int.add_mul] at h5; omega
  simp only [Int.natCast_one, Int.mul_one] at h3
  have h8 : (f * b - a) * q ≤ 0 := Int.mul_nonpos_of_nonpos_of_nonneg h6 (by omega)
  have h9 : -b * q ≤ (f * b - a) * q := Int.mul_le_mul_of_nonneg_right h7 (by omega)
  have e1 : -b * q = -(b * q) := by rw [Int.neg_mul]
  rw [e1] at h9
  generalize (f * b - a) * q = t at *
  -- p b lies within a q ± b q
  have h10 : p * b ≤ a * q + b * q := by omega
  have h11 : a * q - b * q ≤ p * b := by omega
  have ha1 : a * q ≤ 32768 * (b * q) := by
    have : a * q ≤ 32768 * q := Int.mul_le_mul_of_nonneg_right h2 (by omega)
    have h12 : 32768 * q ≤ 32768 * (b * q) := by
      have : 1 * q ≤ b * q := Int.mul_le_mul_of_nonneg_right (by omega) (by omega)
      omega
    omega
  have ha2 : -(32768 * (b * q)) ≤ a * q := by
    have : (-32768) * q ≤ a * q := Int.mul_le_mul_of_nonneg_right h1 (by omega)
    have h12 : 32768 * q ≤ 32768 * (b * q) := by
      have : 1 * q ≤ b * q := Int.mul_le_mul_of_nonneg_right (by omega) (by omega)
      omega
    omega
  have h13 : p * b ≤ (32769 * q) * b := by rw [Int.mul_assoc, Int.mul_comm q b]; omega
  have h14 : (-(32769 * q)) * b ≤ p * b := by rw [Int.neg_mul, Int.mul_assoc, Int.mul_comm q b]; omega
  have h15 := Int.le_of_mul_le_mul_right h13 hb
  have h16 := Int.le_of_mul_le_mul_right h14 hb
  omega
/-- How the law writes a small number: a / b, with b above 0. -/
theorem tdiv_floor (n : Int) {d : Int} (hd : 0 < d) : (if n.tdiv d * d > n then n.tdiv d - 1 else n.tdiv d) = n / d := by
  rcases Int.lt_or_le n 0 with h | h
  · have e1 := Int.mul_tdiv_add_tmod n d
    have e2 := Int.lt_tmod_of_pos n hd
    have e3 : n.tmod d ≤ 0 := by
      have := Int.tmod_nonneg d (show 0 ≤ -n by omega)
      rw [Int.neg_tmod] at this
      omega
    rw [Int.mul_comm] at e1
    generalize n.tdiv d = q at *
    generalize n.tmod d = r at *
    symm
    split
    · rw [Int.ediv_eq_iff_of_pos hd]
      rw [Int.sub_mul, Int.one_mul]
      omega
    · rw [Int.ediv_eq_iff_of_pos hd]
      omega
  · rw [Int.tdiv_eq_ediv_of_nonneg h]
    have := Int.ediv_mul_le n (show d ≠ 0 by omega)
    rw [if_neg (by omega)]
end Go.Proofs.YtfdkdloldjfnjaaGreatDoor

/- DERIVED. Plain: the simplest fraction between two numbers. -/
namespace Go.Proofs.YtfdkdloldjfnjaaGreatDoor

theorem Simp.parts0 {a b c d : Nat} (f : Nat) (hb : 0 < b) (hd : 0 < d) (hf : b + d ≤ f) (h : a * d ≤ c * b) :
    Simp (a : Int) (b : Int) (c : Int) (d : Int) ((ev (partsF f a b c d)).1 : Int) (ev (partsF f a b c d)).2 := by
  obtain ⟨g1, -, g3, g4, g5⟩ := parts_best f a b c d hb hd hf h
  refine ⟨g1, by exact_mod_cast g3, by exact_mod_cast g4, fun m j hj h1 h2 => ?_⟩
  have hm : 0 ≤ m := by
    rcases Int.lt_or_le m 0 with hm | hm
    · exfalso
      have h3 : m * (b : Int) < 0 := Int.mul_neg_of_neg_of_pos hm (by omega)
      have h4 : 0 ≤ (a : Int) * (j : Int) := Int.mul_nonneg (by omega) (by omega)
      omega
    · exact hm
  obtain ⟨M, rfl⟩ : ∃ M : Nat, m = (M : Int) := ⟨m.toNat, by omega⟩
  have := g5 M j hj (by exact_mod_cast h1) (by exact_mod_cast h2)
  exact ⟨this.1, by simpa using this.2⟩
theorem Simp.small {a b c d n : Int} {k : Nat} (h : Simp a b c d n k) (hb : 0 < b) (hac : a * d ≤ c * b) : n.natAbs ≤ a.natAbs ∧ (k : Int) ≤ b := by
  have := h.best a b.toNat (by omega) (by rw [Int.toNat_of_nonneg (by omega)]; exact Int.le_refl _) (by rw [Int.toNat_of_nonneg (by omega)]; exact hac)
  omega
theorem cross_of {p : Rat} {a b : Int} (h : p * (b : Rat) = (a : Rat)) : p.num * b = a * (p.den : Int) := by
  have h1 := den_mul p
  have h2 : ((p.num * b : Int) : Rat) = ((a * (p.den : Int) : Int) : Rat) := by
    rw [Rat.intCast_mul, Rat.intCast_mul, ← h, ← h1]; grind
  exact Rat.intCast_inj.1 h2
theorem le_of_cross {p q : Rat} {a b c d : Int} (hb : 0 < b) (hd : 0 < d) (hp : p * (b : Rat) = (a : Rat)) (hq : q * (d : Rat) = (c : Rat)) (h : a * d ≤ c * b) : p ≤ q := by
  have pb : (0 : Rat) < (b : Rat) := Rat.intCast_pos.2 hb
  have pd : (0 : Rat) < (d : Rat) := Rat.intCast_pos.2 hd
  have h1 : ((a * d : Int) : Rat) ≤ ((c * b : Int) : Rat) := Rat.intCast_le_intCast.2 h
  rw [Rat.intCast_mul, Rat.intCast_mul, ← hp, ← hq] at h1
  have h2 : p * ((b : Rat) * (d : Rat)) ≤ q * ((b : Rat) * (d : Rat)) := by
    have e1 : p * ((b : Rat) * (d : Rat)) = p * (b : Rat) * (d : Rat) := by grind
    have e2 : q * ((b : Rat) * (d : Rat)) = q * (d : Rat) * (b : Rat) := by grind
    rw [e1, e2]; exact h1
  rcases (show q < p ∨ p ≤ q by grind) with h3 | h3
  · exfalso
    have := Rat.mul_lt_mul_of_pos_right h3 (Rat.mul_pos pb pd)
    grind
  · exact h3
theorem quo_at {z : Int} {k : Nat} (hk : k ≠ 0) (h : Nat.gcd z.natAbs k = 1) : (quo (decide (z < 0)) z.natAbs k).num = z ∧ (quo (decide (z < 0)) z.natAbs k).den = k := by
  obtain ⟨h1, h2⟩ := quo_low hk h (decide (z < 0))
  rw [sgn_self] at h1
  exact ⟨h1, h2⟩
/-- The simplest fraction between two numbers of any signs, as the program finds it. -/
theorem simp_of {p q : Rat} (h : p ≤ q) : ∃ z : Rat, Simp p.num p.den q.num q.den z.num z.den ∧
    (p.num < 0 ∧ 0 ≤ q.num → z = 0) ∧
    (0 ≤ p.num → p.num.natAbs * q.den ≤ q.num.natAbs * p.den ∧ 0 ≤ q.num ∧ qneg z = false ∧ (ev (partsF (p.den + q.den) p.num.natAbs p.den q.num.natAbs q.den)).1 = z.num.natAbs ∧ (ev (partsF (p.den + q.den) p.num.natAbs p.den q.num.natAbs q.den)).2 = z.den) ∧
    (q.num < 0 → q.num.natAbs * p.den ≤ p.num.natAbs * q.den ∧ p.num < 0 ∧ qneg z = true ∧ (ev (partsF (q.den + p.den) q.num.natAbs q.den p.num.natAbs p.den)).1 = z.num.natAbs ∧ (ev (partsF (q.den + p.den) q.num.natAbs q.den p.num.natAbs p.den)).2 = z.den ∧ 0 < z.num.natAbs) := by
  have hle := (Rat.le_iff p q).1 h
  have hp := p.den_pos
  have hq := q.den_pos
  obtain ⟨a, ha⟩ : ∃ a, a = p.num := ⟨_, rfl⟩
  obtain ⟨c, hc⟩ : ∃ a, a = q.num := ⟨_, rfl⟩
  rw [← ha, ← hc] at hle ⊢
  generalize p.den = b at *
  generalize q.den = d at *
  by_cases hneg : c < 0
  · have hna : a < 0 := by
      rcases Int.lt_or_le a 0 with h1 | h1
      · exact h1
      · have h2 : c * (b : Int) < 0 := Int.mul_neg_of_neg_of_pos hneg (by omega)
        have h3 : 0 ≤ a * (d : Int) := Int.mul_nonneg h1 (by omega)
        omega
    obtain ⟨A, rfl⟩ : ∃ A : Nat, a = -(A : Int) := ⟨a.natAbs, by omega⟩
    obtain ⟨C, rfl⟩ : ∃ C : Nat, c = -(C : Int) := ⟨c.natAbs, by omega⟩
    rw [Int.neg_mul, Int.neg_mul] at hle
    have hle' : C * b ≤ A * d := by
      have : (C : Int) * b ≤ (A : Int) * d := by omega
      exact_mod_cast this
    have hs := Simp.parts0 (d + b) hq hp (Nat.le_refl _) hle'
    obtain ⟨-, hg, hlo, -, -⟩ := parts_best (d + b) C d A b hq hp (Nat.le_refl _) hle'
    obtain ⟨N, hN⟩ : ∃ N, N = (ev (partsF (d + b) C d A b)).1 := ⟨_, rfl⟩
    obtain ⟨K, hK⟩ : ∃ K, K = (ev (partsF (d + b) C d A b)).2 := ⟨_, rfl⟩
    rw [← hN, ← hK] at hs hg hlo
    have hK0 := hs.pos
    have hN0 : 0 < N := by
      have hC : 0 < C := by omega
      have h1 : 0 < C * K := Nat.mul_pos hC hK0
      rcases Nat.eq_zero_or_pos N with h0 | h0
      · rw [h0, Nat.zero_mul] at hlo; omega
      · exact h0
    obtain ⟨e1, e2⟩ := quo_at (z := -(N : Int)) (k := K) (by omega) (by rw [Int.natAbs_neg, Int.natAbs_natCast]; exact hg)
    refine ⟨quo (decide (-(N : Int) < 0)) (-(N : Int)).natAbs K, ?_, fun h => (by omega), fun h => (by omega), fun _ => ?_⟩
    · rw [e1, e2]
      refine Simp.neg ?_
      rw [Int.neg_neg, Int.neg_neg]
      exact hs
    · rw [e1, e2]
      unfold qneg
      rw [e1, Int.natAbs_neg, Int.natAbs_neg, Int.natAbs_natCast, Int.natAbs_natCast, ← hN, ← hK, Int.natAbs_neg, Int.natAbs_natCast]
      exact ⟨hle', hna, by rw [decide_eq_true_iff]; omega, rfl, rfl, hN0⟩
  · by_cases hpa : a < 0
    · refine ⟨0, Simp.zero (by omega) (by omega), fun _ => rfl, fun h => (by omega), fun h => (by omega)⟩
    · obtain ⟨A, rfl⟩ : ∃ A : Nat, a = (A : Int) := ⟨a.natAbs, by omega⟩
      obtain ⟨C, rfl⟩ : ∃ C : Nat, c = (C : Int) := ⟨c.natAbs, by omega⟩
      have hle' : A * d ≤ C * b := by exact_mod_cast hle
      have hs := Simp.parts0 (b + d) hp hq (Nat.le_refl _) hle'
      obtain ⟨-, hg, hlo, -, -⟩ := parts_best (b + d) A b C d hp hq (Nat.le_refl _) hle'
      obtain ⟨N, hN⟩ : ∃ N, N = (ev (partsF (b + d) A b C d)).1 := ⟨_, rfl⟩
      obtain ⟨K, hK⟩ : ∃ K, K = (ev (partsF (b + d) A b C d)).2 := ⟨_, rfl⟩
      rw [← hN, ← hK] at hs hg hlo
      have hK0 := hs.pos
      obtain ⟨e1, e2⟩ := quo_at (z := (N : Int)) (k := K) (by omega) (by rw [Int.natAbs_natCast]; exact hg)
      refine ⟨quo (decide ((N : Int) < 0)) (N : Int).natAbs K, ?_, fun h => (by omega), fun _ => ?_, fun h => (by omega)⟩
      · rw [e1, e2]; exact hs
      · rw [e1, e2]
        unfold qneg
        rw [e1, Int.natAbs_natCast, Int.natAbs_natCast, Int.natAbs_natCast, ← hN, ← hK]
        exact ⟨hle', by omega, by rw [decide_eq_false_iff_not]; omega, rfl, rfl⟩
end Go.Proofs.YtfdkdloldjfnjaaGreatDoor
