/-
  DERIVED. Several texts in one.
-/
import Derived.Lib.ItoaNum
set_option linter.unusedVariables false
set_option linter.unusedSimpArgs false

/- DERIVED. Plain: natural numbers by limbs to the base 2^32. No program's text. -/
namespace Go.Proofs.YtfdkdloldjfnjaaGreatDoor

abbrev BB : Nat := 4294967296
/-- The number that limbs stand for, the lowest one first. -/
def val : List Nat → Nat
  | [] => 0
  | x :: l => x + BB * val l
/-- All are limbs. -/
def Lb (l : List Nat) : Prop := ∀ x ∈ l, x < BB
/-- The limbs of a number. -/
def nat (n : Nat) : List Nat := if _h : n = 0 then [] else n % BB :: nat (n / BB)
termination_by n
decreasing_by exact Nat.div_lt_self (by omega) (by decide)

theorem nat_zero : nat 0 = [] := by unfold nat; simp
theorem nat_pos {n : Nat} (h : 0 < n) : nat n = n % BB :: nat (n / BB) := by rw [nat]; rw [dif_neg (by omega)]
theorem val_nat (n : Nat) : val (nat n) = n := by
  induction n using Nat.strongRecOn with
  | _ n ih =>
    rcases Nat.eq_zero_or_pos n with rfl | h
    · rw [nat_zero]; rfl
    · rw [nat_pos h, val, ih _ (Nat.div_lt_self h (by decide))]
      exact Nat.mod_add_div n BB
theorem lb_nat (n : Nat) : Lb (nat n) := by
  induction n using Nat.strongRecOn with
  | _ n ih =>
    rcases Nat.eq_zero_or_pos n with rfl | h
    · rw [nat_zero]; intro x hx; cases hx
    · rw [nat_pos h]
      intro x hx
      rcases List.mem_cons.1 hx with rfl | hx
      · exact Nat.mod_lt _ (by decide)
      · exact ih _ (Nat.div_lt_self h (by decide)) x hx
theorem lb_nil : Lb [] := fun _ h => by cases h
theorem lb_cons {x : Nat} {l : List Nat} : Lb (x :: l) ↔ x < BB ∧ Lb l := by
  unfold Lb; simp
theorem lb_append {a b : List Nat} : Lb (a ++ b) ↔ Lb a ∧ Lb b := by
  unfold Lb; simp only [List.mem_append]
  exact ⟨fun h => ⟨fun x hx => h x (.inl hx), fun x hx => h x (.inr hx)⟩, fun h x hx => hx.elim (h.1 x) (h.2 x)⟩
theorem lb_take {l : List Nat} (h : Lb l) (k : Nat) : Lb (l.take k) := fun x hx => h x (List.mem_of_mem_take hx)
theorem lb_drop {l : List Nat} (h : Lb l) (k : Nat) : Lb (l.drop k) := fun x hx => h x (List.mem_of_mem_drop hx)
theorem lb_zeros (k : Nat) : Lb (List.replicate k 0) := fun x hx => by rw [(List.mem_replicate.1 hx).2]; decide
theorem lb_get {l : List Nat} (h : Lb l) (k : Nat) : l.getD k 0 < BB := by
  rw [List.getD_eq_getElem?_getD]
  by_cases hk : k < l.length
  · rw [List.getElem?_eq_getElem hk]; exact h _ (List.getElem_mem hk)
  · rw [List.getElem?_eq_none (by omega)]; decide
theorem val_append (a b : List Nat) : val (a ++ b) = val a + BB ^ a.length * val b := by
  induction a with
  | nil => simp [val]
  | cons x a ih => simp only [List.cons_append, val, ih, List.length_cons, Nat.pow_succ]; grind
theorem val_zeros (k : Nat) : val (List.replicate k 0) = 0 := by
  induction k with
  | zero => rfl
  | succ k ih => simp [List.replicate_succ, val, ih]
theorem pow_pos' (k : Nat) : 0 < BB ^ k := Nat.pow_pos (by decide)
theorem val_lt {l : List Nat} (h : Lb l) : val l < BB ^ l.length := by
  induction l with
  | nil => simp [val]
  | cons x l ih =>
    obtain ⟨h1, h2⟩ := lb_cons.1 h
    have := ih h2
    simp only [val, List.length_cons, Nat.pow_succ]
    have : BB * val l + BB ≤ BB ^ l.length * BB := by
      have : BB * (val l + 1) ≤ BB * BB ^ l.length := Nat.mul_le_mul_left _ this
      grind
    omega
theorem val_take_drop (l : List Nat) (k : Nat) (h : k ≤ l.length) : val l = val (l.take k) + BB ^ k * val (l.drop k) := by
  conv => lhs; rw [← List.take_append_drop k l, val_append]
  rw [List.length_take, Nat.min_eq_left h]
theorem take_succ' (l : List Nat) (k : Nat) (h : k < l.length) : l.take (k + 1) = l.take k ++ [l[k]] := by
  rw [List.take_succ_eq_append_getElem h]
theorem val_take_succ (l : List Nat) (k : Nat) : val (l.take (k + 1)) = val (l.take k) + BB ^ k * l.getD k 0 := by
  by_cases h : k < l.length
  · rw [take_succ' l k h, val_append, List.length_take, Nat.min_eq_left (by omega)]
    simp [val, List.getD_eq_getElem?_getD, List.getElem?_eq_getElem h]
  · rw [List.take_of_length_le (by omega), List.take_of_length_le (by omega)]
    simp [List.getD_eq_getElem?_getD, List.getElem?_eq_none (show l.length ≤ k by omega)]
theorem val_inj : ∀ {a b : List Nat}, Lb a → Lb b → a.length = b.length → val a = val b → a = b
  | [], [], _, _, _, _ => rfl
  | [], _ :: _, _, _, h, _ => by simp at h
  | _ :: _, [], _, _, h, _ => by simp at h
  | x :: a, y :: b, ha, hb, hl, hv => by
    obtain ⟨h1, h2⟩ := lb_cons.1 ha
    obtain ⟨h3, h4⟩ := lb_cons.1 hb
    simp only [val] at hv
    have hx : x = y := by
      have e : (x + BB * val a) % BB = (y + BB * val b) % BB := by rw [hv]
      rwa [Nat.add_mul_mod_self_left, Nat.add_mul_mod_self_left, Nat.mod_eq_of_lt h1, Nat.mod_eq_of_lt h3] at e
    subst hx
    have : val a = val b := Nat.eq_of_mul_eq_mul_left (show 0 < BB by decide) (show BB * val a = BB * val b by omega)
    rw [val_inj h2 h4 (by simpa using hl) this]
/-- The limbs of a number, and no limb 0 at the end. -/
def Can (l : List Nat) : Prop := Lb l ∧ ∀ x ∈ l.getLast?, x ≠ 0
theorem last_nat (n : Nat) : ∀ x ∈ (nat n).getLast?, x ≠ 0 := by
  induction n using Nat.strongRecOn with
  | _ n ih =>
    rcases Nat.eq_zero_or_pos n with rfl | h
    · rw [nat_zero]; intro x hx; cases hx
    · rw [nat_pos h]
      rcases Nat.eq_zero_or_pos (n / BB) with h0 | h0
      · rw [h0, nat_zero]
        intro x hx
        simp at hx
        subst hx
        have := Nat.mod_add_div n BB
        rw [h0] at this
        simp only [BB] at this ⊢
        omega
      · intro x hx
        rw [nat_pos h0, List.getLast?_cons_cons, ← nat_pos h0] at hx
        exact ih _ (Nat.div_lt_self h (by decide)) x hx
theorem can_nat (n : Nat) : Can (nat n) := ⟨lb_nat n, last_nat n⟩
theorem can_tail {x : Nat} {l : List Nat} (h : Can (x :: l)) : Can l := by
  refine ⟨(lb_cons.1 h.1).2, fun y hy => ?_⟩
  cases l with
  | nil => cases hy
  | cons z l => exact h.2 y (by rw [List.getLast?_cons_cons]; exact hy)
theorem nat_val : ∀ {l : List Nat}, Can l → nat (val l) = l
  | [], _ => nat_zero
  | x :: l, h => by
    obtain ⟨h1, h2⟩ := lb_cons.1 h.1
    have ih := nat_val (can_tail h)
    have hp : 0 < val (x :: l) := by
      cases l with
      | nil =>
        have := h.2 x (by simp)
        simp only [val]; omega
      | cons y l =>
        rcases Nat.eq_zero_or_pos (val (y :: l)) with h0 | h0
        · rw [h0, nat_zero] at ih; cases ih
        · rw [val, BB]; omega
    rw [nat_pos hp]
    have e1 : val (x :: l) % BB = x := by rw [val, Nat.add_mul_mod_self_left, Nat.mod_eq_of_lt h1]
    have e2 : val (x :: l) / BB = val l := by rw [val, Nat.add_mul_div_left _ _ (by decide), Nat.div_eq_of_lt h1, Nat.zero_add]
    rw [e1, e2, ih]
theorem nat_inj {a b : Nat} (h : nat a = nat b) : a = b := by rw [← val_nat a, h, val_nat]
theorem nat_nil {n : Nat} : nat n = [] ↔ n = 0 := ⟨fun h => by rw [← val_nat n, h]; rfl, fun h => by rw [h, nat_zero]⟩
theorem nat_len_le {n k : Nat} : (nat n).length ≤ k ↔ n < BB ^ k := by
  induction k generalizing n with
  | zero => simp [nat_nil]
  | succ k ih =>
    rcases Nat.eq_zero_or_pos n with rfl | h
    · rw [nat_zero]; simp [pow_pos']
    · rw [nat_pos h, List.length_cons, Nat.add_le_add_iff_right, ih, Nat.div_lt_iff_lt_mul (by decide), Nat.pow_succ]
theorem nat_len_pos {n : Nat} : 0 < (nat n).length ↔ 0 < n := by
  have := @nat_len_le n 0
  simp only [Nat.pow_zero] at this
  omega
theorem nat_ge {n : Nat} (h : 0 < n) : BB ^ ((nat n).length - 1) ≤ n := by
  have h1 := nat_len_pos.2 h
  have := mt (nat_len_le (n := n) (k := (nat n).length - 1)).2 (by omega)
  omega
theorem val_len_le {l : List Nat} (hl : Lb l) : (nat (val l)).length ≤ l.length := nat_len_le.2 (val_lt hl)
/-- What is left of limbs without those at the end that are 0. -/
theorem trim_nat {l : List Nat} (hl : Lb l) {n : Nat} (hn : n ≤ l.length) (hz : ∀ i, n ≤ i → i < l.length → l.getD i 0 = 0) (he : 0 < n → l.getD (n - 1) 0 ≠ 0) : l.take n = nat (val l) := by
  have hd : val (l.drop n) = 0 := by
    have : l.drop n = List.replicate (l.length - n) 0 := by
      refine List.eq_replicate_iff.2 ⟨by simp, fun x hx => ?_⟩
      obtain ⟨i, hi, rfl⟩ := List.mem_iff_getElem.1 hx
      have := hz (n + i) (by omega) (by simp at hi; omega)
      rw [List.getD_eq_getElem?_getD, List.getElem?_eq_getElem (by simp at hi; omega)] at this
      simpa using this
    rw [this, val_zeros]
  have e := val_take_drop l n hn
  rw [hd, Nat.mul_zero, Nat.add_zero] at e
  rw [e]
  refine (nat_val ⟨lb_take hl n, fun x hx => ?_⟩).symm
  rcases Nat.eq_zero_or_pos n with rfl | hp
  · simp at hx
  · have := he hp
    rw [List.getLast?_eq_getElem?, List.length_take, Nat.min_eq_left hn, List.getElem?_take_of_lt (by omega), List.getElem?_eq_getElem (by omega)] at hx
    rw [List.getD_eq_getElem?_getD, List.getElem?_eq_getElem (by omega)] at this
    simp at hx
    subst hx
    simpa using this
theorem nat_take {u : List Nat} (hu : Lb u) : u.take (nat (val u)).length = nat (val u) := by
  have hle := val_len_le hu
  refine val_inj (lb_take hu _) (lb_nat _) (by rw [List.length_take, Nat.min_eq_left hle]) ?_
  have h1 := val_take_drop u _ hle
  have h2 : val u < BB ^ (nat (val u)).length := nat_len_le.1 (Nat.le_refl _)
  rcases Nat.eq_zero_or_pos (val (u.drop (nat (val u)).length)) with h0 | h0
  · rw [h0, Nat.mul_zero, Nat.add_zero] at h1
    rw [val_nat]; exact h1.symm
  · have : BB ^ (nat (val u)).length * 1 ≤ BB ^ (nat (val u)).length * val (u.drop (nat (val u)).length) := Nat.mul_le_mul_left _ h0
    rw [Nat.mul_one] at this
    generalize BB ^ (nat (val u)).length = z at *
    omega
/-- Limbs compared from the highest one down. -/
theorem cmp_lt {a b : List Nat} (ha : Lb a) (hl : a.length = b.length) {i : Nat} (hi : i < a.length) (hs : a.drop (i + 1) = b.drop (i + 1)) (hx : a.getD i 0 < b.getD i 0) : val a < val b := by
  rw [val_take_drop a (i + 1) (by omega), val_take_drop b (i + 1) (by omega), hs, val_take_succ, val_take_succ]
  have h1 := val_lt (lb_take ha i)
  rw [List.length_take, Nat.min_eq_left (by omega)] at h1
  have : BB ^ i * (a.getD i 0 + 1) ≤ BB ^ i * b.getD i 0 := Nat.mul_le_mul_left _ hx
  rw [Nat.mul_add] at this
  omega
theorem len_lt {a b : List Nat} (ha : Lb a) (hb : Can b) (h : a.length < b.length) : val a < val b := by
  have h1 := val_lt ha
  have h2 : b ≠ [] := by intro e; subst e; simp at h
  have h3 : 0 < val b := by
    rcases Nat.eq_zero_or_pos (val b) with h0 | h0
    · have := nat_val hb; rw [h0, nat_zero] at this; exact absurd this.symm h2
    · exact h0
  have h4 := nat_ge h3
  rw [nat_val hb] at h4
  have h5 : BB ^ a.length ≤ BB ^ (b.length - 1) := Nat.pow_le_pow_right (by decide) (by omega)
  omega
/-- The sign of a difference, as an int. -/
def cmpI (a b : Nat) : Int := if a < b then -1 else if b < a then 1 else 0

/-- One round of adding: what is added with the carry gives the limb and the next carry. -/
theorem add_round {u r t b c i : Nat} {R Bv : Nat} (h : u + BB ^ i * c = R + t * Bv) :
    (u + BB ^ i * ((c + (r + t * b)) % BB)) + BB ^ (i + 1) * ((c + (r + t * b)) / BB) = (R + BB ^ i * r) + t * (Bv + BB ^ i * b) := by
  have e := Nat.mod_add_div (c + (r + t * b)) BB
  generalize (c + (r + t * b)) % BB = m at e ⊢
  generalize (c + (r + t * b)) / BB = q at e ⊢
  rw [Nat.pow_succ]
  generalize BB ^ i = p at h ⊢
  grind
theorem add_fits {r t b c : Nat} (hr : r < BB) (ht : t < BB) (hb : b < BB) (hc : c < BB) : c + (r + t * b) < 18446744073709551616 ∧ (c + (r + t * b)) / BB < BB ∧ t * b < 18446744073709551616 ∧ r + t * b < 18446744073709551616 := by
  have : t * b ≤ (BB - 1) * (BB - 1) := Nat.mul_le_mul (by omega) (by omega)
  simp only [BB] at *
  omega
/-- One round of taking away: low is what is taken of this limb, with the debt so far. -/
theorem take_round {u r t b d i : Nat} {R Bv : Nat} (hr : r < BB) (h : u + t * Bv = R + BB ^ i * d) :
    (u + BB ^ i * ((r + BB - (d + t * b) % BB) % BB)) + t * (Bv + BB ^ i * b) = (R + BB ^ i * r) + BB ^ (i + 1) * ((d + t * b) / BB + if r < (d + t * b) % BB then 1 else 0) := by
  have e := Nat.mod_add_div (d + t * b) BB
  have hm : (d + t * b) % BB < BB := Nat.mod_lt _ (by decide)
  have hk : ∃ k, k = (r + BB - (d + t * b) % BB) % BB ∧ k + (d + t * b) % BB = r + BB * if r < (d + t * b) % BB then 1 else 0 := by
    refine ⟨_, rfl, ?_⟩
    split
    · rw [Nat.mod_eq_of_lt (by omega)]; omega
    · rw [show r + BB - (d + t * b) % BB = (r - (d + t * b) % BB) + BB by omega, Nat.add_mod_right, Nat.mod_eq_of_lt (by omega)]; omega
  obtain ⟨k, hk0, hk⟩ := hk
  rw [← hk0]
  generalize (d + t * b) % BB = m at *
  generalize (d + t * b) / BB = q at *
  generalize (if r < m then 1 else 0) = z at *
  rw [Nat.pow_succ]
  generalize BB ^ i = p at *
  grind
theorem take_fits {r t b d : Nat} (ht : t < BB) (hb : b < BB) (hd : d < BB) : d + t * b < 18446744073709551616 ∧ ((d + t * b) / BB + if r < (d + t * b) % BB then 1 else 0) < BB ∧ t * b < 18446744073709551616 := by
  have : t * b ≤ (BB - 1) * (BB - 1) := Nat.mul_le_mul (by omega) (by omega)
  simp only [BB] at *
  split <;> omega
end Go.Proofs.YtfdkdloldjfnjaaGreatDoor

/- DERIVED. Plain: division by guesses, bits moved up and down, divisors without divisions. -/
namespace Go.Proofs.YtfdkdloldjfnjaaGreatDoor

/-- The guess of a digit is not too small. -/
theorem guess {r bv bt p : Nat} (hp : 0 < p) (hbt : 0 < bt) (hb : p * bt ≤ bv) (hr : r < BB * bv) : r < (min (r / p / bt) (BB - 1) + 1) * bv := by
  rcases Nat.le_total (r / p / bt) (BB - 1) with h | h
  · rw [Nat.min_eq_left h]
    have h1 : r / p < (r / p / bt + 1) * bt := by
      have := Nat.div_add_mod (r / p) bt
      have := Nat.mod_lt (r / p) hbt
      rw [Nat.add_mul, Nat.mul_comm (r / p / bt)]
      omega
    have h2 : r < p * (r / p + 1) := by
      have := Nat.div_add_mod r p
      have := Nat.mod_lt r hp
      rw [Nat.mul_add]
      omega
    have h3 : p * (r / p + 1) ≤ p * ((r / p / bt + 1) * bt) := Nat.mul_le_mul_left _ h1
    have h4 : p * ((r / p / bt + 1) * bt) = (r / p / bt + 1) * (p * bt) := by grind
    have h5 : (r / p / bt + 1) * (p * bt) ≤ (r / p / bt + 1) * bv := Nat.mul_le_mul_left _ hb
    omega
  · rw [Nat.min_eq_right h]
    simpa [BB] using hr
theorem div_unique' {a b q r : Nat} (h : a = q * b + r) (hr : r < b) : a / b = q ∧ a % b = r := by
  subst h
  refine ⟨?_, ?_⟩
  · rw [Nat.mul_comm, Nat.mul_add_div (by omega), Nat.div_eq_of_lt hr, Nat.add_zero]
  · rw [Nat.mul_comm, Nat.mul_add_mod, Nat.mod_eq_of_lt hr]

theorem odd_cop {m : Nat} (h : m % 2 = 1) (k : Nat) : Nat.Coprime (2 ^ k) m := by
  refine Nat.Coprime.pow_left k ?_
  unfold Nat.Coprime
  rw [Nat.gcd_rec, h]; rfl
theorem gcd_twos {m n : Nat} (hm : m % 2 = 1) (hn : n % 2 = 1) (i j : Nat) : Nat.gcd (2 ^ i * m) (2 ^ j * n) = 2 ^ min i j * Nat.gcd m n := by
  rcases Nat.le_total i j with h | h
  · rw [Nat.min_eq_left h, show 2 ^ j * n = 2 ^ i * (2 ^ (j - i) * n) by rw [← Nat.mul_assoc, ← Nat.pow_add]; congr 2; omega, Nat.gcd_mul_left]
    rw [Nat.Coprime.gcd_mul_left_cancel_right _ (odd_cop hm _)]
  · rw [Nat.min_eq_right h, show 2 ^ i * m = 2 ^ j * (2 ^ (i - j) * m) by rw [← Nat.mul_assoc, ← Nat.pow_add]; congr 2; omega, Nat.gcd_mul_left]
    rw [Nat.Coprime.gcd_mul_left_cancel _ (odd_cop hn _)]
theorem gcd_odd {m n r k : Nat} (hm : m % 2 = 1) (h : m ≤ n) (e : n - m = 2 ^ k * r) : Nat.gcd m r = Nat.gcd m n := by
  have h1 : Nat.gcd m (n - m) = Nat.gcd m n := by
    conv => rhs; rw [show n = (n - m) + m by omega]
    rw [Nat.gcd_add_self_right]
  rw [← h1, e, Nat.Coprime.gcd_mul_left_cancel_right _ (odd_cop hm _)]

/-- One round of moving bits down. -/
theorem lower_round {u x y d i : Nat} {R s : Nat} (hd : d ≤ 32) (h : u * 2 ^ d + s = R + BB ^ i * (x % 2 ^ d)) :
    (u + BB ^ i * (x / 2 ^ d + (y % 2 ^ d) * 2 ^ (32 - d))) * 2 ^ d + s = (R + BB ^ i * x) + BB ^ (i + 1) * (y % 2 ^ d) := by
  have e := Nat.mod_add_div x (2 ^ d)
  have e2 : 2 ^ (32 - d) * 2 ^ d = BB := by rw [← Nat.pow_add, show 32 - d + d = 32 by omega]
  generalize x % 2 ^ d = m at *
  generalize x / 2 ^ d = q at *
  generalize y % 2 ^ d = z at *
  rw [Nat.pow_succ]
  generalize BB ^ i = p at *
  rw [← e2]
  clear e2
  generalize 2 ^ (32 - d) = g at *
  generalize 2 ^ d = f at *
  subst e
  clear hd
  grind
/-- One round of moving bits up. -/
theorem raise_round {u v x d i : Nat} {R : Nat} (h : u + BB ^ i * v = R) : (u + BB ^ i * (v + x * 2 ^ d % BB)) + BB ^ (i + 1) * (x * 2 ^ d / BB) = R + BB ^ i * (2 ^ d * x) := by
  have e := Nat.mod_add_div (x * 2 ^ d) BB
  generalize x * 2 ^ d % BB = m at *
  generalize x * 2 ^ d / BB = q at *
  rw [Nat.pow_succ]
  generalize BB ^ i = p at *
  generalize 2 ^ d = f at *
  grind
theorem lower_end {u s v d : Nat} (hs : s < 2 ^ d) (h : u * 2 ^ d + s = v) : u = v / 2 ^ d := by
  subst h
  rw [Nat.mul_comm, Nat.mul_add_div (Nat.pow_pos (by decide)), Nat.div_eq_of_lt hs, Nat.add_zero]
theorem pow_split (d : Nat) : 2 ^ d = BB ^ (d / 32) * 2 ^ (d % 32) := by
  rw [show BB = 2 ^ 32 from rfl, ← Nat.pow_mul, ← Nat.pow_add, Nat.div_add_mod]
theorem pow_two_lt {d : Nat} (h : d < 32) : 2 ^ d < BB := by rw [show BB = 2 ^ 32 from rfl]; exact Nat.pow_lt_pow_right (by decide) h
/-- A limb moved up: its lower and its upper part. -/
theorem up_parts {x d : Nat} (hx : x < BB) (hd : d < 32) : x * 2 ^ d < 18446744073709551616 ∧ x * 2 ^ d / BB < 2 ^ d ∧ (x * 2 ^ d % BB) % 2 ^ d = 0 ∧ ∀ v, v < 2 ^ d → v + x * 2 ^ d % BB < BB := by
  have h2 : 2 ^ d * 2 ^ (32 - d) = BB := by rw [← Nat.pow_add, show d + (32 - d) = 32 by omega]
  have hp : 0 < 2 ^ d := Nat.pow_pos (by decide)
  have hl := pow_two_lt hd
  have h0 : (x * 2 ^ d % BB) % 2 ^ d = 0 := by
    rw [Nat.mod_mod_of_dvd _ ⟨_, h2.symm⟩, Nat.mul_mod_left]
  refine ⟨?_, ?_, h0, ?_⟩
  · have : x * 2 ^ d < BB * BB := Nat.lt_of_lt_of_le (Nat.mul_lt_mul_of_pos_right hx hp) (Nat.mul_le_mul_left _ (by omega))
    simpa [BB] using this
  · rw [Nat.div_lt_iff_lt_mul (by decide), Nat.mul_comm]
    exact Nat.mul_lt_mul_of_pos_left hx hp
  · intro v hv
    have hm : x * 2 ^ d % BB < BB := Nat.mod_lt _ (by decide)
    obtain ⟨k, hk⟩ := Nat.dvd_of_mod_eq_zero h0
    rw [hk] at hm ⊢
    have : k < 2 ^ (32 - d) := by
      rw [← h2] at hm
      exact Nat.lt_of_mul_lt_mul_left hm
    have : 2 ^ d * (k + 1) ≤ 2 ^ d * 2 ^ (32 - d) := Nat.mul_le_mul_left _ this
    rw [Nat.mul_add, h2] at this
    omega
/-- A sum of parts without common bits is their union. -/
theorem or_add {v m d : Nat} (hv : v < 2 ^ d) (hm : m % 2 ^ d = 0) : v ||| m = v + m := by
  obtain ⟨k, rfl⟩ := Nat.dvd_of_mod_eq_zero hm
  rw [Nat.or_comm, ← Nat.two_pow_add_eq_or_of_lt hv, Nat.add_comm]
/-- The parts of a limb that is moved down. -/
theorem down_parts {x y d : Nat} (hx : x < BB) (hd : d < 32) : x / 2 ^ d < 2 ^ (32 - d) ∧ y * 2 ^ (32 - d) % BB = (y % 2 ^ d) * 2 ^ (32 - d) ∧ x / 2 ^ d + (y % 2 ^ d) * 2 ^ (32 - d) < BB := by
  have h2 : 2 ^ d * 2 ^ (32 - d) = BB := by rw [← Nat.pow_add, show d + (32 - d) = 32 by omega]
  have h1 : x / 2 ^ d < 2 ^ (32 - d) := by rw [Nat.div_lt_iff_lt_mul (Nat.pow_pos (by decide)), Nat.mul_comm, h2]; exact hx
  refine ⟨h1, ?_, ?_⟩
  · rw [← h2, Nat.mul_comm y, Nat.mul_comm (2 ^ d), Nat.mul_mod_mul_left, Nat.mul_comm]
  · have := Nat.mod_lt y (Nat.pow_pos (n := d) (show 0 < 2 by decide))
    have : (y % 2 ^ d + 1) * 2 ^ (32 - d) ≤ 2 ^ d * 2 ^ (32 - d) := Nat.mul_le_mul_right _ this
    rw [h2, Nat.add_mul] at this
    omega
end Go.Proofs.YtfdkdloldjfnjaaGreatDoor

/- DERIVED. Plain: fractions with a sign, and what is done with them, as rational numbers. -/
namespace Go.Proofs.YtfdkdloldjfnjaaGreatDoor

def sgn (s : Bool) (n : Nat) : Int := if s then -(n : Int) else n
/-- The number of a sign, a numerator and a denominator. -/
def quo (s : Bool) (n d : Nat) : Rat := mkRat (sgn s n) d
theorem sgn_abs (s : Bool) (n : Nat) : (sgn s n).natAbs = n := by unfold sgn; split <;> simp
theorem sgn_not (s : Bool) (n : Nat) : sgn (!s) n = -sgn s n := by cases s <;> simp [sgn]
theorem quo_den {d : Nat} (hd : d ≠ 0) (s : Bool) (n : Nat) : (quo s n d).den = d / Nat.gcd n d := by
  unfold quo; rw [Rat.den_mkRat, if_neg hd, sgn_abs, Nat.gcd_comm]
theorem quo_num {d : Nat} (hd : d ≠ 0) (s : Bool) (n : Nat) : (quo s n d).num = sgn s (n / Nat.gcd n d) := by
  unfold quo
  rw [Rat.num_mkRat, if_neg hd, sgn_abs, Nat.gcd_comm]
  unfold sgn
  split
  · exact Int.neg_ediv_of_dvd (Int.ofNat_dvd.2 (Nat.gcd_dvd_left n d))
  · rfl
theorem quo_abs {d : Nat} (hd : d ≠ 0) (s : Bool) (n : Nat) : (quo s n d).num.natAbs = n / Nat.gcd n d := by rw [quo_num hd, sgn_abs]
theorem quo_neg {d : Nat} (hd : d ≠ 0) (s : Bool) (n : Nat) : decide ((quo s n d).num < 0) = (s && decide (0 < n / Nat.gcd n d)) := by
  rw [quo_num hd]
  generalize n / Nat.gcd n d = k
  cases s <;> simp [sgn] <;> omega
theorem gcd_div_pos {n d : Nat} (hd : d ≠ 0) : 0 < n / Nat.gcd n d ↔ 0 < n := by
  have hg : 0 < Nat.gcd n d := Nat.gcd_pos_of_pos_right _ (by omega)
  rw [Nat.div_pos_iff]
  exact ⟨fun h => by omega, fun h => ⟨hg, Nat.gcd_le_left _ h⟩⟩
theorem den_div_pos {n d : Nat} (hd : d ≠ 0) : 0 < d / Nat.gcd n d := by
  have hg : 0 < Nat.gcd n d := Nat.gcd_pos_of_pos_right _ (by omega)
  exact Nat.div_pos (Nat.gcd_le_right _ (by omega)) hg
/-- The sign of a rational number. -/
def qneg (q : Rat) : Bool := decide (q.num < 0)
theorem sgn_self (z : Int) : sgn (decide (z < 0)) z.natAbs = z := by unfold sgn; split <;> simp_all <;> omega
theorem quo_self (q : Rat) : quo (qneg q) q.num.natAbs q.den = q := by
  unfold quo qneg; rw [sgn_self, Rat.mkRat_self]
theorem quo_eq_zero {d : Nat} (hd : d ≠ 0) (s : Bool) (n : Nat) : quo s n d = 0 ↔ n = 0 := by
  unfold quo; rw [Rat.mkRat_eq_zero hd]; cases s <;> simp [sgn]
theorem quo_lt_zero {d : Nat} (hd : d ≠ 0) (s : Bool) (n : Nat) : quo s n d < 0 ↔ s = true ∧ 0 < n := by
  rw [Rat.lt_iff, quo_num hd]
  have := gcd_div_pos (n := n) hd
  generalize n / Nat.gcd n d = k at *
  cases s <;> simp [sgn] <;> omega
theorem quo_zero_any (s t : Bool) (d : Nat) : quo s 0 d = quo t 0 d := by unfold quo; cases s <;> cases t <;> simp [sgn]
theorem qadd_same {a b : Nat} (ha : a ≠ 0) (hb : b ≠ 0) (s : Bool) (m n : Nat) : quo s m a + quo s n b = quo s (m * b + n * a) (a * b) := by
  unfold quo; rw [Rat.mkRat_add_mkRat _ _ ha hb]; congr 1; cases s <;> simp [sgn]; grind
theorem qadd_left {a b : Nat} (ha : a ≠ 0) (hb : b ≠ 0) (s : Bool) (m n : Nat) (h : n * a ≤ m * b) : quo s m a + quo (!s) n b = quo s (m * b - n * a) (a * b) := by
  unfold quo; rw [Rat.mkRat_add_mkRat _ _ ha hb]; congr 1
  have e : ((m * b - n * a : Nat) : Int) = (m : Int) * b - n * a := by rw [Int.ofNat_sub h]; simp
  cases s <;> simp only [sgn, e, if_true, if_false, Bool.not_true, Bool.not_false, Bool.false_eq_true] <;> grind
theorem qadd_right {a b : Nat} (ha : a ≠ 0) (hb : b ≠ 0) (s : Bool) (m n : Nat) (h : m * b ≤ n * a) : quo s m a + quo (!s) n b = quo (!s) (n * a - m * b) (a * b) := by
  unfold quo; rw [Rat.mkRat_add_mkRat _ _ ha hb]; congr 1
  have e : ((n * a - m * b : Nat) : Int) = (n : Int) * a - m * b := by rw [Int.ofNat_sub h]; simp
  cases s <;> simp only [sgn, e, if_true, if_false, Bool.not_true, Bool.not_false, Bool.false_eq_true] <;> grind
theorem qmul (s t : Bool) (m n a b : Nat) : quo s m a * quo t n b = quo (s != t) (m * n) (a * b) := by
  unfold quo; rw [Rat.mkRat_mul_mkRat]; congr 1; cases s <;> cases t <;> simp [sgn, Int.neg_mul, Int.mul_neg]
theorem qneg_quo (s : Bool) (n d : Nat) : -quo s n d = quo (!s) n d := by unfold quo; rw [Rat.neg_mkRat, sgn_not]
theorem qinv {d n : Nat} (s : Bool) : (quo s n d)⁻¹ = quo s d n := by
  unfold quo
  rw [← Rat.divInt_ofNat, Rat.inv_divInt, ← Rat.divInt_ofNat]
  cases s
  · rfl
  · simp only [sgn, if_true]
    rw [Rat.divInt_neg']
theorem qdiv {a b n : Nat} (s t : Bool) (m : Nat) : quo s m a / quo t n b = quo (s != t) (m * b) (a * n) := by
  rw [Rat.div_def, qinv, qmul]
/-- The sign of the difference of two rational numbers. -/
def qcmp (x y : Rat) : Int := if x < y then -1 else if y < x then 1 else 0
theorem qcmp_diff {d : Nat} (hd : d ≠ 0) {x y : Rat} {s : Bool} {n : Nat} (h : x - y = quo s n d) : qcmp x y = if n = 0 then 0 else if s = true then -1 else 1 := by
  have h1 := quo_lt_zero hd s n
  have h0 := quo_eq_zero hd s n
  rw [← h] at h1 h0
  unfold qcmp
  have e1 : x < y ↔ x - y < 0 := by grind
  have e2 : x = y ↔ x - y = 0 := by grind
  by_cases hn : n = 0
  · rw [if_pos hn]
    have := e2.2 (h0.2 hn)
    subst this
    simp [Rat.lt_irrefl]
  · rw [if_neg hn]
    have hne : x ≠ y := fun e => hn (h0.1 (e2.1 e))
    cases s with
    | true => rw [if_pos (e1.2 (h1.2 ⟨rfl, by omega⟩)), if_pos rfl]
    | false =>
      have : ¬ x < y := fun e => by have := (h1.1 (e1.1 e)).1; cases this
      rw [if_neg this, if_pos (Rat.lt_of_le_of_ne (Rat.not_lt.1 this) (Ne.symm hne)), if_neg (by simp)]
end Go.Proofs.YtfdkdloldjfnjaaGreatDoor

/- DERIVED. Plain: continued fractions: the simplest fraction of an interval, and the two neighbours of a fraction among those of small denominators. -/
namespace Go.Proofs.YtfdkdloldjfnjaaGreatDoor

/-- The parts that are yielded for the interval from a / b to c / d. -/
def partsF : Nat → Nat → Nat → Nat → Nat → List Nat
  | 0, _, _, _, _ => []
  | f + 1, a, b, c, d => if a % b = 0 then [a / b] else if a / b < c / d then [a / b + 1] else a / b :: partsF f d (c % d) b (a % b)
def partsL (a b c d : Nat) : List Nat := partsF (b + d) a b c d
/-- The fraction of some parts. -/
def ev : List Nat → Nat × Nat
  | [] => (1, 0)
  | t :: ts => (t * (ev ts).1 + (ev ts).2, (ev ts).1)
/-- Two fractions, one behind the other. -/
structure Two4 where
  p0 : Nat
  q0 : Nat
  p1 : Nat
  q1 : Nat
def Two4.step (s : Two4) (t : Nat) : Two4 := ⟨s.p1, s.q1, s.p0 + t * s.p1, s.q0 + t * s.q1⟩
def ends4 : Two4 := ⟨0, 1, 1, 0⟩
theorem fold_ev : ∀ (ts : List Nat) (s : Two4), (ts.foldl Two4.step s).p1 = s.p0 * (ev ts).2 + s.p1 * (ev ts).1 ∧ (ts.foldl Two4.step s).q1 = s.q0 * (ev ts).2 + s.q1 * (ev ts).1
  | [], s => by simp [ev]
  | t :: ts, s => by
    obtain ⟨h1, h2⟩ := fold_ev ts (s.step t)
    rw [List.foldl_cons, h1, h2]
    simp only [Two4.step, ev]
    constructor <;> grind
theorem fold_ends (ts : List Nat) : (ts.foldl Two4.step ends4).p1 = (ev ts).1 ∧ (ts.foldl Two4.step ends4).q1 = (ev ts).2 := by
  have := fold_ev ts ends4
  simpa [ends4] using this

theorem parts_inv {a b c d : Nat} (hb : 0 < b) (hd : 0 < d) (h : a * d ≤ c * b) (hr : a % b ≠ 0) (hq : ¬ a / b < c / d) : 0 < c % d ∧ a / b = c / d ∧ d * (a % b) ≤ b * (c % d) := by
  have h1 : a / b ≤ c / d := by
    rw [Nat.le_div_iff_mul_le hd]
    have h2 : a / b * b ≤ a := Nat.div_mul_le_self a b
    have h3 : a / b * b * d ≤ a * d := Nat.mul_le_mul_right _ h2
    have : a / b * d * b ≤ c * b := by
      have : a / b * d * b = a / b * b * d := by grind
      omega
    exact Nat.le_of_mul_le_mul_right this hb
  have he : a / b = c / d := by omega
  have ea := Nat.div_add_mod a b
  have ec := Nat.div_add_mod c d
  rw [← he] at ec
  generalize a / b = q at *
  generalize a % b = r at *
  generalize c % d = s at *
  subst ea
  subst ec
  have h5 : d * r ≤ b * s := by
    have e1 : (b * q + r) * d = b * q * d + d * r := by grind
    have e2 : (d * q + s) * b = b * q * d + b * s := by grind
    omega
  refine ⟨?_, he, h5⟩
  rcases Nat.eq_zero_or_pos s with h0 | h0
  · subst h0
    have : 0 < d * r := Nat.mul_pos hd (by omega)
    omega
  · exact h0
/-- What the parts of an interval stand for: the fraction of the interval with the least numerator and denominator. -/
theorem parts_best : ∀ (f a b c d : Nat), 0 < b → 0 < d → b + d ≤ f → a * d ≤ c * b →
    0 < (ev (partsF f a b c d)).2 ∧ Nat.gcd (ev (partsF f a b c d)).1 (ev (partsF f a b c d)).2 = 1 ∧ a * (ev (partsF f a b c d)).2 ≤ (ev (partsF f a b c d)).1 * b ∧ (ev (partsF f a b c d)).1 * d ≤ c * (ev (partsF f a b c d)).2 ∧
      ∀ m j, 0 < j → a * j ≤ m * b → m * d ≤ c * j → (ev (partsF f a b c d)).2 ≤ j ∧ (ev (partsF f a b c d)).1 ≤ m
  | 0, _, b, _, _, hb, _, hf, _ => absurd hf (by omega)
  | f + 1, a, b, c, d, hb, hd, hf, h => by
    have ea := Nat.div_add_mod a b
    simp only [partsF]
    by_cases hr : a % b = 0
    · rw [if_pos hr]
      rw [hr] at ea
      simp only [ev, Nat.mul_one, Nat.add_zero]
      generalize a / b = q at *
      refine ⟨by omega, Nat.gcd_one_right _, by grind, ?_, fun m j hj h1 h2 => ⟨hj, ?_⟩⟩
      · have : q * d * b ≤ c * b := by
          have : q * d * b = a * d := by rw [← ea]; grind
          omega
        exact Nat.le_of_mul_le_mul_right this hb
      · have : q * j * b ≤ m * b := by
          have : q * j * b = a * j := by rw [← ea]; grind
          omega
        have := Nat.le_of_mul_le_mul_right this hb
        have : q * 1 ≤ q * j := Nat.mul_le_mul_left _ hj
        omega
    · rw [if_neg hr]
      by_cases hq : a / b < c / d
      · rw [if_pos hq]
        simp only [ev, Nat.mul_one, Nat.add_zero]
        have hm := Nat.mod_lt a hb
        refine ⟨by omega, Nat.gcd_one_right _, ?_, ?_, fun m j hj h1 h2 => ⟨hj, ?_⟩⟩
        · generalize a / b = q at *
          rw [Nat.add_mul, Nat.mul_comm q b]; omega
        · have : (a / b + 1) * d ≤ c / d * d := Nat.mul_le_mul_right _ hq
          have := Nat.div_mul_le_self c d
          omega
        · generalize a / b = q at *
          generalize a % b = r at *
          have h3 : q * j * b < m * b := by
            have e : a * j = q * j * b + r * j := by rw [← ea]; grind
            have : 0 < r * j := Nat.mul_pos (by omega) hj
            omega
          have := Nat.lt_of_mul_lt_mul_right h3
          have : q * 1 ≤ q * j := Nat.mul_le_mul_left _ hj
          omega
      · rw [if_neg hq]
        obtain ⟨hs, he, hi⟩ := parts_inv hb hd h hr hq
        have hm := Nat.mod_lt a hb
        have hn := Nat.mod_lt c hd
        have ih := parts_best f d (c % d) b (a % b) hs (by omega) (by omega) hi
        have ec := Nat.div_add_mod c d
        rw [← he] at ec
        simp only [ev]
        generalize partsF f d (c % d) b (a % b) = ts at ih
        generalize (ev ts).1 = n at *
        generalize (ev ts).2 = k at *
        obtain ⟨i1, i2, i3, i4, i5⟩ := ih
        generalize a / b = q at *
        generalize a % b = r at *
        generalize c % d = s at *
        have hnp : 0 < n := by
          rcases Nat.eq_zero_or_pos n with h0 | h0
          · subst h0
            have : 0 < d * k := Nat.mul_pos hd i1
            omega
          · exact h0
        refine ⟨hnp, ?_, ?_, ?_, fun m j hj h1 h2 => ?_⟩
        · rw [Nat.gcd_comm, Nat.gcd_mul_right_add_right]
          exact i2
        · rw [← ea]; have : (b * q + r) * n = b * q * n + n * r := by grind
          have : (q * n + k) * b = b * q * n + b * k := by grind
          omega
        · rw [← ec]; have : (d * q + s) * n = d * q * n + n * s := by grind
          have : (q * n + k) * d = d * q * n + d * k := by grind
          omega
        · have g1 : q * j ≤ m := by
            have : q * j * b ≤ m * b := by
              have : (b * q + r) * j = q * j * b + r * j := by grind
              rw [← ea] at h1
              omega
            exact Nat.le_of_mul_le_mul_right this hb
          obtain ⟨m', rfl⟩ : ∃ m', m = q * j + m' := ⟨m - q * j, by omega⟩
          have g2 : j * r ≤ m' * b := by
            rw [← ea] at h1
            have : (b * q + r) * j = q * j * b + j * r := by grind
            have : (q * j + m') * b = q * j * b + m' * b := by grind
            omega
          have g3 : m' * d ≤ j * s := by
            rw [← ec] at h2
            have : (d * q + s) * j = q * j * d + j * s := by grind
            have : (q * j + m') * d = q * j * d + m' * d := by grind
            omega
          have g4 : 0 < m' := by
            rcases Nat.eq_zero_or_pos m' with h0 | h0
            · subst h0
              have : 0 < j * r := Nat.mul_pos hj (by omega)
              omega
            · exact h0
          have := i5 j m' g4 (by rw [Nat.mul_comm d]; exact g3) (by rw [Nat.mul_comm b]; exact g2)
          have : q * n ≤ q * j := Nat.mul_le_mul_left _ this.2
          omega
theorem parts_same : ∀ (f a b : Nat), 0 < b → b + b ≤ f → Nat.gcd a b = 1 → ev (partsF f a b a b) = (a, b) := by
  intro f a b hb hf hg
  obtain ⟨h1, h2, h3, h4, h5⟩ := parts_best f a b a b hb hb hf (Nat.le_refl _)
  obtain ⟨h6, h7⟩ := h5 a b hb (Nat.le_refl _) (Nat.le_refl _)
  generalize ev (partsF f a b a b) = x at *
  obtain ⟨n, k⟩ := x
  dsimp only at *
  have he : a * k = n * b := by omega
  have hk : b ∣ k := by
    have : b ∣ a * k := ⟨n, by rw [he, Nat.mul_comm]⟩
    exact Nat.Coprime.dvd_of_dvd_mul_left (Nat.Coprime.symm hg) this
  have hk2 : k = b := by have := Nat.le_of_dvd h1 hk; omega
  subst hk2
  have : a = n := Nat.eq_of_mul_eq_mul_right hb he
  rw [this]

/-- The pairs up to the first denominator that is too great. -/
def aroundF (most : Nat) : List Nat → Two4 → Two4
  | [], s => s
  | t :: ts, s => if most < s.q0 + t * s.q1 then s else aroundF most ts (s.step t)
/-- Parts, each of which is the whole part of what it stands for. -/
def Floors : List Nat → Prop
  | [] => True
  | t :: ts => (0 < (ev (t :: ts)).2 ∧ t * (ev (t :: ts)).2 ≤ (ev (t :: ts)).1) ∧ Floors ts
theorem parts_floors : ∀ (f a b : Nat), 0 < b → b + b ≤ f → Floors (partsF f a b a b)
  | 0, _, b, hb, hf => absurd hf (by omega)
  | f + 1, a, b, hb, hf => by
    simp only [partsF]
    by_cases hr : a % b = 0
    · rw [if_pos hr]; simp [Floors, ev]
    · rw [if_neg hr, if_neg (by omega)]
      have hm := Nat.mod_lt a hb
      obtain ⟨h1, -, h3, h4, h5⟩ := parts_best f b (a % b) b (a % b) (by omega) (by omega) (by omega) (Nat.le_refl _)
      refine ⟨?_, parts_floors f b (a % b) (by omega) (by omega)⟩
      simp only [ev]
      refine ⟨?_, by omega⟩
      rcases Nat.eq_zero_or_pos (ev (partsF f b (a % b) b (a % b))).1 with h0 | h0
      · rw [h0] at h3
        have : 0 < b * (ev (partsF f b (a % b) b (a % b))).2 := Nat.mul_pos hb h1
        omega
      · exact h0
/-- The two neighbours that are found for N / D. -/
structure Near2 (most N D : Nat) (p1 q1 p2 q2 : Nat) : Prop where
  pos1 : 0 < q1
  pos2 : 0 < q2
  le1 : q1 ≤ most
  le2 : q2 ≤ most
  sum : most < q1 + q2
  side : ∃ (e : Int) (u v : Nat), (e = 1 ∨ e = -1) ∧ (p1 : Int) * q2 - p2 * q1 = e ∧ (p1 : Int) * D - N * q1 = u * e ∧ (p2 : Int) * D - N * q2 = -(v * e)
theorem parts_pos : ∀ (f a b : Nat), 0 < b → b ≤ a → ∀ t ∈ partsF f a b a b, 0 < t
  | 0, _, _, _, _, t, h => by simp [partsF] at h
  | f + 1, a, b, hb, hba, t, h => by
    simp only [partsF] at h
    have h1 : 0 < a / b := Nat.div_pos hba hb
    by_cases hr : a % b = 0
    · rw [if_pos hr] at h
      simp at h; omega
    · rw [if_neg hr, if_neg (by omega)] at h
      rcases List.mem_cons.1 h with rfl | h
      · exact h1
      · exact parts_pos f b (a % b) (by omega) (Nat.le_of_lt (Nat.mod_lt a hb)) t h
theorem around_near (most N D : Nat) : ∀ (ts : List Nat) (s : Two4), (∀ t ∈ ts, 0 < t) → Floors ts → 0 < s.q1 → s.q1 ≤ most → s.q0 ≤ most → ((s.p1 : Int) * s.q0 - s.p0 * s.q1 = 1 ∨ (s.p1 : Int) * s.q0 - s.p0 * s.q1 = -1) →
    N = s.p0 * (ev ts).2 + s.p1 * (ev ts).1 → D = s.q0 * (ev ts).2 + s.q1 * (ev ts).1 →
    Near2 most N D (aroundF most ts s).p1 (aroundF most ts s).q1 ((aroundF most ts s).p0 + (most - (aroundF most ts s).q0) / (aroundF most ts s).q1 * (aroundF most ts s).p1) ((aroundF most ts s).q0 + (most - (aroundF most ts s).q0) / (aroundF most ts s).q1 * (aroundF most ts s).q1) := by
  have key : ∀ (s : Two4) (n m : Nat), 0 < s.q1 → s.q1 ≤ most → s.q0 ≤ most → ((s.p1 : Int) * s.q0 - s.p0 * s.q1 = 1 ∨ (s.p1 : Int) * s.q0 - s.p0 * s.q1 = -1) →
      N = s.p0 * m + s.p1 * n → D = s.q0 * m + s.q1 * n → (most - s.q0) / s.q1 * m ≤ n →
      Near2 most N D s.p1 s.q1 (s.p0 + (most - s.q0) / s.q1 * s.p1) (s.q0 + (most - s.q0) / s.q1 * s.q1) := by
    intro s n m h1 h2 h3 he hN hD hk
    have hmod := Nat.div_add_mod (most - s.q0) s.q1
    have hlt := Nat.mod_lt (most - s.q0) h1
    rw [Nat.mul_comm] at hmod
    generalize (most - s.q0) / s.q1 = k at *
    generalize (most - s.q0) % s.q1 = mm at *
    refine ⟨h1, ?_, h2, by omega, by omega, (s.p1 : Int) * s.q0 - s.p0 * s.q1, m, n - k * m, he, ?_, ?_, ?_⟩
    · rcases Nat.eq_zero_or_pos s.q0 with h0 | h0
      · rw [h0] at hmod ⊢
        have : 0 < k := by
          rcases Nat.eq_zero_or_pos k with hk0 | hk0
          · subst hk0; omega
          · exact hk0
        have := Nat.mul_pos this h1
        omega
      · omega
    · simp only [Int.natCast_add, Int.natCast_mul]; grind
    · subst hN hD; simp only [Int.natCast_add, Int.natCast_mul]; grind
    · subst hN hD
      rw [Int.ofNat_sub hk]
      simp only [Int.natCast_add, Int.natCast_mul]; grind
  intro ts
  induction ts with
  | nil =>
    intro s _ _ h1 h2 h3 he hN hD
    simp only [aroundF]
    simp only [ev] at hN hD
    exact key s 1 0 h1 h2 h3 he hN hD (by omega)
  | cons t ts ih =>
    intro s hp hf h1 h2 h3 he hN hD
    simp only [aroundF]
    by_cases hc : most < s.q0 + t * s.q1
    · rw [if_pos hc]
      refine key s _ _ h1 h2 h3 he hN hD ?_
      have h4 : (most - s.q0) / s.q1 ≤ t := by
        have : (most - s.q0) / s.q1 < t := by rw [Nat.div_lt_iff_lt_mul h1]; omega
        omega
      have h5 := hf.1.2
      have : (most - s.q0) / s.q1 * (ev (t :: ts)).2 ≤ t * (ev (t :: ts)).2 := Nat.mul_le_mul_right _ h4
      omega
    · rw [if_neg hc]
      have hpos := hf.1.1
      simp only [ev] at hpos
      refine ih (s.step t) (fun x hx => hp x (by simp [hx])) hf.2 ?_ (by simp only [Two4.step]; omega) (by simp only [Two4.step]; exact h2) ?_ ?_ ?_
      · simp only [Two4.step]
        have := Nat.mul_pos (hp t (by simp)) h1
        omega
      · simp only [Two4.step, Int.natCast_add, Int.natCast_mul]
        rcases he with he | he
        · right; grind
        · left; grind
      · rw [hN]; simp only [Two4.step, ev]; grind
      · rw [hD]; simp only [Two4.step, ev]; grind
end Go.Proofs.YtfdkdloldjfnjaaGreatDoor

/- DERIVED. Plain: the nearest fraction of a small denominator. -/
namespace Go.Proofs.YtfdkdloldjfnjaaGreatDoor

/-- The distance of two numbers. -/
def qd (x y : Rat) : Rat := if x ≤ y then y - x else x - y
/-- y is the nearest one to x of all with denominators up to most, and of two the lesser one. -/
structure IsNear (x : Rat) (most : Nat) (y : Rat) : Prop where
  den : y.den ≤ most
  best : ∀ z : Rat, z.den ≤ most → qd x y < qd x z ∨ (qd x y = qd x z ∧ y ≤ z)
theorem IsNear.uniq {x y z : Rat} {most : Nat} (h : IsNear x most y) (k : IsNear x most z) : y = z := by
  rcases h.best z k.den with h1 | ⟨h1, h2⟩ <;> rcases k.best y h.den with h3 | ⟨h3, h4⟩
  · grind
  · grind
  · grind
  · exact Rat.le_antisymm h2 h4
theorem near_pick {lo hi x : Rat} {most : Nat} (h1 : lo ≤ x) (h2 : x ≤ hi) (d1 : lo.den ≤ most) (d2 : hi.den ≤ most) (gap : ∀ z : Rat, z.den ≤ most → z ≤ lo ∨ hi ≤ z) :
    IsNear x most (if lo + hi < x + x then hi else lo) := by
  by_cases h : lo + hi < x + x
  · rw [if_pos h]
    refine ⟨d2, fun z hz => ?_⟩
    unfold qd
    rcases gap z hz with g | g <;> grind
  · rw [if_neg h]
    refine ⟨d1, fun z hz => ?_⟩
    unfold qd
    rcases gap z hz with g | g <;> grind
theorem gcd_of_det {p q : Nat} {a b e : Int} (he : e = 1 ∨ e = -1) (h : (p : Int) * a - b * q = e) : Nat.gcd p q = 1 := by
  have h1 : ((Nat.gcd p q : Nat) : Int) ∣ e := by
    rw [← h]
    exact Int.dvd_sub (Int.dvd_mul_of_dvd_left (Int.ofNat_dvd.2 (Nat.gcd_dvd_left p q))) (Int.dvd_mul_of_dvd_right (Int.ofNat_dvd.2 (Nat.gcd_dvd_right p q)))
  have h2 : ((Nat.gcd p q : Nat) : Int) ∣ 1 := by rcases he with rfl | rfl; exact h1; exact Int.dvd_neg.1 h1
  exact Nat.dvd_one.1 (Int.ofNat_dvd.1 h2)
theorem quo_low {p q : Nat} (hq : q ≠ 0) (h : Nat.gcd p q = 1) (s : Bool) : (quo s p q).num = sgn s p ∧ (quo s p q).den = q := by
  rw [quo_num hq, quo_den hq, h, Nat.div_one, Nat.div_one]; exact ⟨rfl, rfl⟩
theorem Near2.low {most N D p1 q1 p2 q2 : Nat} (h : Near2 most N D p1 q1 p2 q2) : Nat.gcd p1 q1 = 1 ∧ Nat.gcd p2 q2 = 1 := by
  obtain ⟨e, u, v, he, h1, -, -⟩ := h.side
  exact ⟨gcd_of_det (a := q2) (b := p2) he h1, gcd_of_det (a := q1) (b := p1) (e := -e) (by rcases he with rfl | rfl <;> simp) (by grind)⟩
/-- Between two neighbours there is no number of a lesser denominator than their sum. -/
theorem no_between {p q r s P Q : Int} (hq : 0 < q) (hs : 0 < s) (h : r * q - p * s = 1) (h1 : p * Q < P * q) (h2 : P * s < r * Q) : q + s ≤ Q := by
  have e : Q = q * (r * Q - P * s) + s * (P * q - p * Q) := by
    have : q * (r * Q - P * s) + s * (P * q - p * Q) = Q * (r * q - p * s) := by grind
    rw [this, h]; omega
  have a1 : q * 1 ≤ q * (r * Q - P * s) := Int.mul_le_mul_of_nonneg_left (by omega) (by omega)
  have a2 : s * 1 ≤ s * (P * q - p * Q) := Int.mul_le_mul_of_nonneg_left (by omega) (by omega)
  omega
theorem quo_le {p q N D : Nat} (hq : 0 < q) (hD : 0 < D) : quo false p q ≤ quo false N D ↔ (p : Int) * D ≤ N * q := by
  unfold quo
  simp only [sgn, Bool.false_eq_true, if_false]
  rw [← Rat.divInt_ofNat, ← Rat.divInt_ofNat, Rat.le_iff_sub_nonneg, Rat.divInt_sub_divInt _ _ (by omega) (by omega), Rat.divInt_nonneg_iff_of_pos_right (Int.mul_pos (by omega) (by omega))]
  omega
theorem near_sides {most N D p1 q1 p2 q2 : Nat} (hD : 0 < D) (h : Near2 most N D p1 q1 p2 q2) :
    (quo false p1 q1 ≤ quo false N D ∧ quo false N D ≤ quo false p2 q2 ∧ ∀ z : Rat, z.den ≤ most → z ≤ quo false p1 q1 ∨ quo false p2 q2 ≤ z) ∨
    (quo false p2 q2 ≤ quo false N D ∧ quo false N D ≤ quo false p1 q1 ∧ ∀ z : Rat, z.den ≤ most → z ≤ quo false p2 q2 ∨ quo false p1 q1 ≤ z) := by
  obtain ⟨g1, g2⟩ := h.low
  have q1p := h.pos1
  have q2p := h.pos2
  have hs := h.sum
  obtain ⟨n1, d1⟩ := quo_low (by omega) g1 false
  obtain ⟨n2, d2⟩ := quo_low (by omega) g2 false
  have le_iff : ∀ a b : Rat, a ≤ b ↔ a.num * b.den ≤ b.num * a.den := Rat.le_iff
  have hx : ∀ p q : Nat, 0 < q → (quo false p q ≤ quo false N D ↔ (p : Int) * D ≤ N * q) ∧ (quo false N D ≤ quo false p q ↔ (N : Int) * q ≤ p * D) := fun p q hq => ⟨quo_le hq hD, quo_le hD hq⟩
  obtain ⟨e, u, v, he, h1, h2, h3⟩ := h.side
  have gap : ∀ (p q r s : Nat), 0 < q → 0 < s → Nat.gcd p q = 1 → Nat.gcd r s = 1 → (r : Int) * q - p * s = 1 → most < q + s → ∀ z : Rat, z.den ≤ most → z ≤ quo false p q ∨ quo false r s ≤ z := by
    intro p q r s hq hs' e1 e2 hd hsum z hz
    obtain ⟨m1, k1⟩ := quo_low (by omega) e1 false
    obtain ⟨m2, k2⟩ := quo_low (by omega) e2 false
    rw [le_iff, le_iff, m1, m2, k1, k2]
    simp only [sgn, Bool.false_eq_true, if_false]
    rcases Int.lt_or_le ((p : Int) * z.den) (z.num * q) with ha | ha
    · rcases Int.lt_or_le (z.num * s) ((r : Int) * z.den) with hb | hb
      · have := no_between (p := p) (q := q) (r := r) (s := s) (P := z.num) (Q := z.den) (by omega) (by omega) hd ha hb
        omega
      · exact .inr hb
    · exact .inl ha
  have hu : (0 : Int) ≤ u := by omega
  have hv : (0 : Int) ≤ v := by omega
  rcases he with rfl | rfl
  · right
    refine ⟨(hx p2 q2 q2p).1.2 (by omega), (hx p1 q1 q1p).2.2 (by omega), gap p2 q2 p1 q1 q2p q1p g2 g1 (by omega) (by omega)⟩
  · left
    refine ⟨(hx p1 q1 q1p).1.2 (by omega), (hx p2 q2 q2p).2.2 (by omega), gap p1 q1 p2 q2 q1p q2p g1 g2 (by omega) (by omega)⟩
end Go.Proofs.YtfdkdloldjfnjaaGreatDoor

/- DERIVED. Plain: what the package answers, as rational numbers. -/
namespace Go.Proofs.YtfdkdloldjfnjaaGreatDoor

/-- A rational number of at most 32 limbs each, as sign, numerator and denominator. -/
def lowR (q : Rat) : Option (Bool × Nat × Nat) :=
  if 32 < (nat q.num.natAbs).length ∨ 32 < (nat q.den).length then none else some (qneg q, q.num.natAbs, q.den)
/-- Its parts have at most 32 limbs. -/
def Sm (q : Rat) : Prop := (nat q.num.natAbs).length ≤ 32 ∧ (nat q.den).length ≤ 32
theorem lowR_sm {q : Rat} (h : Sm q) : lowR q = some (qneg q, q.num.natAbs, q.den) := if_neg (by unfold Sm at h; omega)
theorem lowR_none {q : Rat} (h : ¬ Sm q) : lowR q = none := if_pos (by unfold Sm at h; omega)
theorem lowR_some {q : Rat} {s : Bool} {n d : Nat} (h : lowR q = some (s, n, d)) : Sm q ∧ s = qneg q ∧ n = q.num.natAbs ∧ d = q.den := by
  by_cases hs : Sm q
  · rw [lowR_sm hs] at h
    injection h with h
    injection h with h1 h2
    injection h2 with h2 h3
    exact ⟨hs, h1.symm, h2.symm, h3.symm⟩
  · rw [lowR_none hs] at h; cases h
theorem lowR_inj {p q : Rat} (hp : Sm p) (h : lowR p = lowR q) : p = q := by
  rw [lowR_sm hp] at h
  obtain ⟨-, h1, h2, h3⟩ := lowR_some h.symm
  rw [← quo_self p, ← quo_self q, h1, h2, h3]
theorem quo_sumP {s t : Bool} {m a n b : Nat} (ha : a ≠ 0) (hb : b ≠ 0) : True := trivial
theorem qneg_num (q : Rat) : sgn (qneg q) q.num.natAbs = q.num := by unfold qneg; exact sgn_self _
theorem sm_neg {q : Rat} (h : Sm q) : Sm (-q) := by
  unfold Sm at *
  rw [Rat.neg_num, Rat.neg_den, Int.natAbs_neg]
  exact h
theorem low_of_gcd {n d : Nat} (hd : d ≠ 0) (hg : Nat.gcd n d = 1) (s : Bool) (hs : n = 0 → s = false) : qneg (quo s n d) = s ∧ (quo s n d).num.natAbs = n ∧ (quo s n d).den = d := by
  have h1 := quo_neg hd s n
  have h2 := quo_abs hd s n
  have h3 := quo_den hd s n
  rw [hg, Nat.div_one] at h1 h2 h3
  refine ⟨?_, h2, h3⟩
  unfold qneg
  rw [h1]
  rcases Nat.eq_zero_or_pos n with h0 | h0
  · rw [hs h0]; rfl
  · simp [h0]
theorem rat_low (q : Rat) : Nat.gcd q.num.natAbs q.den = 1 ∧ q.den ≠ 0 ∧ (q.num.natAbs = 0 → qneg q = false) :=
  ⟨q.reduced, q.den_nz, fun h => by unfold qneg; rw [decide_eq_false_iff_not]; omega⟩
end Go.Proofs.YtfdkdloldjfnjaaGreatDoor

/- DERIVED. Plain: decimal digits. -/
namespace Go.Proofs.YtfdkdloldjfnjaaGreatDoor

/-- k decimal digits of a number. -/
def pad : Nat → Nat → List UInt8
  | 0, _ => []
  | k + 1, r => pad k (r / 10) ++ [UInt8.ofNat (48 + r % 10)]
theorem pad_len (k r : Nat) : (pad k r).length = k := by
  induction k generalizing r with
  | zero => rfl
  | succ k ih => simp [pad, ih]
theorem dec_one_pad (k r : Nat) (h : r < 10 ^ k) : Lib.decDigits (10 ^ k + r) = 49 :: pad k r := by
  induction k generalizing r with
  | zero =>
    have : r = 0 := by simpa using h
    subst this
    rw [Lib.decDigits, dif_pos (by decide)]
    rfl
  | succ k ih =>
    have hp : 0 < 10 ^ k := Nat.pow_pos (by decide)
    rw [Nat.pow_succ] at h ⊢
    rw [Lib.decDigits, dif_neg (by omega), show (10 ^ k * 10 + r) / 10 = 10 ^ k + r / 10 by omega, show (10 ^ k * 10 + r) % 10 = r % 10 by omega, ih _ (by omega)]
    simp [pad]
theorem itoa_group (r : Nat) (h : r < 1000000000) : Lib.itoa (1000000000 + (r : Int)) = 49 :: pad 9 r := by
  unfold Lib.itoa
  rw [if_neg (by omega), show (1000000000 + (r : Int)).toNat = 10 ^ 9 + r by omega, dec_one_pad 9 r h]
/-- The digits in groups of nine. -/
def grp (n : Nat) : List UInt8 := if _h : n = 0 then [] else grp (n / 1000000000) ++ pad 9 (n % 1000000000)
termination_by n
decreasing_by exact Nat.div_lt_self (by omega) (by decide)
theorem grp_zero : grp 0 = [] := by rw [grp]; simp
theorem grp_pos {n : Nat} (h : 0 < n) : grp n = grp (n / 1000000000) ++ pad 9 (n % 1000000000) := by rw [grp, dif_neg (by omega)]
theorem grp_len : ∀ (r n : Nat), n < 10 ^ (9 * r) → (grp n).length ≤ 9 * r
  | 0, n, h => by
    have : n = 0 := by simpa using h
    subst this
    rw [grp_zero]; simp
  | r + 1, n, h => by
    rcases Nat.eq_zero_or_pos n with h0 | h0
    · subst h0; rw [grp_zero]; simp
    · rw [grp_pos h0, List.length_append, pad_len]
      have e : 10 ^ (9 * (r + 1)) = 10 ^ (9 * r) * 1000000000 := by rw [show 9 * (r + 1) = 9 * r + 9 by omega, Nat.pow_add]
      rw [e] at h
      have := grp_len r (n / 1000000000) (by rw [Nat.div_lt_iff_lt_mul (by decide)]; exact h)
      omega
/-- The digits, none for 0. -/
def dig0 (n : Nat) : List UInt8 := if n = 0 then [] else Lib.decDigits n
theorem dig0_pos {n : Nat} (h : 0 < n) : dig0 n = dig0 (n / 10) ++ [UInt8.ofNat (48 + n % 10)] := by
  unfold dig0
  rw [if_neg (by omega)]
  by_cases h1 : n < 10
  · rw [if_pos (by omega), Lib.decDigits, dif_pos h1, Nat.mod_eq_of_lt h1]; rfl
  · rw [if_neg (by omega)]
    conv => lhs; rw [Lib.decDigits]
    rw [dif_neg h1]
theorem dig0_ne {n : Nat} (h : 0 < n) : dig0 n ≠ [] := by rw [dig0_pos h]; simp
theorem digit_zero (r : Nat) (h : r < 10) : ((UInt8.ofNat (48 + r)) == (48 : UInt8)) = decide (r = 0) := by
  have : r = 0 ∨ r = 1 ∨ r = 2 ∨ r = 3 ∨ r = 4 ∨ r = 5 ∨ r = 6 ∨ r = 7 ∨ r = 8 ∨ r = 9 := by omega
  rcases this with h | h | h | h | h | h | h | h | h | h <;> subst h <;> decide
theorem drop_pad (k n : Nat) (h : n < 10 ^ k) : (pad k n).dropWhile (· == 48) = dig0 n := by
  induction k generalizing n with
  | zero =>
    have : n = 0 := by simpa using h
    subst this; rfl
  | succ k ih =>
    rw [Nat.pow_succ] at h
    rw [pad, List.dropWhile_append, ih (n / 10) (by omega)]
    rcases Nat.eq_zero_or_pos (n / 10) with h0 | h0
    · rw [h0]
      have hl : n < 10 := by omega
      have e : dig0 0 = [] := rfl
      simp only [e, List.isEmpty_nil, if_true]
      rw [List.dropWhile_cons, digit_zero _ (Nat.mod_lt _ (by decide)), Nat.mod_eq_of_lt hl]
      by_cases hn : n = 0
      · subst hn; rfl
      · rw [if_neg (by simpa using hn)]
        unfold dig0
        rw [if_neg hn, Lib.decDigits, dif_pos hl]
    · rw [if_neg (by rw [List.isEmpty_iff]; exact dig0_ne h0), ← dig0_pos (by omega)]
theorem dig0_split (k n : Nat) (h : 0 < n / 10 ^ k) : dig0 n = dig0 (n / 10 ^ k) ++ pad k (n % 10 ^ k) := by
  induction k generalizing n with
  | zero => simp [pad]
  | succ k ih =>
    have hp : 0 < 10 ^ k := Nat.pow_pos (by decide)
    have e1 : n / 10 ^ (k + 1) = n / 10 / 10 ^ k := by rw [Nat.pow_succ, Nat.mul_comm, Nat.div_div_eq_div_mul]
    rw [e1] at h ⊢
    have h0 : 0 < n := by
      rcases Nat.eq_zero_or_pos n with h0 | h0
      · subst h0; simp at h
      · exact h0
    have e2 : n % 10 ^ (k + 1) / 10 = n / 10 % 10 ^ k := by rw [Nat.pow_succ, Nat.mul_comm, Nat.mod_mul_right_div_self]
    have e3 : n % 10 ^ (k + 1) % 10 = n % 10 := Nat.mod_mod_of_dvd _ ⟨10 ^ k, by rw [Nat.pow_succ, Nat.mul_comm]⟩
    rw [dig0_pos h0, ih (n / 10) h, pad, e2, e3, List.append_assoc]
theorem drop_grp (n : Nat) : (grp n).dropWhile (· == 48) = dig0 n := by
  induction n using Nat.strongRecOn with
  | _ n ih =>
    rcases Nat.eq_zero_or_pos n with h0 | h0
    · subst h0; rw [grp_zero]; rfl
    · rw [grp_pos h0, List.dropWhile_append, ih _ (Nat.div_lt_self h0 (by decide))]
      rcases Nat.eq_zero_or_pos (n / 1000000000) with h1 | h1
      · simp only [h1, show dig0 0 = [] from rfl, List.isEmpty_nil, if_true]
        rw [Nat.mod_eq_of_lt (by omega)]
        exact drop_pad 9 n (by omega)
      · rw [if_neg (by rw [List.isEmpty_iff]; exact dig0_ne h1)]
        exact (dig0_split 9 n h1).symm

/-! ### reading -/
def isDg (c : UInt8) : Bool := decide (48 ≤ c.toNat) && decide (c.toNat ≤ 57)
/-- The number of digits. -/
def nvl (l : List UInt8) : Nat := l.foldl (fun n c => n * 10 + (c.toNat - 48)) 0
theorem nvl_snoc (l : List UInt8) (c : UInt8) : nvl (l ++ [c]) = nvl l * 10 + (c.toNat - 48) := by simp [nvl]
theorem nvl_from (l : List UInt8) (h : ∀ c ∈ l, isDg c = true) (a : Nat) : l.foldl (fun n c => n * 10 + (c.toNat - 48)) a < (a + 1) * 10 ^ l.length := by
  induction l generalizing a with
  | nil => simp
  | cons c l ih =>
    rw [List.foldl_cons, List.length_cons, Nat.pow_succ]
    have h1 := ih (fun x hx => h x (by simp [hx])) (a * 10 + (c.toNat - 48))
    have h2 := h c (by simp)
    unfold isDg at h2
    simp at h2
    have h3 : (a * 10 + (c.toNat - 48) + 1) * 10 ^ l.length ≤ (a + 1) * 10 * 10 ^ l.length := Nat.mul_le_mul_right _ (by omega)
    have h4 : (a + 1) * 10 * 10 ^ l.length = (a + 1) * (10 ^ l.length * 10) := by rw [Nat.mul_assoc, Nat.mul_comm 10]
    omega
theorem nvl_lt (l : List UInt8) (h : ∀ c ∈ l, isDg c = true) : nvl l < 10 ^ l.length := by
  have := nvl_from l h 0
  simpa [nvl] using this
/-- Whether digits are read. -/
def numOk (l : List UInt8) : Bool := !(l.isEmpty || (decide (309 < l.length) || (decide (1 < l.length) && l.head? == some 48))) && l.all isDg
end Go.Proofs.YtfdkdloldjfnjaaGreatDoor

/- DERIVED. Plain: how great the fractions on the way of a continued fraction get. -/
namespace Go.Proofs.YtfdkdloldjfnjaaGreatDoor

theorem ev_pos : ∀ (f a b c d : Nat), 0 < b → 0 < d → b + d ≤ f → a * d ≤ c * b → ∀ pre rest, partsF f a b c d = pre ++ rest → pre ≠ [] → rest ≠ [] → 0 < (ev rest).1
  | 0, _, b, _, _, hb, _, hf, _, _, _, _, _, _ => absurd hf (by omega)
  | f + 1, a, b, c, d, hb, hd, hf, h, pre, rest, he, hp, hr => by
    simp only [partsF] at he
    have one : ∀ x : Nat, [x] = pre ++ rest → False := fun x hx => by
      have := congrArg List.length hx
      have h1 := List.length_pos_iff.2 hp
      have h2 := List.length_pos_iff.2 hr
      simp at this
      omega
    by_cases h1 : a % b = 0
    · rw [if_pos h1] at he; exact (one _ he).elim
    · rw [if_neg h1] at he
      by_cases h2 : a / b < c / d
      · rw [if_pos h2] at he; exact (one _ he).elim
      · rw [if_neg h2] at he
        obtain ⟨hs, -, hi⟩ := parts_inv hb hd h h1 h2
        have hm := Nat.mod_lt a hb
        have hn := Nat.mod_lt c hd
        cases pre with
        | nil => exact (hp rfl).elim
        | cons x pre =>
          rw [List.cons_append, List.cons.injEq] at he
          cases pre with
          | nil =>
            rw [List.nil_append] at he
            obtain ⟨b1, -, b3, -, -⟩ := parts_best f d (c % d) b (a % b) hs (by omega) (by omega) hi
            rw [← he.2]
            rcases Nat.eq_zero_or_pos (ev (partsF f d (c % d) b (a % b))).1 with h0 | h0
            · rw [h0] at b3
              have := Nat.mul_pos hd b1
              omega
            · exact h0
          | cons y pre => exact ev_pos f d (c % d) b (a % b) hs (by omega) (by omega) hi (y :: pre) rest he.2 (by simp) hr
/-- The fraction behind some of the parts. -/
def foldT (pre : List Nat) : Two4 := pre.foldl Two4.step ends4
theorem foldT_snoc (pre : List Nat) (t : Nat) : foldT (pre ++ [t]) = (foldT pre).step t := by simp [foldT]
theorem fold_le {f a b c d : Nat} (hb : 0 < b) (hd : 0 < d) (hf : b + d ≤ f) (h : a * d ≤ c * b) {M : Nat} (hM : 1 ≤ M) (ha : a ≤ M) (hbM : b ≤ M) {pre rest : List Nat} (he : partsF f a b c d = pre ++ rest) : (foldT pre).p1 ≤ M ∧ (foldT pre).q1 ≤ M := by
  by_cases hp : pre = []
  · subst hp
    exact ⟨hM, Nat.zero_le _⟩
  · obtain ⟨b1, -, b3, b4, b5⟩ := parts_best f a b c d hb hd hf h
    obtain ⟨k1, k2⟩ := b5 a b hb (Nat.le_refl _) h
    obtain ⟨e1, e2⟩ := fold_ends (partsF f a b c d)
    rw [he] at e1 e2 k1 k2
    rw [List.foldl_append] at e1 e2
    have e3 := fold_ev rest (foldT pre)
    unfold foldT at e3 ⊢
    rw [e1, e2] at e3
    by_cases hr : rest = []
    · subst hr
      simp only [ev, Nat.mul_zero, Nat.mul_one, Nat.zero_add] at e3
      omega
    · have hev := ev_pos f a b c d hb hd hf h pre rest he hp hr
      have l1 : (pre.foldl Two4.step ends4).p1 * 1 ≤ (pre.foldl Two4.step ends4).p1 * (ev rest).1 := Nat.mul_le_mul_left _ hev
      have l2 : (pre.foldl Two4.step ends4).q1 * 1 ≤ (pre.foldl Two4.step ends4).q1 * (ev rest).1 := Nat.mul_le_mul_left _ hev
      omega
theorem fold_prev {f a b c d : Nat} (hb : 0 < b) (hd : 0 < d) (hf : b + d ≤ f) (h : a * d ≤ c * b) {M : Nat} (hM : 1 ≤ M) (ha : a ≤ M) (hbM : b ≤ M) {pre rest : List Nat} (he : partsF f a b c d = pre ++ rest) : (foldT pre).p0 ≤ M ∧ (foldT pre).q0 ≤ M := by
  rcases List.eq_nil_or_concat pre with rfl | ⟨pre', t, rfl⟩
  · exact ⟨Nat.zero_le _, hM⟩
  · rw [List.concat_eq_append, foldT_snoc]
    simp only [Two4.step]
    exact fold_le hb hd hf h hM ha hbM (pre := pre') (rest := t :: rest) (by rw [he]; simp)
theorem fold_sum : ∀ (pre : List Nat) (s : Two4), 1 ≤ s.p0 + s.q0 → 1 ≤ s.p1 + s.q1 → 1 ≤ (pre.foldl Two4.step s).p1 + (pre.foldl Two4.step s).q1
  | [], s, _, h => h
  | t :: ts, s, h0, h1 => by
    rw [List.foldl_cons]
    refine fold_sum ts _ ?_ ?_
    · exact h1
    · simp only [Two4.step]; omega
theorem part_le {f a b c d : Nat} (hb : 0 < b) (hd : 0 < d) (hf : b + d ≤ f) (h : a * d ≤ c * b) {M : Nat} (hM : 1 ≤ M) (ha : a ≤ M) (hbM : b ≤ M) {pre rest : List Nat} {t : Nat} (he : partsF f a b c d = pre ++ t :: rest) : t ≤ 2 * M := by
  have h1 := fold_le hb hd hf h hM ha hbM (pre := pre ++ [t]) (rest := rest) (by rw [he]; simp)
  rw [foldT_snoc] at h1
  simp only [Two4.step] at h1
  have h2 : 1 ≤ (foldT pre).p1 + (foldT pre).q1 := fold_sum pre ends4 (by decide) (by decide)
  have h3 : t * 1 ≤ t * ((foldT pre).p1 + (foldT pre).q1) := Nat.mul_le_mul_left _ h2
  rw [Nat.mul_add] at h3
  omega
theorem foldT_all {f a b c d : Nat} : (foldT (partsF f a b c d)).p1 = (ev (partsF f a b c d)).1 ∧ (foldT (partsF f a b c d)).q1 = (ev (partsF f a b c d)).2 := fold_ends _
end Go.Proofs.YtfdkdloldjfnjaaGreatDoor

/- DERIVED. Plain: the two neighbours, from the first part on. -/
namespace Go.Proofs.YtfdkdloldjfnjaaGreatDoor

theorem around_prefix (M : Nat) : ∀ (ts : List Nat) (s : Two4), ∃ pre rest, ts = pre ++ rest ∧ aroundF M ts s = pre.foldl Two4.step s ∧ (∀ t r, rest = t :: r → M < (pre.foldl Two4.step s).q0 + t * (pre.foldl Two4.step s).q1)
  | [], s => ⟨[], [], rfl, rfl, fun _ _ h => by cases h⟩
  | t :: ts, s => by
    simp only [aroundF]
    by_cases h : M < s.q0 + t * s.q1
    · rw [if_pos h]
      exact ⟨[], t :: ts, rfl, rfl, fun t' r e => by cases e; exact h⟩
    · rw [if_neg h]
      obtain ⟨pre, rest, h1, h2, h3⟩ := around_prefix M ts (s.step t)
      exact ⟨t :: pre, rest, by rw [h1]; rfl, by rw [h2]; rfl, h3⟩
theorem around_inv (M : Nat) : ∀ (ts : List Nat) (s : Two4), (∀ t ∈ ts, 0 < t) → 0 < s.q1 → s.q1 ≤ M → s.q0 ≤ M → 0 < (aroundF M ts s).q1 ∧ (aroundF M ts s).q1 ≤ M ∧ (aroundF M ts s).q0 ≤ M
  | [], s, _, h1, h2, h3 => ⟨h1, h2, h3⟩
  | t :: ts, s, hp, h1, h2, h3 => by
    simp only [aroundF]
    by_cases h : M < s.q0 + t * s.q1
    · rw [if_pos h]; exact ⟨h1, h2, h3⟩
    · rw [if_neg h]
      refine around_inv M ts (s.step t) (fun x hx => hp x (by simp [hx])) ?_ (by simp only [Two4.step]; omega) (by simp only [Two4.step]; exact h2)
      simp only [Two4.step]
      have := Nat.mul_pos (hp t (by simp)) h1
      omega
/-- The parts of a fraction in lowest terms: the first one, and the others, which are above 0. -/
theorem parts_first {m n : Nat} (hn : 0 < n) : ∃ rest, partsF (n + n) m n m n = m / n :: rest ∧ (∀ t ∈ rest, 0 < t) ∧ Floors rest := by
  obtain ⟨f, hf⟩ : ∃ f, n + n = f + 1 := ⟨n + n - 1, by omega⟩
  rw [hf]
  simp only [partsF]
  by_cases h : m % n = 0
  · rw [if_pos h]
    exact ⟨[], rfl, by simp, trivial⟩
  · rw [if_neg h, if_neg (Nat.lt_irrefl _)]
    have hm := Nat.mod_lt m hn
    exact ⟨_, rfl, parts_pos f n (m % n) (by omega) (Nat.le_of_lt hm), parts_floors f n (m % n) (by omega) (by omega)⟩
/-- The state behind the loop. -/
def arS (M m n : Nat) : Two4 := aroundF M (partsF (n + n) m n m n) ends4
def arK (M m n : Nat) : Nat := (M - (arS M m n).q0) / (arS M m n).q1
theorem arS_facts {M m n : Nat} (hM : 1 ≤ M) (hn : 0 < n) (hg : Nat.gcd m n = 1) : 0 < (arS M m n).q1 ∧ (arS M m n).q1 ≤ M ∧ (arS M m n).q0 ≤ M ∧
    Near2 M m n (arS M m n).p1 (arS M m n).q1 ((arS M m n).p0 + arK M m n * (arS M m n).p1) ((arS M m n).q0 + arK M m n * (arS M m n).q1) := by
  obtain ⟨rest, he, hp, hf⟩ := parts_first (m := m) hn
  have hev := parts_same (n + n) m n hn (Nat.le_refl _) hg
  have e : arS M m n = aroundF M rest ⟨1, 0, m / n, 1⟩ := by
    unfold arS
    rw [he]
    rw [show aroundF M (m / n :: rest) ends4 = if M < ends4.q0 + m / n * ends4.q1 then ends4 else aroundF M rest (ends4.step (m / n)) from rfl, if_neg (by show ¬ M < 1 + m / n * 0; omega)]
    simp [Two4.step, ends4]
  rw [he] at hev
  simp only [ev, Prod.mk.injEq] at hev
  unfold arK
  rw [e]
  obtain ⟨i1, i2, i3⟩ := around_inv M rest ⟨1, 0, m / n, 1⟩ hp Nat.one_pos hM (Nat.zero_le _)
  refine ⟨i1, i2, i3, ?_⟩
  exact around_near M m n rest ⟨1, 0, m / n, 1⟩ hp hf Nat.one_pos hM (Nat.zero_le _) (.inr (by simp)) (by simp only [Nat.one_mul]; omega) (by simp only [Nat.zero_mul, Nat.one_mul, Nat.zero_add]; omega)
theorem arS_pre (M m n : Nat) : ∃ pre rest, partsF (n + n) m n m n = pre ++ rest ∧ arS M m n = foldT pre := by
  obtain ⟨pre, rest, h1, h2, -⟩ := around_prefix M (partsF (n + n) m n m n) ends4
  exact ⟨pre, rest, h1, h2⟩
theorem arS_le {M m n : Nat} (hn : 0 < n) {B : Nat} (hB : 1 ≤ B) (hm : m ≤ B) (hnB : n ≤ B) : (arS M m n).p0 ≤ B ∧ (arS M m n).q0 ≤ B ∧ (arS M m n).p1 ≤ B ∧ (arS M m n).q1 ≤ B := by
  obtain ⟨pre, rest, h1, h2⟩ := arS_pre M m n
  rw [h2]
  obtain ⟨a1, a2⟩ := fold_le hn hn (Nat.le_refl _) (Nat.le_refl _) hB hm hnB h1
  obtain ⟨b1, b2⟩ := fold_prev hn hn (Nat.le_refl _) (Nat.le_refl _) hB hm hnB h1
  exact ⟨b1, b2, a1, a2⟩
/-- No part so far has led too far. -/
def Within (M : Nat) (ts pre : List Nat) : Prop := aroundF M ts ends4 = aroundF M (ts.drop pre.length) (foldT pre)
theorem Within.nil (M : Nat) (ts : List Nat) : Within M ts [] := rfl
theorem Within.all {M : Nat} {ts : List Nat} (h : Within M ts ts) : aroundF M ts ends4 = foldT ts := by
  unfold Within at h
  rw [List.drop_length] at h
  exact h
theorem Within.cons {M : Nat} {ts pre : List Nat} {t : Nat} (h : Within M ts pre) (hp : pre ++ [t] <+: ts) : aroundF M ts ends4 = if M < (foldT pre).q0 + t * (foldT pre).q1 then foldT pre else aroundF M (ts.drop (pre ++ [t]).length) (foldT (pre ++ [t])) := by
  obtain ⟨rest, rfl⟩ := hp
  unfold Within at h
  rw [h, foldT_snoc]
  have e : (pre ++ [t] ++ rest).drop pre.length = t :: rest := by simp
  have e2 : (pre ++ [t] ++ rest).drop (pre ++ [t]).length = rest := List.drop_left
  rw [e, e2]
  simp only [aroundF]
end Go.Proofs.YtfdkdloldjfnjaaGreatDoor
