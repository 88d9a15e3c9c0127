/-
  DERIVED. Several texts in one.
-/
import Derived.Test.YtfdkdloldjfnjaaGreatDoorYTUm
import Derived.Test.YtfdkdloldjfnjaaGreatDoorYRAm
import Derived.Test.YtfdkdloldjfnjaaGreatDoorYTCm
set_option linter.unusedVariables false
set_option linter.unusedSimpArgs false

/- DERIVED. Plain: nearP's answer is the nearest one. -/
namespace Go.Proofs.YtfdkdloldjfnjaaGreatDoor
open Go.RowKit Go.Shelf

theorem quo_negP (t p : Bool) (n d : Nat) : quo (negP t p n) n d = quo (t != p) n d := by
  unfold negP
  by_cases h : 0 < n
  · simp [h]
  · have : n = 0 := by omega
    subst this
    exact quo_zero_any _ _ _
theorem sumP_quo {a b : Nat} (ha : a ≠ 0) (hb : b ≠ 0) (s t : Bool) (m n : Nat) : quo (sumP s m a t n b).1 (sumP s m a t n b).2 (a * b) = quo s m a + quo t n b := by
  unfold sumP
  by_cases h : (s == t) = true
  · have : s = t := by simpa using h
    subst this
    rw [if_pos h, qadd_same ha hb]
  · have : t = !s := by revert h; cases s <;> cases t <;> simp
    subst this
    rw [if_neg h]
    by_cases g : m * b < n * a
    · rw [if_pos g, qadd_right ha hb _ _ _ (by omega)]
    · rw [if_neg g, qadd_left ha hb _ _ _ (by omega)]
theorem ordP_qcmp {a b : Nat} (ha : a ≠ 0) (hb : b ≠ 0) (s t : Bool) (m n : Nat) : ordP (sumP s m a (negP t true n) n b) = qcmp (quo s m a) (quo t n b) := by
  have h := sumP_quo ha hb s (negP t true n) m n
  rw [quo_negP, show (t != true) = !t by cases t <;> rfl, ← qneg_quo, ← Rat.sub_eq_add_neg] at h
  rw [qcmp_diff (Nat.mul_ne_zero ha hb) h.symm]
  rfl
theorem qcmp_pos (x y : Rat) : 0 < qcmp x y ↔ y < x := by
  unfold qcmp
  by_cases h : x < y
  · rw [if_pos h]
    constructor
    · intro h; omega
    · intro g; exact absurd g (by grind)
  · rw [if_neg h]
    by_cases g : y < x
    · rw [if_pos g]; exact ⟨fun _ => g, fun _ => by omega⟩
    · rw [if_neg g]; exact ⟨fun h => by omega, fun h => absurd h g⟩

theorem near_sides_s (s : Bool) {most N D p1 q1 p2 q2 : Nat} (hD : 0 < D) (h : Near2 most N D p1 q1 p2 q2) :
    (quo s p1 q1 ≤ quo s N D ∧ quo s N D ≤ quo s p2 q2 ∧ ∀ z : Rat, z.den ≤ most → z ≤ quo s p1 q1 ∨ quo s p2 q2 ≤ z) ∨
    (quo s p2 q2 ≤ quo s N D ∧ quo s N D ≤ quo s p1 q1 ∧ ∀ z : Rat, z.den ≤ most → z ≤ quo s p2 q2 ∨ quo s p1 q1 ≤ z) := by
  cases s
  · exact near_sides hD h
  · have e : ∀ p q : Nat, quo true p q = -quo false p q := fun p q => (qneg_quo false p q).symm
    rw [e, e, e]
    rcases near_sides hD h with ⟨h1, h2, h3⟩ | ⟨h1, h2, h3⟩
    · right
      refine ⟨by grind, by grind, fun z hz => ?_⟩
      rcases h3 (-z) hz with g | g
      · right; grind
      · left; grind
    · left
      refine ⟨by grind, by grind, fun z hz => ?_⟩
      rcases h3 (-z) hz with g | g
      · right; grind
      · left; grind

/-- nearP's answer, as a number. -/
theorem nearP_num (s : Bool) (m n P1 Q1 P2 Q2 : Nat) (hn : n ≠ 0) (h1 : Q1 ≠ 0) (h2 : Q2 ≠ 0) :
    nearP s m n P1 Q1 P2 Q2 = if quo s P2 Q2 < quo s P1 Q1 then (if quo s P2 Q2 + quo s P1 Q1 < quo s m n + quo s m n then (negP false s P1, P1, Q1) else (negP false s P2, P2, Q2))
      else (if quo s P1 Q1 + quo s P2 Q2 < quo s m n + quo s m n then (negP false s P2, P2, Q2) else (negP false s P1, P1, Q1)) := by
  have e : ∀ p q : Nat, quo (negP false s p) p q = quo s p q := fun p q => by rw [quo_negP]; cases s <;> rfl
  unfold nearP
  rw [ordP_qcmp h1 h2, ordP_qcmp (Nat.mul_ne_zero hn hn) (Nat.mul_ne_zero h2 h1), ordP_qcmp (Nat.mul_ne_zero hn hn) (Nat.mul_ne_zero h1 h2), sumP_quo hn hn, sumP_quo h1 h2, sumP_quo h2 h1, e, e]
  simp only [qcmp_pos]

/-- nearP's answer is in lowest terms and the nearest one. -/
theorem nearP_near (s : Bool) {most m n P1 Q1 P2 Q2 : Nat} (hn : 0 < n) (h : Near2 most m n P1 Q1 P2 Q2) :
    ∃ y : Rat, IsNear (quo s m n) most y ∧ nearP s m n P1 Q1 P2 Q2 = (qneg y, y.num.natAbs, y.den) := by
  have h1 := h.pos1
  have h2 := h.pos2
  obtain ⟨g1, g2⟩ := h.low
  have low : ∀ p q : Nat, 0 < q → Nat.gcd p q = 1 → (quo s p q).den = q ∧ (negP false s p, p, q) = (qneg (quo s p q), (quo s p q).num.natAbs, (quo s p q).den) := by
    intro p q hq hg
    obtain ⟨e1, e2⟩ := quo_low (by omega) hg s
    refine ⟨e2, ?_⟩
    have e3 : qneg (quo s p q) = (s && decide (0 < p)) := by
      have := quo_neg (d := q) (by omega) s p
      rw [hg, Nat.div_one] at this
      exact this
    rw [e2, e1, sgn_abs, e3]
    unfold negP
    cases s <;> rfl
  obtain ⟨d1, l1⟩ := low P1 Q1 h1 g1
  obtain ⟨d2, l2⟩ := low P2 Q2 h2 g2
  have m1 : (quo s P1 Q1).den ≤ most := by rw [d1]; exact h.le1
  have m2 : (quo s P2 Q2).den ≤ most := by rw [d2]; exact h.le2
  rw [nearP_num s m n P1 Q1 P2 Q2 (by omega) (by omega) (by omega), l1, l2]
  have hs := near_sides_s s hn h
  generalize quo s P1 Q1 = L at *
  generalize quo s P2 Q2 = H at *
  generalize quo s m n = x at *
  by_cases hlt : H < L
  · rw [if_pos hlt]
    have hs' : H ≤ x ∧ x ≤ L ∧ ∀ z : Rat, z.den ≤ most → z ≤ H ∨ L ≤ z := by
      rcases hs with ⟨a, b, c⟩ | hs
      · exact absurd (Rat.le_trans a b) (by grind)
      · exact hs
    have hp := near_pick hs'.1 hs'.2.1 m2 m1 hs'.2.2
    by_cases hc : H + L < x + x
    · rw [if_pos hc] at hp ⊢
      exact ⟨L, hp, rfl⟩
    · rw [if_neg hc] at hp ⊢
      exact ⟨H, hp, rfl⟩
  · rw [if_neg hlt]
    have hs' : L ≤ x ∧ x ≤ H ∧ ∀ z : Rat, z.den ≤ most → z ≤ L ∨ H ≤ z := by
      rcases hs with hs | ⟨a, b, c⟩
      · exact hs
      · have hle := Rat.le_trans a b
        have : L = H := by grind
        subst this
        exact ⟨a, b, c⟩
    have hp := near_pick hs'.1 hs'.2.1 m1 m2 hs'.2.2
    by_cases hc : L + H < x + x
    · rw [if_pos hc] at hp ⊢
      exact ⟨H, hp, rfl⟩
    · rw [if_neg hc] at hp ⊢
      exact ⟨L, hp, rfl⟩

/-- Nearest of a valid fraction answers the nearest number, in lowest terms. -/
theorem c_NearestQ (s : Bool) (m n den : Nat) (hd1 : 1 ≤ den) (hd2 : den ≤ 1000) (hv : validB s (nat m) (nat n) = true) :
    ∃ y : Rat, IsNear (quo s m n) den y ∧ ∀ (x : Value) (w : World), Tz w → Fr w x s m n →
      Calls Tryz.prog 40 #[x, .int .i64 den] w (ResPost (some (qneg y, y.num.natAbs, y.den)) 0 w) := by
  obtain ⟨-, -, hn, hg⟩ := valid_facts hv
  obtain ⟨-, -, -, hf⟩ := arS_facts hd1 hn hg
  obtain ⟨y, hy, he⟩ := nearP_near s hn hf
  refine ⟨y, hy, fun x w ht hx => ?_⟩
  rw [← he]
  exact c_NearestJ s m n den hd1 hd2 x w ht hx hv

/-- A reduced answer is the common form of the number. -/
theorem redP_low (s : Bool) (n : Nat) {d : Nat} (hd : d ≠ 0) : redP s n d = lowR (quo s n d) := by
  unfold redP lowR
  rw [quo_abs hd, quo_den hd, show qneg (quo s n d) = (s && decide (0 < n / Nat.gcd n d)) from quo_neg hd s n]

end Go.Proofs.YtfdkdloldjfnjaaGreatDoor

/- DERIVED. Plain: what is printed is read back, and what is read is what is printed. -/
namespace Go.Proofs.YtfdkdloldjfnjaaGreatDoor
open Go.RowKit Go.Shelf

theorem index_slash : ∀ (a b : List UInt8), (∀ c ∈ a, c ≠ 47) → Lib.index (a ++ 47 :: b) [47] = (a.length : Int)
  | [], b, _ => by
    rw [List.nil_append]
    unfold Lib.index
    rw [if_pos (by simp)]
    rfl
  | c :: a, b, h => by
    have hc : c ≠ 47 := h c (by simp)
    have ih := index_slash a b (fun x hx => h x (by simp [hx]))
    rw [List.cons_append]
    unfold Lib.index
    rw [if_neg (by simpa using fun e => hc e.symm), ih]
    rw [if_neg (by simp)]
    simp
theorem cut_slash (a b : List UInt8) (h : ∀ c ∈ a, c ≠ 47) : Lib.cut (a ++ 47 :: b) [47] = (a, b, true) := by
  unfold Lib.cut
  rw [index_slash a b h, if_pos (by omega)]
  simp
theorem cut_true {l a b : List UInt8} (h : Lib.cut l [47] = (a, b, true)) : l = a ++ 47 :: b := by
  unfold Lib.cut at h
  rcases Lib.index_spec l [47] with ⟨h1, -⟩ | ⟨i, h1, h2, h3, -⟩
  · rw [h1, if_neg (by omega)] at h; simp at h
  · rw [h1, if_pos (by omega)] at h
    simp only [Prod.mk.injEq, and_true, Int.toNat_natCast] at h
    obtain ⟨rfl, rfl⟩ := h
    unfold Lib.occAt at h3
    cases e : l.drop i with
    | nil => rw [e] at h3; simp at h3
    | cons c r =>
      rw [e] at h3
      simp at h3
      subst h3
      have hr : l.drop (i + 1) = r := by rw [← List.drop_drop, e]; rfl
      show l = l.take i ++ 47 :: l.drop (i + 1)
      rw [hr, ← e, List.take_append_drop]
theorem cut_false {l a b : List UInt8} (h : Lib.cut l [47] = (a, b, false)) : b = [] := by
  unfold Lib.cut at h
  split at h
  · simp at h
  · simp at h; exact h.2

theorem isDg_nat {c : UInt8} (h : isDg c = true) : 48 ≤ c.toNat ∧ c.toNat ≤ 57 := by
  unfold isDg at h
  simpa using h
theorem isDg_of (r : Nat) (h : r < 10) : isDg (UInt8.ofNat (48 + r)) = true ∧ (UInt8.ofNat (48 + r)).toNat - 48 = r := by
  have : r = 0 ∨ r = 1 ∨ r = 2 ∨ r = 3 ∨ r = 4 ∨ r = 5 ∨ r = 6 ∨ r = 7 ∨ r = 8 ∨ r = 9 := by omega
  rcases this with h | h | h | h | h | h | h | h | h | h <;> subst h <;> decide
theorem dec_big {n : Nat} (h : ¬ n < 10) : Lib.decDigits n = Lib.decDigits (n / 10) ++ [UInt8.ofNat (48 + n % 10)] := by
  conv => lhs; rw [Lib.decDigits]
  rw [dif_neg h]
theorem dec_all (n : Nat) : ∀ c ∈ Lib.decDigits n, isDg c = true := by
  induction n using Nat.strongRecOn with
  | _ n ih =>
    intro c hc
    by_cases h : n < 10
    · rw [Lib.decDigits_one h] at hc
      rw [List.mem_singleton.1 hc]
      exact (isDg_of n h).1
    · rw [dec_big h] at hc
      rcases List.mem_append.1 hc with hc | hc
      · exact ih (n / 10) (by omega) c hc
      · rw [List.mem_singleton.1 hc]
        exact (isDg_of _ (Nat.mod_lt _ (by decide))).1
theorem nvl_dec (n : Nat) : nvl (Lib.decDigits n) = n := by
  induction n using Nat.strongRecOn with
  | _ n ih =>
    by_cases h : n < 10
    · rw [Lib.decDigits_one h]
      have := (isDg_of n h).2
      simp only [nvl, List.foldl_cons, List.foldl_nil, this]
      omega
    · rw [dec_big h, nvl_snoc, ih (n / 10) (by omega), (isDg_of _ (Nat.mod_lt _ (by decide))).2]
      omega
theorem dec_ne (n : Nat) : Lib.decDigits n ≠ [] := by
  by_cases h : n < 10
  · rw [Lib.decDigits_one h]; simp
  · rw [dec_big h]; simp
theorem head_app {a b : List UInt8} (h : a ≠ []) : (a ++ b).head? = a.head? := by
  cases a with
  | nil => exact absurd rfl h
  | cons c a => rfl
theorem dec_head (n : Nat) (h0 : 0 < n) : (Lib.decDigits n).head? ≠ some 48 := by
  induction n using Nat.strongRecOn with
  | _ n ih =>
    by_cases h : n < 10
    · rw [Lib.decDigits_one h]
      have : n = 1 ∨ n = 2 ∨ n = 3 ∨ n = 4 ∨ n = 5 ∨ n = 6 ∨ n = 7 ∨ n = 8 ∨ n = 9 := by omega
      rcases this with h | h | h | h | h | h | h | h | h <;> subst h <;> decide
    · rw [dec_big h, head_app (dec_ne _)]
      exact ih (n / 10) (by omega) (by omega)
theorem dec_length : ∀ (k n : Nat), n < 10 ^ (k + 1) → (Lib.decDigits n).length ≤ k + 1
  | 0, n, h => by
    rw [Lib.decDigits_one (by omega)]; simp
  | k + 1, n, h => by
    by_cases h1 : n < 10
    · rw [Lib.decDigits_one h1]; simp
    · rw [dec_big h1, List.length_append]
      have e : 10 ^ (k + 1 + 1) = 10 ^ (k + 1) * 10 := Nat.pow_succ _ _
      have := dec_length k (n / 10) (by rw [Nat.div_lt_iff_lt_mul (by decide)]; omega)
      simp only [List.length_singleton]
      omega
theorem numOk_dec {n : Nat} (h : n < 10 ^ (308 + 1)) : numOk (Lib.decDigits n) = true := by
  have h1 := dec_length 308 n h
  unfold numOk
  simp only [Bool.and_eq_true, Bool.not_eq_true', Bool.or_eq_false_iff, decide_eq_false_iff_not, List.all_eq_true, Bool.and_eq_false_iff]
  refine ⟨⟨by simpa using dec_ne n, by omega, ?_⟩, dec_all n⟩
  by_cases h0 : 0 < n
  · right
    simpa using dec_head n h0
  · left
    have : n = 0 := by omega
    subst this
    rw [Lib.decDigits_one (by omega)]
    simp
theorem dg_ofNat {c : UInt8} (h : isDg c = true) : UInt8.ofNat (48 + (c.toNat - 48)) = c := by
  have := isDg_nat h
  have e : 48 + (c.toNat - 48) = c.toNat := by omega
  rw [e]
  exact UInt8.ofNat_toNat
theorem dec_nvl_n : ∀ (n : Nat) (l : List UInt8), l.length = n + 1 → (∀ c ∈ l, isDg c = true) → l.head? ≠ some 48 → 1 ≤ nvl l ∧ Lib.decDigits (nvl l) = l := by
  intro n
  induction n with
  | zero =>
    intro l hl hd hh
    match l, hl with
    | [c], _ =>
      have h1 := isDg_nat (hd c (by simp))
      have h2 : c.toNat ≠ 48 := fun e => hh (by
        simp only [List.head?_cons, Option.some.injEq]
        exact UInt8.toNat_inj.1 e)
      have e : nvl [c] = c.toNat - 48 := by simp [nvl]
      rw [e]
      refine ⟨by omega, ?_⟩
      rw [Lib.decDigits_one (by omega), dg_ofNat (hd c (by simp))]
  | succ n ih =>
    intro l hl hd hh
    obtain ⟨l', c, rfl⟩ : ∃ l' c, l = l' ++ [c] := ⟨l.dropLast, l.getLast (by intro e; simp [e] at hl), (List.dropLast_concat_getLast _).symm⟩
    have hl' : l'.length = n + 1 := by simpa using hl
    have hh' : l'.head? ≠ some 48 := by
      match l', hl' with
      | a :: l'', _ => simpa using hh
    obtain ⟨h1, h3⟩ := ih l' hl' (fun x hx => hd x (by simp [hx])) hh'
    have h4 := isDg_nat (hd c (by simp))
    rw [nvl_snoc]
    refine ⟨by omega, ?_⟩
    rw [dec_big (by omega)]
    have e1 : (nvl l' * 10 + (c.toNat - 48)) / 10 = nvl l' := by omega
    have e2 : (nvl l' * 10 + (c.toNat - 48)) % 10 = c.toNat - 48 := by omega
    rw [e1, e2, h3, dg_ofNat (hd c (by simp))]
theorem dec_nvl {l : List UInt8} (h : numOk l = true) : Lib.decDigits (nvl l) = l := by
  unfold numOk at h
  simp only [Bool.and_eq_true, Bool.not_eq_true', Bool.or_eq_false_iff, decide_eq_false_iff_not, List.all_eq_true, Bool.and_eq_false_iff] at h
  obtain ⟨⟨h1, -, h2⟩, h3⟩ := h
  match l, h1, h2, h3 with
  | [c], _, _, h3 =>
    have hc := isDg_nat (h3 c (by simp))
    have e : nvl [c] = c.toNat - 48 := by simp [nvl]
    rw [e, Lib.decDigits_one (by omega), dg_ofNat (h3 c (by simp))]
  | c :: d :: l, _, h2, h3 =>
    refine (dec_nvl_n (l.length + 1) (c :: d :: l) (by simp) h3 ?_).2
    rcases h2 with h2 | h2
    · exact absurd (by simp) h2
    · simpa using h2
theorem lim_pow {m : Nat} (h : (nat m).length ≤ 32) : m < 10 ^ (308 + 1) := Nat.lt_of_lt_of_le (nat_len_le.1 h) (by decide +kernel)
theorem dec_slash (n : Nat) : ∀ c ∈ Lib.decDigits n, c ≠ 47 := by
  intro c hc e
  have := isDg_nat (dec_all n c hc)
  subst e
  have : (47 : UInt8).toNat = 47 := rfl
  omega
theorem cutDash_txt (s : Bool) (m n : Nat) : cutDash (txt s m n) = (Lib.decDigits m ++ 47 :: Lib.decDigits n, s) := by
  unfold cutDash txt
  cases s
  · rw [if_neg]
    · simp
    · simp only [Bool.false_eq_true, if_false, List.nil_append]
      rw [head_app (dec_ne _)]
      intro h
      have := isDg_nat (dec_all m 45 (List.mem_of_mem_head? h))
      have : (45 : UInt8).toNat = 45 := rfl
      omega
  · rw [if_pos (by simp)]
    simp
/-- What is printed is read back. -/
theorem read_txt {s : Bool} {m n : Nat} (hv : validB s (nat m) (nat n) = true) : readP (txt s m n) = some (s, m, n) := by
  obtain ⟨l1, l2, -, -⟩ := valid_facts hv
  unfold readP
  simp only [cutDash_txt, cut_slash _ _ (dec_slash m), numOk_dec (lim_pow l1), numOk_dec (lim_pow l2), nvl_dec, hv, Bool.and_self, if_true]
/-- What is read is what is printed. -/
theorem txt_read {l : List UInt8} {s : Bool} {m n : Nat} (h : readP l = some (s, m, n)) : txt s m n = l ∧ validB s (nat m) (nat n) = true := by
  unfold readP at h
  obtain ⟨d, neg, hd⟩ : ∃ d neg, cutDash l = (d, neg) := ⟨_, _, rfl⟩
  obtain ⟨a, b, f, hc⟩ : ∃ a b f, Lib.cut d [47] = (a, b, f) := ⟨_, _, _, rfl⟩
  simp only [hd, hc] at h
  split at h
  · rename_i hv
    simp only [Bool.and_eq_true] at hv
    simp only [Option.some.injEq, Prod.mk.injEq] at h
    obtain ⟨rfl, rfl, rfl⟩ := h
    refine ⟨?_, hv.2.2⟩
    cases f with
    | false =>
      have := cut_false hc
      subst this
      exact absurd hv.2.1 (by decide)
    | true =>
      have e := cut_true hc
      unfold txt
      rw [dec_nvl hv.1, dec_nvl hv.2.1, ← e]
      unfold cutDash at hd
      split at hd
      · rename_i h45
        simp only [Prod.mk.injEq] at hd
        obtain ⟨rfl, rfl⟩ := hd
        match l, h45 with
        | c :: l, h45 =>
          simp at h45
          subst h45
          simp
      · simp only [Prod.mk.injEq] at hd
        obtain ⟨rfl, rfl⟩ := hd
        simp
  · cases h
end Go.Proofs.YtfdkdloldjfnjaaGreatDoor

/- DERIVED. Plain: how great the parts of sums and products get; numbers of at most 32 limbs. -/
namespace Go.Proofs.YtfdkdloldjfnjaaGreatDoor
open Go.RowKit Go.Shelf

/-- A number that some fraction with parts so small stands for. -/
def Bd (q : Rat) (N D : Nat) : Prop := ∃ s n d, q = quo s n d ∧ 0 < d ∧ n ≤ N ∧ d ≤ D
theorem Bd.quo {s : Bool} {n d : Nat} (hd : 0 < d) : Bd (quo s n d) n d := ⟨s, n, d, rfl, hd, Nat.le_refl _, Nat.le_refl _⟩
theorem Bd.mono {q : Rat} {N D N' D' : Nat} (h : Bd q N D) (hN : N ≤ N') (hD : D ≤ D') : Bd q N' D' := by
  obtain ⟨s, n, d, h1, h2, h3, h4⟩ := h
  exact ⟨s, n, d, h1, h2, Nat.le_trans h3 hN, Nat.le_trans h4 hD⟩
theorem sumP_le (s : Bool) (m a : Nat) (t : Bool) (n b : Nat) : (sumP s m a t n b).2 ≤ m * b + n * a := by
  unfold sumP
  split
  · exact Nat.le_refl _
  · split <;> simp <;> omega
theorem Bd.add {p q : Rat} {N D M E : Nat} (h : Bd p N D) (k : Bd q M E) : Bd (p + q) (N * E + M * D) (D * E) := by
  obtain ⟨s, m, a, rfl, h2, h3, h4⟩ := h
  obtain ⟨t, n, b, rfl, k2, k3, k4⟩ := k
  refine ⟨(sumP s m a t n b).1, (sumP s m a t n b).2, a * b, (sumP_quo (by omega) (by omega) _ _ _ _).symm, Nat.mul_pos h2 k2, ?_, Nat.mul_le_mul h4 k4⟩
  exact Nat.le_trans (sumP_le _ _ _ _ _ _) (Nat.add_le_add (Nat.mul_le_mul h3 k4) (Nat.mul_le_mul k3 h4))
theorem Bd.neg {p : Rat} {N D : Nat} (h : Bd p N D) : Bd (-p) N D := by
  obtain ⟨s, m, a, rfl, h2, h3, h4⟩ := h
  exact ⟨!s, m, a, qneg_quo _ _ _, h2, h3, h4⟩
theorem Bd.sub {p q : Rat} {N D M E : Nat} (h : Bd p N D) (k : Bd q M E) : Bd (p - q) (N * E + M * D) (D * E) := by
  rw [Rat.sub_eq_add_neg]
  exact h.add k.neg
theorem Bd.mul {p q : Rat} {N D M E : Nat} (h : Bd p N D) (k : Bd q M E) : Bd (p * q) (N * M) (D * E) := by
  obtain ⟨s, m, a, rfl, h2, h3, h4⟩ := h
  obtain ⟨t, n, b, rfl, k2, k3, k4⟩ := k
  exact ⟨_, _, _, qmul _ _ _ _ _ _, Nat.mul_pos h2 k2, Nat.mul_le_mul h3 k3, Nat.mul_le_mul h4 k4⟩
theorem Bd.div {p q : Rat} {N D M E : Nat} (h : Bd p N D) (k : Bd q M E) (hq : q ≠ 0) : Bd (p / q) (N * E) (D * M) := by
  obtain ⟨s, m, a, rfl, h2, h3, h4⟩ := h
  obtain ⟨t, n, b, rfl, k2, k3, k4⟩ := k
  have hn : 0 < n := by
    rcases Nat.eq_zero_or_pos n with h0 | h0
    · exact absurd ((quo_eq_zero (by omega) _ _).2 h0) hq
    · exact h0
  exact ⟨_, _, _, qdiv _ _ _, Nat.mul_pos h2 hn, Nat.mul_le_mul h3 k4, Nat.mul_le_mul h4 k3⟩
theorem Bd.parts {q : Rat} {N D : Nat} (h : Bd q N D) : q.num.natAbs ≤ N ∧ q.den ≤ D := by
  obtain ⟨s, n, d, rfl, h2, h3, h4⟩ := h
  rw [quo_abs (by omega), quo_den (by omega)]
  exact ⟨Nat.le_trans (Nat.div_le_self _ _) h3, Nat.le_trans (Nat.div_le_self _ _) h4⟩
theorem Bd.sm {q : Rat} {N D : Nat} (h : Bd q N D) (hN : N < BB ^ 32) (hD : D < BB ^ 32) : Sm q := by
  obtain ⟨h1, h2⟩ := h.parts
  exact ⟨nat_len_le.2 (by omega), nat_len_le.2 (by omega)⟩
theorem sm_quo {s : Bool} {n d : Nat} (hd : 0 < d) (hn : n < BB ^ 32) (hd' : d < BB ^ 32) : Sm (quo s n d) := (Bd.quo hd).sm hn hd'

theorem vn_nat {n : Nat} (h : (nat n).length ≤ 32) : vnB (nat n) = true := by
  unfold vnB
  rw [val_nat]
  simpa using h
/-- What a number of 32 limbs is as a fraction: valid. -/
theorem valid_low {q : Rat} (h : Sm q) : validB (qneg q) (nat q.num.natAbs) (nat q.den) = true := by
  obtain ⟨g, hd, hs⟩ := rat_low q
  unfold validB
  rw [vn_nat h.1, vn_nat h.2, val_nat, val_nat]
  have h1 : 0 < (nat q.den).length := nat_len_pos.2 (by omega)
  simp only [Bool.true_and, Bool.and_eq_true, decide_eq_true_eq, Bool.or_eq_true, Bool.not_eq_true']
  refine ⟨h1, g, ?_⟩
  rcases Nat.eq_zero_or_pos q.num.natAbs with h0 | h0
  · exact .inr (hs h0)
  · exact .inl (nat_len_pos.2 h0)
/-- A valid fraction is that of a number. -/
theorem valid_rat {s : Bool} {m n : Nat} (hv : validB s (nat m) (nat n) = true) : s = qneg (quo s m n) ∧ m = (quo s m n).num.natAbs ∧ n = (quo s m n).den ∧ Sm (quo s m n) := by
  obtain ⟨l1, l2, hn, hg⟩ := valid_facts hv
  have hs : m = 0 → s = false := by
    intro h0
    subst h0
    unfold validB at hv
    rw [nat_zero] at hv
    simp at hv
    exact hv.2.2.2.2
  obtain ⟨e1, e2, e3⟩ := low_of_gcd (by omega) hg s hs
  refine ⟨e1.symm, e2.symm, e3.symm, ?_⟩
  unfold Sm
  rw [e2, e3]
  exact ⟨l1, l2⟩
end Go.Proofs.YtfdkdloldjfnjaaGreatDoor

/- DERIVED. The four operations and Cmp at valid fractions, as operations of core's Rat. -/
namespace Go.Proofs.YtfdkdloldjfnjaaGreatDoor
open Go.RowKit Go.Shelf

theorem sumP_small (s : Bool) (m a : Nat) (t : Bool) (n b : Nat) (h1 : (nat m).length ≤ 32) (h2 : (nat a).length ≤ 32) (h3 : (nat n).length ≤ 32) (h4 : (nat b).length ≤ 32) : (nat (sumP s m a t n b).2).length ≤ 100000 := by
  have := sumP_len s m a t n b 64 (by omega) (by omega)
  omega
theorem prod_small (m n : Nat) (h1 : (nat m).length ≤ 32) (h2 : (nat n).length ≤ 32) : (nat (m * n)).length ≤ 100000 := by
  have := mul_len m n
  omega

theorem c_AddQ (s t : Bool) (m a n b : Nat) (x y : Value) (w : World) (ht : Tz w) (hx : Fr w x s m a) (hy : Fr w y t n b) (hv : validB s (nat m) (nat a) = true) (hu : validB t (nat n) (nat b) = true) :
    Calls Tryz.prog 24 #[x, y] w (ResPost (lowR (quo s m a + quo t n b)) 3 w) := by
  obtain ⟨l1, l2, pa, -⟩ := valid_facts hv
  obtain ⟨l3, l4, pb, -⟩ := valid_facts hu
  refine c_Add s t _ _ _ _ x y w ht (hx.to0 (by omega) (by omega)) (hy.to0 (by omega) (by omega)) (sumP s m a t n b).1 (sumP s m a t n b).2 (a * b) (Nat.mul_pos pa pb) (sumP_small s m a t n b l1 l2 l3 l4) (prod_small a b l2 l4) true true hv hu
    (fun _ _ X hX => c_sum s t m n a b (by omega) (by omega) (by omega) (by omega) x y X (hx.on hX) (hy.on hX)) _ _ (fun _ _ => ⟨?_, rfl⟩) (fun h => by cases h)
  rw [redP_low _ _ (Nat.mul_ne_zero (by omega) (by omega)), sumP_quo (by omega) (by omega)]

theorem c_SubQ (s t : Bool) (m a n b : Nat) (x y : Value) (w : World) (ht : Tz w) (hx : Fr w x s m a) (hy : Fr w y t n b) (hv : validB s (nat m) (nat a) = true) (hu : validB t (nat n) (nat b) = true) :
    Calls Tryz.prog 25 #[x, y] w (ResPost (lowR (quo s m a - quo t n b)) 3 w) := by
  obtain ⟨l1, l2, pa, -⟩ := valid_facts hv
  obtain ⟨l3, l4, pb, -⟩ := valid_facts hu
  refine c_Sub s t _ _ _ _ x y w ht (hx.to0 (by omega) (by omega)) (hy.to0 (by omega) (by omega)) (sumP s m a (negP t true n) n b).1 (sumP s m a (negP t true n) n b).2 (a * b) (Nat.mul_pos pa pb) (sumP_small s m a (negP t true n) n b l1 l2 l3 l4) (prod_small a b l2 l4) true true hv hu
    (fun _ _ X hX => c_difference s t m n a b (by omega) (by omega) (by omega) (by omega) x y X (hx.on hX) (hy.on hX)) _ _ (fun _ _ => ⟨?_, rfl⟩) (fun h => by cases h)
  rw [redP_low _ _ (Nat.mul_ne_zero (by omega) (by omega)), sumP_quo (by omega) (by omega), quo_negP, show (t != true) = !t by cases t <;> rfl, ← qneg_quo, ← Rat.sub_eq_add_neg]

theorem c_MulQ (s t : Bool) (m a n b : Nat) (x y : Value) (w : World) (ht : Tz w) (hx : Fr w x s m a) (hy : Fr w y t n b) (hv : validB s (nat m) (nat a) = true) (hu : validB t (nat n) (nat b) = true) :
    Calls Tryz.prog 26 #[x, y] w (ResPost (lowR (quo s m a * quo t n b)) 3 w) := by
  obtain ⟨l1, l2, pa, -⟩ := valid_facts hv
  obtain ⟨l3, l4, pb, -⟩ := valid_facts hu
  refine c_Mul s t _ _ _ _ x y w ht (hx.to0 (by omega) (by omega)) (hy.to0 (by omega) (by omega)) (s != t) (m * n) (a * b) (Nat.mul_pos pa pb) (prod_small m n l1 l3) (prod_small a b l2 l4) true true hv hu
    (fun _ _ X hX => c_product s t m n a b (by omega) (by omega) (by omega) (by omega) x y X (hx.on hX) (hy.on hX)) _ _ (fun _ _ => ⟨?_, rfl⟩) (fun h => by cases h)
  rw [redP_low _ _ (Nat.mul_ne_zero (by omega) (by omega)), qmul]

theorem c_DivQ (s t : Bool) (m a n b : Nat) (x y : Value) (w : World) (ht : Tz w) (hx : Fr w x s m a) (hy : Fr w y t n b) (hv : validB s (nat m) (nat a) = true) (hu : validB t (nat n) (nat b) = true) (hn : 0 < n) :
    Calls Tryz.prog 27 #[x, y] w (ResPost (lowR (quo s m a / quo t n b)) 3 w) := by
  obtain ⟨l1, l2, pa, -⟩ := valid_facts hv
  obtain ⟨l3, l4, pb, -⟩ := valid_facts hu
  have hl : (nat n).length ≠ 0 := by have := nat_len_pos.2 hn; omega
  refine c_Div s t _ _ _ _ x y w ht (hx.to0 (by omega) (by omega)) (hy.to0 (by omega) (by omega)) (s != t) (m * b) (a * n) (fun _ => Nat.mul_pos pa hn) (prod_small m b l1 l4) (prod_small a n l2 l3) true true hv hu
    (fun _ _ _ X hX => c_quotient s t m n a b (by omega) (by omega) (by omega) (by omega) x y X (hx.on hX) (hy.on hX)) _ _ (fun _ _ _ => ⟨?_, rfl⟩) (fun _ _ h => absurd h hl) (fun h => by cases h)
  rw [redP_low _ _ (Nat.mul_ne_zero (by omega) (by omega)), qdiv]

theorem c_DivQ0 (s t : Bool) (m a b : Nat) (x y : Value) (w : World) (ht : Tz w) (hx : Fr w x s m a) (hy : Fr w y t 0 b) (hv : validB s (nat m) (nat a) = true) (hu : validB t (nat 0) (nat b) = true) :
    Calls Tryz.prog 27 #[x, y] w (ResPost none 2 w) := by
  obtain ⟨l1, l2, pa, -⟩ := valid_facts hv
  obtain ⟨l3, l4, pb, -⟩ := valid_facts hu
  have hl : (nat 0).length = 0 := by have := nat_len_pos (n := 0); omega
  exact c_Div s t _ _ _ _ x y w ht (hx.to0 (by omega) (by omega)) (hy.to0 (by omega) (by omega)) false 0 1 (fun h => absurd hl h) (by omega) (by have := nat_len_le (n := 1) (k := 1); unfold BB at this; omega) true true hv hu
    (fun _ _ h => absurd hl h) _ _ (fun _ _ h => absurd hl h) (fun _ _ _ => ⟨rfl, rfl⟩) (fun h => by cases h)

theorem c_CmpQ (s t : Bool) (m a n b : Nat) (x y : Value) (w : World) (ht : Tz w) (hx : Fr w x s m a) (hy : Fr w y t n b) (hv : validB s (nat m) (nat a) = true) (hu : validB t (nat n) (nat b) = true) :
    Calls Tryz.prog 32 #[x, y] w fun e w' => e = .returned (.tuple #[.int .i64 (qcmp (quo s m a) (quo t n b)), .int .i64 0]) ∧ Below w.heap.size w w' := by
  obtain ⟨l1, l2, pa, -⟩ := valid_facts hv
  obtain ⟨l3, l4, pb, -⟩ := valid_facts hu
  have e := ordP_qcmp (a := a) (b := b) (by omega) (by omega) s t m n
  refine c_Cmp s t _ _ _ _ x y w ht (hx.to0 (by omega) (by omega)) (hy.to0 (by omega) (by omega)) true true hv hu _
    (fun _ _ X hX => c_order s t m n a b (by omega) (by omega) (by omega) (by omega) x y X (hx.on hX) (hy.on hX)) _ _ (fun _ _ => ⟨e.symm, rfl⟩) (fun h => by cases h)

end Go.Proofs.YtfdkdloldjfnjaaGreatDoor

/- DERIVED. The package's functions at valid fractions, as functions of numbers. -/
namespace Go.Proofs.YtfdkdloldjfnjaaGreatDoor
open Go.RowKit Go.Shelf
set_option maxRecDepth 100000

/-- What the functions read of the package's variables. -/
def Env (w : World) : Prop := Tz w ∧ Tab w ∧ Ml w
theorem Tz.onB {w w' : World} (h : Tz w) (hb : Below w.heap.size w w') : Tz w' := h.heap (hb.block _ h.lt)
theorem Env.on {w w' : World} (h : Env w) (hb : Below w.heap.size w w') : Env w' := ⟨h.1.onB hb, h.2.1.on hb, h.2.2.on hb⟩
/-- The value is the fraction of a number of at most 32 limbs each. -/
def Rv (w : World) (v : Value) (q : Rat) : Prop := Fr w v (qneg q) q.num.natAbs q.den ∧ Sm q
theorem Rv.on {w w' : World} {v : Value} {q : Rat} (h : Rv w v q) (hb : Below w.heap.size w w') : Rv w' v q := ⟨h.1.on hb, h.2⟩
theorem Rv.valid {w : World} {v : Value} {q : Rat} (h : Rv w v q) : validB (qneg q) (nat q.num.natAbs) (nat q.den) = true := valid_low h.2
def RatPost (q : Rat) (w : World) (e : Ending) (w' : World) : Prop := ∃ v, e = .returned (.tuple #[v, .int .i64 0]) ∧ Rv w' v q ∧ Below w.heap.size w w'
theorem rat_of_res {q : Rat} (hq : Sm q) {z : Int} {w : World} {e : Ending} {w' : World} (h : ResPost (lowR q) z w e w') : RatPost q w e w' := by
  obtain ⟨v, y, rfl, hb, -, h⟩ := h
  rw [lowR_sm hq] at h
  obtain ⟨h1, h2⟩ := h _ _ _ rfl
  subst h2
  exact ⟨v, rfl, ⟨h1, hq⟩, hb⟩
theorem rat_of_some {q : Rat} (hq : Sm q) {s : Bool} {m n : Nat} (e1 : s = qneg q) (e2 : m = q.num.natAbs) (e3 : n = q.den) {z : Int} {w : World} {e : Ending} {w' : World} (h : ResPost (some (s, m, n)) z w e w') : RatPost q w e w' := by
  subst e1 e2 e3
  rw [← lowR_sm hq] at h
  exact rat_of_res hq h
theorem Rv.quo {w : World} {v : Value} {q : Rat} (h : Rv w v q) : Fr w v (qneg q) q.num.natAbs q.den ∧ quo (qneg q) q.num.natAbs q.den = q := ⟨h.1, quo_self q⟩

/-- The number of two ints. -/
def ofq (n d : Int) : Rat := quo (decide (n < 0) != decide (d < 0)) n.natAbs d.natAbs
theorem big_pow : 9223372036854775808 < BB ^ 32 := by decide +kernel
theorem ofq_sm {n d : Int} (h1 : -9223372036854775808 ≤ n) (h2 : n ≤ 9223372036854775807) (h3 : -9223372036854775808 ≤ d) (h4 : d ≤ 9223372036854775807) (h0 : d ≠ 0) : Sm (ofq n d) :=
  sm_quo (by omega) (Nat.lt_of_le_of_lt (by omega) big_pow) (Nat.lt_of_le_of_lt (by omega) big_pow)

theorem v_Of (n d : Int) (h1 : -9223372036854775808 ≤ n) (h2 : n ≤ 9223372036854775807) (h3 : -9223372036854775808 ≤ d) (h4 : d ≤ 9223372036854775807) (h0 : d ≠ 0) (w : World) (ht : Env w) :
    Calls Tryz.prog 13 #[.int .i64 n, .int .i64 d] w (RatPost (ofq n d) w) := by
  refine (c_Of n d h1 h2 h3 h4 w ht.1 (lowR (ofq n d)) 3 (fun h => absurd h h0) (fun _ => ⟨(redP_low _ _ (by omega)).symm, rfl⟩)).mono ?_
  intro e w' h
  exact rat_of_res (ofq_sm h1 h2 h3 h4 h0) h
theorem v_Valid {x : Value} {p : Rat} {w : World} (ht : Env w) (hx : Rv w x p) : Calls Tryz.prog 18 #[x] w fun e w' => e = .returned (.bool true) ∧ Below w.heap.size w w' := by
  obtain ⟨va, vb, rfl, h1, h2⟩ := hx.1
  exact c_Valid _ _ _ (lb_nat _) (lb_nat _) (by have := hx.2.1; omega) (by have := hx.2.2; omega) true hx.valid _ _ _ _ w ht.1 h1 h2
theorem v_Add {x y : Value} {p q : Rat} {w : World} (ht : Env w) (hx : Rv w x p) (hy : Rv w y q) (hs : Sm (p + q)) : Calls Tryz.prog 24 #[x, y] w (RatPost (p + q) w) := by
  have h := c_AddQ _ _ _ _ _ _ x y w ht.1 hx.1 hy.1 hx.valid hy.valid
  rw [quo_self, quo_self] at h
  exact h.mono fun e w' h => rat_of_res hs h
theorem v_Sub {x y : Value} {p q : Rat} {w : World} (ht : Env w) (hx : Rv w x p) (hy : Rv w y q) (hs : Sm (p - q)) : Calls Tryz.prog 25 #[x, y] w (RatPost (p - q) w) := by
  have h := c_SubQ _ _ _ _ _ _ x y w ht.1 hx.1 hy.1 hx.valid hy.valid
  rw [quo_self, quo_self] at h
  exact h.mono fun e w' h => rat_of_res hs h
theorem v_Mul {x y : Value} {p q : Rat} {w : World} (ht : Env w) (hx : Rv w x p) (hy : Rv w y q) (hs : Sm (p * q)) : Calls Tryz.prog 26 #[x, y] w (RatPost (p * q) w) := by
  have h := c_MulQ _ _ _ _ _ _ x y w ht.1 hx.1 hy.1 hx.valid hy.valid
  rw [quo_self, quo_self] at h
  exact h.mono fun e w' h => rat_of_res hs h
theorem num_pos {q : Rat} (h : q ≠ 0) : 0 < q.num.natAbs := by
  have : q.num ≠ 0 := fun e => h (Rat.num_eq_zero.1 e)
  omega
theorem v_Div {x y : Value} {p q : Rat} {w : World} (ht : Env w) (hx : Rv w x p) (hy : Rv w y q) (h0 : q ≠ 0) (hs : Sm (p / q)) : Calls Tryz.prog 27 #[x, y] w (RatPost (p / q) w) := by
  have h := c_DivQ _ _ _ _ _ _ x y w ht.1 hx.1 hy.1 hx.valid hy.valid (num_pos h0)
  rw [quo_self, quo_self] at h
  exact h.mono fun e w' h => rat_of_res hs h
theorem v_Div0 {x y : Value} {p : Rat} {w : World} (ht : Env w) (hx : Rv w x p) (hy : Rv w y 0) : Calls Tryz.prog 27 #[x, y] w fun e w' => e = .returned (.tuple #[zeroR, .int .i64 2]) ∧ Below w.heap.size w w' := by
  refine (c_DivQ0 (qneg p) (qneg 0) p.num.natAbs p.den (0 : Rat).den x y w ht.1 hx.1 hy.1 hx.valid hy.valid).mono ?_
  rintro e w' ⟨v, y, rfl, hb, h, -⟩
  obtain ⟨rfl, rfl⟩ := h rfl
  exact ⟨rfl, hb⟩
theorem v_Cmp {x y : Value} {p q : Rat} {w : World} (ht : Env w) (hx : Rv w x p) (hy : Rv w y q) : Calls Tryz.prog 32 #[x, y] w fun e w' => e = .returned (.tuple #[.int .i64 (qcmp p q), .int .i64 0]) ∧ Below w.heap.size w w' := by
  have h := c_CmpQ _ _ _ _ _ _ x y w ht.1 hx.1 hy.1 hx.valid hy.valid
  rw [quo_self, quo_self] at h
  exact h
/-- The text of a number. -/
def txq (q : Rat) : List UInt8 := txt (qneg q) q.num.natAbs q.den
theorem v_Text {x : Value} {p : Rat} {w : World} (ht : Env w) (hx : Rv w x p) : Calls Tryz.prog 20 #[x] w (StrPost (txq p) w) := by
  have hf := hx.1
  have hv := hx.valid
  unfold txq
  generalize qneg p = s at *
  cases s
  · exact c_TextP _ _ hx.2.1 hx.2.2 x w ht.1 ht.2.1 hf hv
  · exact c_TextM _ _ hx.2.1 hx.2.2 x w ht.1 ht.2.1 hf hv
theorem v_Read {q : Rat} (hq : Sm q) {w : World} (ht : Env w) (hl : (txq q).length < 4294967281) : Calls Tryz.prog 15 #[.string (str (txq q))] w (RatPost q w) := by
  refine (c_Read (txq q) hl w ht.1 ht.2.2).mono ?_
  intro e w' h
  rw [show readP (txq q) = some (qneg q, q.num.natAbs, q.den) from read_txt (valid_low hq)] at h
  exact rat_of_some hq rfl rfl rfl h
/-- The whole part, as a fraction's parts. -/
theorem floor_parts (q : Rat) (N : Nat) (hN : N = if qneg q = true ∧ 0 < q.num.natAbs % q.den then q.num.natAbs / q.den + 1 else q.num.natAbs / q.den) : sgn (qneg q) N = q.floor := by
  have hd : (0 : Int) < (q.den : Int) := by have := q.den_pos; omega
  have hq := sgn_self q.num
  rw [Rat.floor_def]
  unfold qneg at *
  generalize q.num = z at *
  generalize q.den = d at *
  unfold sgn at *
  by_cases hz : z < 0
  · simp only [hz, decide_true, if_true] at *
    obtain ⟨m, hm⟩ : ∃ m : Nat, m = z.natAbs := ⟨_, rfl⟩
    rw [← hm] at hq hN
    subst hq
    have hdm := Nat.div_add_mod m d
    have hml := Nat.mod_lt m (show 0 < d by omega)
    have e1 : ((m : Int)) = d * ((m / d : Nat) : Int) + ((m % d : Nat) : Int) := by rw [← Int.natCast_mul, ← Int.natCast_add, hdm]
    generalize m / d = k at *
    generalize m % d = r at *
    by_cases hr : 0 < r
    · rw [if_pos ⟨trivial, hr⟩] at hN
      subst hN
      symm
      refine Int.ediv_eq_iff_of_pos hd |>.2 ⟨?_, ?_⟩
      · rw [e1, Int.natCast_add]; grind
      · rw [e1, Int.natCast_add]; grind
    · rw [if_neg (by omega)] at hN
      subst hN
      symm
      refine Int.ediv_eq_iff_of_pos hd |>.2 ⟨?_, ?_⟩
      · rw [e1]; grind
      · rw [e1]; grind
  · simp only [hz, decide_false, Bool.false_eq_true, if_false, false_and] at *
    subst hN
    rw [Int.natCast_ediv, hq]
theorem int_rat (z : Int) : qneg (z : Rat) = decide (z < 0) ∧ (z : Rat).num.natAbs = z.natAbs ∧ (z : Rat).den = 1 := ⟨rfl, rfl, rfl⟩
theorem v_Floor {x : Value} {p : Rat} {w : World} (ht : Env w) (hx : Rv w x p) (hs : Sm (p.floor : Rat)) : Calls Tryz.prog 34 #[x] w (RatPost (p.floor : Rat) w) := by
  obtain ⟨N, hN⟩ : ∃ N, N = if qneg p = true ∧ 0 < p.num.natAbs % p.den then p.num.natAbs / p.den + 1 else p.num.natAbs / p.den := ⟨_, rfl⟩
  have hf := floor_parts p N hN
  obtain ⟨i1, i2, i3⟩ := int_rat p.floor
  refine (c_FloorV _ _ _ (by have := hx.2.1; omega) (by have := hx.2.2; omega) p.den_pos x w ht.1 hx.1 hx.valid N hN).mono ?_
  intro e w' h
  refine rat_of_some hs ?_ ?_ i3.symm h
  · rw [i1, ← hf]
    by_cases hq : p.num < 0
    · have e1 : qneg p = true := by unfold qneg; simpa using hq
      have hN0 : 0 < N := by
        have hdm := Nat.div_add_mod p.num.natAbs p.den
        have hdp := p.den_pos
        subst hN
        split
        · exact Nat.succ_pos _
        · rename_i hc
          rcases Nat.eq_zero_or_pos (p.num.natAbs / p.den) with h0 | h0
          · rw [h0] at hdm
            exact absurd ⟨e1, by omega⟩ hc
          · exact h0
      rw [e1]
      unfold sgn
      simp
      try omega
    · have e1 : qneg p = false := by unfold qneg; simpa using hq
      rw [e1]
      unfold sgn
      simp
      try omega
  · rw [i2, ← hf, sgn_abs]
theorem v_Int {x : Value} {z : Int} {w : World} (ht : Env w) (hx : Rv w x (z : Rat)) (h1 : -9223372036854775808 ≤ z) (h2 : z ≤ 9223372036854775807) : Calls Tryz.prog 36 #[x] w (IntPost z 0 w) := by
  obtain ⟨i1, i2, i3⟩ := int_rat z
  have hf := hx.1
  have hv := hx.valid
  have hs := hx.2
  unfold Sm at hs
  rw [i1, i2, i3] at hf hv
  rw [i2, i3] at hs
  by_cases hz : z < 0
  · rw [decide_eq_true hz] at hf hv
    have h := c_IntM z.natAbs 1 (by omega) (by omega) (by omega) rfl x w ht.1 hf hv
    rwa [show -(z.natAbs : Int) = z by omega] at h
  · rw [decide_eq_false hz] at hf hv
    have h := c_IntP z.natAbs 1 (by omega) (by omega) (by omega) rfl x w ht.1 hf hv
    rwa [show (z.natAbs : Int) = z by omega] at h
theorem v_Nearest {x : Value} {p : Rat} {w : World} (ht : Env w) (hx : Rv w x p) (den : Nat) (h1 : 1 ≤ den) (h2 : den ≤ 1000) : ∃ y : Rat, IsNear p den y ∧ (Sm y → Calls Tryz.prog 40 #[x, .int .i64 den] w (RatPost y w)) := by
  obtain ⟨y, hy, h⟩ := c_NearestQ (qneg p) p.num.natAbs p.den den h1 h2 hx.valid
  rw [quo_self] at hy
  exact ⟨y, hy, fun hs => (h x w ht.1 hx.1).mono fun e w' h => rat_of_some hs rfl rfl rfl h⟩
/-- Nearest at a fraction whose answer is known. -/
theorem v_NearestAt {x : Value} {p y : Rat} {w : World} (ht : Env w) (hx : Rv w x p) (den : Nat) (h1 : 1 ≤ den) (h2 : den ≤ 1000) (hy : IsNear p den y) (hs : Sm y) : Calls Tryz.prog 40 #[x, .int .i64 den] w (RatPost y w) := by
  obtain ⟨z, hz, h⟩ := v_Nearest ht hx den h1 h2
  obtain rfl := hy.uniq hz
  exact h hs
end Go.Proofs.YtfdkdloldjfnjaaGreatDoor
