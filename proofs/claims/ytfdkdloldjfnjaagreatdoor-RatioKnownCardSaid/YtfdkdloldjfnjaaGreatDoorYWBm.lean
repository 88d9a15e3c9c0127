/-
  DERIVED. Several texts in one.
-/
import Derived.Test.YtfdkdloldjfnjaaGreatDoorYRJm
import Derived.Test.YtfdkdloldjfnjaaGreatDoorYRMm
import Derived.Test.YtfdkdloldjfnjaaGreatDoorTP
import Derived.Test.YtfdkdloldjfnjaaGreatDoorTQ
import Derived.Test.YtfdkdloldjfnjaaGreatDoorYTRm
import Derived.Test.YtfdkdloldjfnjaaGreatDoorUM
import Derived.Test.YtfdkdloldjfnjaaGreatDoorYUAm
import Derived.Test.YtfdkdloldjfnjaaGreatDoorTY
set_option linter.unusedVariables false
set_option linter.unusedSimpArgs false

/- DERIVED. Simplest at numbers of any signs; the law's floor. -/
namespace Go.Proofs.YtfdkdloldjfnjaaGreatDoor
open Go.RowKit
set_option maxRecDepth 100000

/-- How the program finds the simplest fraction. -/
def SimpIs (p q z : Rat) : Prop :=
    (p.num < 0 ∧ 0 ≤ q.num → z = 0) ∧
    (0 ≤ p.num → p.num.natAbs * q.den ≤ q.num.natAbs * p.den ∧ 0 ≤ q.num ∧ qneg z = false ∧ (ev (partsF (p.den + q.den) p.num.natAbs p.den q.num.natAbs q.den)).1 = z.num.natAbs ∧ (ev (partsF (p.den + q.den) p.num.natAbs p.den q.num.natAbs q.den)).2 = z.den) ∧
    (q.num < 0 → q.num.natAbs * p.den ≤ p.num.natAbs * q.den ∧ p.num < 0 ∧ qneg z = true ∧ (ev (partsF (q.den + p.den) q.num.natAbs q.den p.num.natAbs p.den)).1 = z.num.natAbs ∧ (ev (partsF (q.den + p.den) q.num.natAbs q.den p.num.natAbs p.den)).2 = z.den ∧ 0 < z.num.natAbs)
theorem v_Simp {p q z : Rat} (hle : p ≤ q) (hz : SimpIs p q z) (hs : Sm z) {x y : Value} {w : World} (ht : Env w) (hx : Rv w x p) (hy : Rv w y q) : Calls Tryz.prog 38 #[x, y] w (RatPost z w) := by
  obtain ⟨hz1, hz2, hz3⟩ := hz
  have hx1 := hx.1
  have hy1 := hy.1
  have v1 := hx.valid
  have v2 := hy.valid
  have s1 := hx.2
  have s2 := hy.2
  unfold Sm at s1 s2
  have ho : ¬ (0 : Int) < ordP (sumP (qneg p) p.num.natAbs p.den (negP (qneg q) true q.num.natAbs) q.num.natAbs q.den) := by
    rw [ordP_qcmp (by have := p.den_pos; omega) (by have := q.den_pos; omega), quo_self, quo_self, qcmp_pos]
    intro h
    grind
  by_cases h1 : p.num < 0
  · have e1 : qneg p = true := by unfold qneg; simpa using h1
    by_cases h2 : q.num < 0
    · have e2 : qneg q = true := by unfold qneg; simpa using h2
      rw [e1] at hx1 v1
      rw [e2] at hy1 v2
      rw [e1, e2] at ho
      obtain ⟨k1, -, k3, k4, k5, k6⟩ := hz3 h2
      refine (c_SimplestM _ _ _ _ s1.1 s1.2 s2.1 s2.2 p.den_pos q.den_pos x y w ht.1 hx1 hy1 v1 v2 k1 true (by rw [k4]; exact decide_eq_true k6) ho).mono ?_
      intro e w' h
      exact rat_of_some hs k3.symm k4 k5 h
    · have e2 : qneg q = false := by unfold qneg; simpa using h2
      rw [e1] at hx1 v1
      rw [e2] at hy1 v2
      rw [e1, e2] at ho
      obtain rfl := hz1 ⟨h1, by omega⟩
      refine (c_SimplestZ _ _ _ _ s1.1 s1.2 s2.1 s2.2 x y w ht.1 hx1 hy1 v1 v2 ho).mono ?_
      intro e w' h
      exact rat_of_some hs rfl rfl rfl h
  · have e1 : qneg p = false := by unfold qneg; simpa using h1
    obtain ⟨k1, k2, k3, k4, k5⟩ := hz2 (by omega)
    have e2 : qneg q = false := by unfold qneg; simpa using k2
    rw [e1] at hx1 v1
    rw [e2] at hy1 v2
    rw [e1, e2] at ho
    refine (c_SimplestP _ _ _ _ s1.1 s1.2 s2.1 s2.2 p.den_pos q.den_pos x y w ht.1 hx1 hy1 v1 v2 k1 ho).mono ?_
    intro e w' h
    exact rat_of_some hs k3.symm k4 k5 h
theorem ofq_nq (n d : Int) : ofq n d = nq n d := rfl
set_option maxHeartbeats 1000000 in
theorem c_floor (n d : Int) (h1 : -4000000000000 ≤ n) (h2 : n ≤ 4000000000000) (h3 : 0 < d) (h4 : d ≤ 100000) (w : World) :
    Calls Tryz.prog 45 #[.int .i64 n, .int .i64 d] w fun e w' => e = .returned (.int .i64 (n / d)) ∧ w' = w := by
  have hq := tdiv_floor n h3
  obtain ⟨q, he⟩ : ∃ q, n.tdiv d = q := ⟨_, rfl⟩
  have hqb : -4000000000000 ≤ q ∧ q ≤ 4000000000000 := by
    have := Int.natAbs_tdiv_le_natAbs n d
    rw [he] at this
    omega
  have hm : -4000000000000 - 100000 ≤ q * d ∧ q * d ≤ 4000000000000 + 100000 := by
    have e1 := Int.mul_tdiv_add_tmod n d
    have e2 := Int.tmod_lt_of_pos n h3
    have e3 := Int.lt_tmod_of_pos n h3
    rw [he, Int.mul_comm] at e1
    omega
  obtain ⟨p, hp⟩ : ∃ p, q * d = p := ⟨_, rfl⟩
  rw [hp] at hm
  rw [he, hp] at hq
  obtain ⟨q1, q2⟩ := hqb
  obtain ⟨m1, m2⟩ := hm
  by_cases hc : n < p
  · rw [if_pos hc] at hq
    have HQ := Lib.hid hq
    clear hq
    go_enter Tryz.func45, Tryz.ntmps45
    go_wp2_with (fail)
    go_ret
    exact ⟨by rw [← HQ.out]; rfl, rfl⟩
  · rw [if_neg hc] at hq
    have HQ := Lib.hid hq
    clear hq
    go_enter Tryz.func45, Tryz.ntmps45
    go_wp2_with (fail)
    go_ret
    exact ⟨by rw [← HQ.out]; rfl, rfl⟩
end Go.Proofs.YtfdkdloldjfnjaaGreatDoor

/- DERIVED. Fractions of small parts in memory; products of small numbers. -/
namespace Go.Proofs.YtfdkdloldjfnjaaGreatDoor
open Go.RowKit
set_option maxRecDepth 100000

def SmallPost (q : Rat) (w : World) (e : Ending) (w' : World) : Prop := ∃ v, e = .returned v ∧ Rv w' v q ∧ Below w.heap.size w w'
/-- A limb in memory. -/
def Lm (w : World) (b o : Nat) (x : Nat) : Prop := b < w.heap.size ∧ w.cell? ⟨b, o, none⟩ = some (.int .u32 (x : Int))
theorem Lm.on {w w' : World} {b o x : Nat} (h : Lm w b o x) (hb : Below w.heap.size w w') : Lm w' b o x := ⟨Nat.lt_of_lt_of_le h.1 hb.size, (hb.cell (p := ⟨b, o, none⟩) h.1).trans h.2⟩
theorem nat_one_limb {n : Nat} (h0 : 0 < n) (h : n < 4294967296) : nat n = [n] := by
  rw [nat, dif_neg (by omega), nat, dif_pos (Nat.div_eq_of_lt (by unfold BB; omega)), Nat.mod_eq_of_lt (by unfold BB; omega)]
theorem natSl_lm {w : World} {v : Value} {x : Nat} {ok : Nat → Prop} (h : NatSl w ok v [x]) (hok : ∀ i, ok i → i < w.heap.size) : ∃ b o c, v = .slice (some ⟨b, o, none⟩) 1 c ∧ Lm w b o x := by
  obtain ⟨A, c, rfl, -, -, hA⟩ := h
  obtain ⟨b, o, rfl, hb, hc⟩ := hA (by simp)
  exact ⟨b, o, c, rfl, hok _ hb, hc 0 x rfl⟩
/-- A fraction whose parts have one limb each. -/
theorem Rv.open1 {w : World} {v : Value} {q : Rat} (h : Rv w v q) (h0 : 0 < q.num.natAbs) (h1 : q.num.natAbs < 4294967296) (h2 : q.den < 4294967296) :
    ∃ b o c b' o' c', v = .agg #[.bool (qneg q), .slice (some ⟨b, o, none⟩) 1 c, .slice (some ⟨b', o', none⟩) 1 c'] ∧ Lm w b o q.num.natAbs ∧ Lm w b' o' q.den := by
  obtain ⟨va, vb, e, ha, hb⟩ := h.1
  rw [nat_one_limb h0 h1] at ha
  rw [nat_one_limb q.den_pos h2] at hb
  obtain ⟨b, o, c, rfl, hl⟩ := natSl_lm ha (fun _ h => h)
  obtain ⟨b', o', c', rfl, hl'⟩ := natSl_lm hb (fun _ h => h)
  exact ⟨b, o, c, b', o', c', e, hl, hl'⟩
theorem Rv.open0 {w : World} {v : Value} {q : Rat} (h : Rv w v q) (h0 : q.num.natAbs = 0) (h2 : q.den < 4294967296) :
    ∃ A c b' o' c', v = .agg #[.bool false, .slice A 0 c, .slice (some ⟨b', o', none⟩) 1 c'] ∧ Lm w b' o' q.den := by
  obtain ⟨va, vb, e, ha, hb⟩ := h.1
  rw [h0, nat, dif_pos rfl] at ha
  rw [nat_one_limb q.den_pos h2] at hb
  obtain ⟨A, c, rfl⟩ := ha.shape
  obtain ⟨b', o', c', rfl, hl'⟩ := natSl_lm hb (fun _ h => h)
  have hq : qneg q = false := by unfold qneg; rw [decide_eq_false_iff_not]; omega
  rw [hq] at e
  exact ⟨A, c, b', o', c', e, hl'⟩
theorem mul_bnd {x y : Int} (A B : Int) (h1 : -A ≤ x) (h2 : x ≤ A) (h3 : -B ≤ y) (h4 : y ≤ B) : -(A * B) ≤ x * y ∧ x * y ≤ A * B := by
  have ha : (x * y).natAbs ≤ A.natAbs * B.natAbs := by
    rw [Int.natAbs_mul]
    exact Nat.mul_le_mul (by omega) (by omega)
  have hb : ((A.natAbs * B.natAbs : Nat) : Int) = A * B := by
    rw [Int.natCast_mul, Int.natAbs_of_nonneg (by omega), Int.natAbs_of_nonneg (by omega)]
  generalize A.natAbs * B.natAbs = t at *
  omega
end Go.Proofs.YtfdkdloldjfnjaaGreatDoor
