/-
  DERIVED. The law RatioSimplest, at every argument. (Written by gen/genWP.py.)
-/
import Derived.Test.YtfdkdloldjfnjaaGreatDoorYWNfzm
import Derived.Test.YtfdkdloldjfnjaaGreatDoorYWNfzm
import Derived.Test.YtfdkdloldjfnjaaGreatDoorYWNfzm
import Derived.Test.YtfdkdloldjfnjaaGreatDoorYWNtzm
import Derived.Test.YtfdkdloldjfnjaaGreatDoorYWNtzm
import Derived.Test.YtfdkdloldjfnjaaGreatDoorYWNtzm
import Derived.Test.YtfdkdloldjfnjaaGreatDoorYRMm
import Derived.Test.YtfdkdloldjfnjaaGreatDoorRP
set_option linter.unusedVariables false
set_option linter.unusedSimpArgs false
namespace Go.Proofs.YtfdkdloldjfnjaaGreatDoor
open Go.RowKit
set_option maxRecDepth 100000

/-- What the walk wants of an interval's simplest fraction. -/
theorem simp_facts (a b c d : Int) (ha : -299 ≤ a) (ha' : a ≤ 299) (hb : 1 ≤ b) (hb' : b ≤ 60) (_hc : -299 ≤ c) (_hc' : c ≤ 299) (hd : 1 ≤ d) (hd' : d ≤ 60) (hac : a * d ≤ c * b) :
    ∃ z : Rat, (∀ X v u, Env X → Rv X v (ofq a b) → Rv X u (ofq c d) → Calls Tryz.prog 38 #[v, u] X (RatPost z X)) ∧ z.num.natAbs ≤ 299 ∧ (z.den : Int) ≤ 60 ∧
      a * (z.den : Int) ≤ z.num * b ∧ z.num * d ≤ c * (z.den : Int) ∧ (∀ j : Int, 1 ≤ j → j < (z.den : Int) → (c * j / d) * b < a * j) ∧
      (z.num ≠ 0 → (if z.num < 0 then z.num + 1 else z.num - 1) * b < a * (z.den : Int) ∨ c * (z.den : Int) < (if z.num < 0 then z.num + 1 else z.num - 1) * d) := by
  have p1 := nq_pos a (show 0 < b by omega)
  have p2 := nq_pos c (show 0 < d by omega)
  have hle := le_of_cross (by omega) (by omega) p1 p2 hac
  obtain ⟨z, hs, f1, f2, f3⟩ := simp_of hle
  have d1 := (nq a b).den_pos
  have d2 := (nq c d).den_pos
  have hs' : Simp a b c d z.num z.den := hs.ends (by omega) (by omega) (by omega) (by omega) (cross_of p1) (cross_of p2)
  obtain ⟨q1, q2⟩ := hs'.small (by omega) hac
  refine ⟨z, ?_, by omega, by omega, hs'.lo, hs'.hi, ?_, fun hn => hs'.next hn⟩
  · intro X v u hE hv hu
    have hz : Sm z := sm_of (Nat.lt_trans (show z.num.natAbs < 9223372036854775808 by omega) big_pow) (Nat.lt_trans (show z.den < 9223372036854775808 by omega) big_pow)
    exact v_Simp hle ⟨f1, f2, f3⟩ hz hE hv hu
  · intro j j0 j1
    obtain ⟨J, rfl⟩ : ∃ J : Nat, j = (J : Int) := ⟨j.toNat, by omega⟩
    exact hs'.floors (by omega) (by omega) (by omega)
set_option maxHeartbeats 4000000 in
theorem w_RatioSimplest (z0 z1 z2 z3 z4 z5 : Int) (y0 : -32768 ≤ z0) (y1 : z0 ≤ 32767) (y2 : -32768 ≤ z1) (y3 : z1 ≤ 32767) (y4 : -32768 ≤ z2) (y5 : z2 ≤ 32767) (y6 : -32768 ≤ z3) (y7 : z3 ≤ 32767) (w : World) (he : Env w) :
    Calls Tryz.prog 9 #[.agg #[.int .i16 z0, .int .i16 z1, .int .i16 z2, .int .i16 z3, .int .i16 z4, .int .i16 z5]] w fun e w' => e = .returned (.bool true) ∧ Below w.heap.size w w' := by
  obtain ⟨a0, ha0⟩ : ∃ a, z0.tmod 300 = a := ⟨_, rfl⟩
  obtain ⟨b0, hb0⟩ : ∃ a, 1 + (bits .and .i64 z1 1023).tmod 60 = a := ⟨_, rfl⟩
  obtain ⟨c0, hc0⟩ : ∃ a, z2.tmod 300 = a := ⟨_, rfl⟩
  obtain ⟨d0, hd0⟩ : ∃ a, 1 + (bits .and .i64 z3 1023).tmod 60 = a := ⟨_, rfl⟩
  have qa : -299 ≤ a0 ∧ a0 ≤ 299 := by
    have h1 := Int.tmod_lt_of_pos z0 (show (0 : Int) < 300 by omega)
    have h2 := Int.lt_tmod_of_pos z0 (show (0 : Int) < 300 by omega)
    omega
  have qc : -299 ≤ c0 ∧ c0 ≤ 299 := by
    have h1 := Int.tmod_lt_of_pos z2 (show (0 : Int) < 300 by omega)
    have h2 := Int.lt_tmod_of_pos z2 (show (0 : Int) < 300 by omega)
    omega
  have qb : 1 ≤ b0 ∧ b0 ≤ 60 := by
    have h1 := Int.tmod_lt_of_pos (bits .and .i64 z1 1023) (show (0 : Int) < 60 by omega)
    have h2 := Int.tmod_nonneg 60 (and_1023 z1).1
    omega
  have qd : 1 ≤ d0 ∧ d0 ≤ 60 := by
    have h1 := Int.tmod_lt_of_pos (bits .and .i64 z3 1023) (show (0 : Int) < 60 by omega)
    have h2 := Int.tmod_nonneg 60 (and_1023 z3).1
    omega
  obtain ⟨qa0, qa1⟩ := qa
  obtain ⟨qb0, qb1⟩ := qb
  obtain ⟨qc0, qc1⟩ := qc
  obtain ⟨qd0, qd1⟩ := qd
  rcases Int.lt_or_le (c0 * b0) (a0 * d0) with hsw | hsw
  · obtain ⟨z, h3, s1, s2, hlo, hhi, hfl, hnx⟩ := simp_facts c0 d0 a0 b0 qc0 qc1 qd0 qd1 qa0 qa1 qb0 qb1 (by omega)
    have h1 : ∀ X, Calls Tryz.prog 14 #[.int .i64 c0, .int .i64 d0] X (RatPost (ofq c0 d0) X) := fun X => e_Of c0 d0 (by omega) (by omega) (by omega) (by omega) (by omega) X
    have h2 : ∀ X, Calls Tryz.prog 14 #[.int .i64 a0, .int .i64 b0] X (RatPost (ofq a0 b0) X) := fun X => e_Of a0 b0 (by omega) (by omega) (by omega) (by omega) (by omega) X
    generalize ofq c0 d0 = p at *
    generalize ofq a0 b0 = q at *
    have hdp := z.den_pos
    rcases Int.lt_trichotomy z.num 0 with hn | hn | hn
    · have hq : qneg z = true := by unfold qneg; rw [decide_eq_true_iff]; omega
      have hop : ∀ X v, Rv X v z → ∃ b o c b' o' c', v = .agg #[.bool true, .slice (some ⟨b, o, none⟩) 1 c, .slice (some ⟨b', o', none⟩) 1 c'] ∧ Lm X b o z.num.natAbs ∧ Lm X b' o' z.den := by
        intro X v h
        have := h.open1 (by omega) (by omega) (by omega)
        rwa [hq] at this
      have hnx := hnx (by omega)
      rw [if_pos hn] at hnx
      obtain ⟨P, hP⟩ : ∃ P : Nat, z.num.natAbs = P := ⟨_, rfl⟩
      rw [hP] at hop
      exact simp_tm z0 z1 z2 z3 z4 z5 a0 b0 c0 d0 y0 y1 y2 y3 y4 y5 y6 y7 ha0 hb0 hc0 hd0 qa0 qa1 qb0 qb1 qc0 qc1 qd0 qd1 hsw p q z (Lib.hid h1) (Lib.hid h2) (Lib.hid h3) P z.den (by omega) (by omega) hdp s2 z.num (by omega) (Lib.hid hop) hlo hhi (Lib.hid hfl) (Lib.hid hnx) w he
    · rw [hn] at hlo hhi
      exact simp_tz z0 z1 z2 z3 z4 z5 a0 b0 c0 d0 y0 y1 y2 y3 y4 y5 y6 y7 ha0 hb0 hc0 hd0 qa0 qa1 qb0 qb1 qc0 qc1 qd0 qd1 hsw p q z (Lib.hid h1) (Lib.hid h2) (Lib.hid h3) z.den hdp s2 (Lib.hid (fun X v h => h.open0 (by omega) (by omega))) hlo hhi (Lib.hid hfl) w he
    · have hq : qneg z = false := by unfold qneg; rw [decide_eq_false_iff_not]; omega
      have hop : ∀ X v, Rv X v z → ∃ b o c b' o' c', v = .agg #[.bool false, .slice (some ⟨b, o, none⟩) 1 c, .slice (some ⟨b', o', none⟩) 1 c'] ∧ Lm X b o z.num.natAbs ∧ Lm X b' o' z.den := by
        intro X v h
        have := h.open1 (by omega) (by omega) (by omega)
        rwa [hq] at this
      have hnx := hnx (by omega)
      rw [if_neg (by omega)] at hnx
      obtain ⟨P, hP⟩ : ∃ P : Nat, z.num.natAbs = P := ⟨_, rfl⟩
      rw [hP] at hop
      have hPn : z.num = (P : Int) := by omega
      rw [hPn] at hlo hhi hnx
      exact simp_tp z0 z1 z2 z3 z4 z5 a0 b0 c0 d0 y0 y1 y2 y3 y4 y5 y6 y7 ha0 hb0 hc0 hd0 qa0 qa1 qb0 qb1 qc0 qc1 qd0 qd1 hsw p q z (Lib.hid h1) (Lib.hid h2) (Lib.hid h3) P z.den (by omega) (by omega) hdp s2 (Lib.hid hop) hlo hhi (Lib.hid hfl) (Lib.hid hnx) w he
  · obtain ⟨z, h3, s1, s2, hlo, hhi, hfl, hnx⟩ := simp_facts a0 b0 c0 d0 qa0 qa1 qb0 qb1 qc0 qc1 qd0 qd1 (by omega)
    have h1 : ∀ X, Calls Tryz.prog 14 #[.int .i64 a0, .int .i64 b0] X (RatPost (ofq a0 b0) X) := fun X => e_Of a0 b0 (by omega) (by omega) (by omega) (by omega) (by omega) X
    have h2 : ∀ X, Calls Tryz.prog 14 #[.int .i64 c0, .int .i64 d0] X (RatPost (ofq c0 d0) X) := fun X => e_Of c0 d0 (by omega) (by omega) (by omega) (by omega) (by omega) X
    generalize ofq a0 b0 = p at *
    generalize ofq c0 d0 = q at *
    have hdp := z.den_pos
    rcases Int.lt_trichotomy z.num 0 with hn | hn | hn
    · have hq : qneg z = true := by unfold qneg; rw [decide_eq_true_iff]; omega
      have hop : ∀ X v, Rv X v z → ∃ b o c b' o' c', v = .agg #[.bool true, .slice (some ⟨b, o, none⟩) 1 c, .slice (some ⟨b', o', none⟩) 1 c'] ∧ Lm X b o z.num.natAbs ∧ Lm X b' o' z.den := by
        intro X v h
        have := h.open1 (by omega) (by omega) (by omega)
        rwa [hq] at this
      have hnx := hnx (by omega)
      rw [if_pos hn] at hnx
      obtain ⟨P, hP⟩ : ∃ P : Nat, z.num.natAbs = P := ⟨_, rfl⟩
      rw [hP] at hop
      exact simp_fm z0 z1 z2 z3 z4 z5 a0 b0 c0 d0 y0 y1 y2 y3 y4 y5 y6 y7 ha0 hb0 hc0 hd0 qa0 qa1 qb0 qb1 qc0 qc1 qd0 qd1 hsw p q z (Lib.hid h1) (Lib.hid h2) (Lib.hid h3) P z.den (by omega) (by omega) hdp s2 z.num (by omega) (Lib.hid hop) hlo hhi (Lib.hid hfl) (Lib.hid hnx) w he
    · rw [hn] at hlo hhi
      exact simp_fz z0 z1 z2 z3 z4 z5 a0 b0 c0 d0 y0 y1 y2 y3 y4 y5 y6 y7 ha0 hb0 hc0 hd0 qa0 qa1 qb0 qb1 qc0 qc1 qd0 qd1 hsw p q z (Lib.hid h1) (Lib.hid h2) (Lib.hid h3) z.den hdp s2 (Lib.hid (fun X v h => h.open0 (by omega) (by omega))) hlo hhi (Lib.hid hfl) w he
    · have hq : qneg z = false := by unfold qneg; rw [decide_eq_false_iff_not]; omega
      have hop : ∀ X v, Rv X v z → ∃ b o c b' o' c', v = .agg #[.bool false, .slice (some ⟨b, o, none⟩) 1 c, .slice (some ⟨b', o', none⟩) 1 c'] ∧ Lm X b o z.num.natAbs ∧ Lm X b' o' z.den := by
        intro X v h
        have := h.open1 (by omega) (by omega) (by omega)
        rwa [hq] at this
      have hnx := hnx (by omega)
      rw [if_neg (by omega)] at hnx
      obtain ⟨P, hP⟩ : ∃ P : Nat, z.num.natAbs = P := ⟨_, rfl⟩
      rw [hP] at hop
      have hPn : z.num = (P : Int) := by omega
      rw [hPn] at hlo hhi hnx
      exact simp_fp z0 z1 z2 z3 z4 z5 a0 b0 c0 d0 y0 y1 y2 y3 y4 y5 y6 y7 ha0 hb0 hc0 hd0 qa0 qa1 qb0 qb1 qc0 qc1 qd0 qd1 hsw p q z (Lib.hid h1) (Lib.hid h2) (Lib.hid h3) P z.den (by omega) (by omega) hdp s2 (Lib.hid hop) hlo hhi (Lib.hid hfl) (Lib.hid hnx) w he
theorem row_RatioSimplest (xs : List Int) (v0 : Value) (w : World) (h0 : v0 = .agg (xs.map (.int .i16)).toArray ∧ xs.length = 6 ∧ ∀ z ∈ xs, -32768 ≤ z ∧ z ≤ 32767) (he : Env w) :
    Calls Tryz.prog 9 #[v0] w fun e w' => e = .returned (.bool true) ∧ Below w.heap.size w w' := by
  obtain ⟨rfl, hl, hz⟩ := h0
  match xs, hl with
  | [z0, z1, z2, z3, z4, z5], _ =>
    obtain ⟨a0, b0⟩ := hz z0 (by simp)
    obtain ⟨a1, b1⟩ := hz z1 (by simp)
    obtain ⟨a2, b2⟩ := hz z2 (by simp)
    obtain ⟨a3, b3⟩ := hz z3 (by simp)
    exact w_RatioSimplest z0 z1 z2 z3 z4 z5 a0 b0 a1 b1 a2 b2 a3 b3 w he
end Go.Proofs.YtfdkdloldjfnjaaGreatDoor
