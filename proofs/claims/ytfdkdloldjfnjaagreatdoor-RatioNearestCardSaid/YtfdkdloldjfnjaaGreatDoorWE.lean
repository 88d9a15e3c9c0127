/-
  DERIVED. The law RatioNearest, at every argument. (Written by gen/genWE.py.)
-/
import Derived.Test.YtfdkdloldjfnjaaGreatDoorYWDzzm
import Derived.Test.YtfdkdloldjfnjaaGreatDoorYWDzzm
import Derived.Test.YtfdkdloldjfnjaaGreatDoorYWDzzm
import Derived.Test.YtfdkdloldjfnjaaGreatDoorYWDpzm
import Derived.Test.YtfdkdloldjfnjaaGreatDoorYWDpzm
import Derived.Test.YtfdkdloldjfnjaaGreatDoorYWDpzm
import Derived.Test.YtfdkdloldjfnjaaGreatDoorYWDmzm
import Derived.Test.YtfdkdloldjfnjaaGreatDoorYWDmzm
import Derived.Test.YtfdkdloldjfnjaaGreatDoorYWDmzm
import Derived.Test.YtfdkdloldjfnjaaGreatDoorYRMm
set_option linter.unusedVariables false
set_option linter.unusedSimpArgs false
namespace Go.Proofs.YtfdkdloldjfnjaaGreatDoor
open Go.RowKit
set_option maxRecDepth 100000

theorem near_r {x y : Rat} {most : Nat} (h : IsNear x most y) {a b : Int} (hb : 0 < b) (hb2 : b ≤ 32768) (hx : x * (b : Rat) = (a : Rat)) (h1 : -32768 ≤ a) (h2 : a ≤ 32768) (hm : 1 ≤ most) (hm2 : most ≤ 40)
    (k i : Int) (k0 : 1 ≤ k) (k1 : k ≤ (most : Int)) (i0 : 0 ≤ i) (i1 : i ≤ 1) : NearR a b y.num (y.den : Int) k (a * k / b) i := by
  obtain ⟨s1, s2⟩ := near_small h hb hx hm hm2 h1 h2
  have hd := y.den_pos
  obtain ⟨K, rfl⟩ : ∃ K : Nat, k = (K : Int) := ⟨k.toNat, by omega⟩
  obtain ⟨l1, l2⟩ := near_law h (m := a * (K : Int) / b + i) (k := K) hb hx (by omega) (by omega)
  have b1 := mul_bnd (x := a) (y := (K : Int)) 32768 40 (by omega) (by omega) (by omega) (by omega)
  have b2 := mul_bnd (x := y.num) (y := b) 1310760 32768 (by omega) (by omega) (by omega) (by omega)
  have b3 := mul_bnd (x := a) (y := (y.den : Int)) 32768 40 (by omega) (by omega) (by omega) (by omega)
  have b4 := mul_bnd (x := y.num * b - a * (y.den : Int)) (y := (K : Int)) 42953000000 40 (by omega) (by omega) (by omega) (by omega)
  have f0 := Int.natAbs_ediv_le_natAbs (a * (K : Int)) b
  obtain ⟨f, hf⟩ : ∃ f, a * (K : Int) / b = f := ⟨_, rfl⟩
  rw [hf] at f0 l1 l2 ⊢
  have b5 : -1310760 ≤ f ∧ f ≤ 1310760 := by omega
  have b6 := mul_bnd (x := f + i) (y := b) 1310761 32768 (by omega) (by omega) (by omega) (by omega)
  have b7 := mul_bnd (x := (f + i) * b - a * (K : Int)) (y := (y.den : Int)) 42953000000 40 (by omega) (by omega) (by omega) (by omega)
  have b8 := mul_bnd (x := f + i) (y := (y.den : Int)) 1310761 40 (by omega) (by omega) (by omega) (by omega)
  have b9 := mul_bnd (x := y.num) (y := (K : Int)) 1310760 40 (by omega) (by omega) (by omega) (by omega)
  exact ⟨by omega, by omega, by omega, by omega, by omega, by omega, by omega, by omega, by omega, l1, l2⟩
set_option maxHeartbeats 4000000 in
theorem w_RatioNearest (n d den : Int) (n0 : -32768 ≤ n) (n1 : n ≤ 32767) (d0 : -32768 ≤ d) (d1 : d ≤ 32767) (g0 : 0 ≤ den) (g1 : den ≤ 255) (w : World) (he : Env w) :
    Calls Tryz.prog 10 #[.int .i16 n, .int .i16 d, .int .u8 den] w fun e w' => e = .returned (.bool true) ∧ Below w.heap.size w w' := by
  obtain ⟨r, hr⟩ : ∃ r, den % 40 = r := ⟨_, rfl⟩
  have r0 : 0 ≤ r := by omega
  have r1 : r ≤ 39 := by omega
  obtain ⟨most, hmost⟩ : ∃ m : Nat, (m : Int) = 1 + r := ⟨(1 + r).toNat, by omega⟩
  have hs : Sm (smq n d) := by unfold smq; split <;> exact ofq_sm (by omega) (by omega) (by omega) (by omega) (by omega)
  obtain ⟨y, hy, -⟩ := c_NearestQ (qneg (smq n d)) (smq n d).num.natAbs (smq n d).den most (by omega) (by omega) (valid_low hs)
  rw [quo_self] at hy
  have h1 := fun X => c_small n d n0 n1 d0 d1 X
  -- a over b
  obtain ⟨a, b, hb, hb2, hx, ha1, ha2, hab⟩ : ∃ a b : Int, 0 < b ∧ b ≤ 32768 ∧ smq n d * (b : Rat) = (a : Rat) ∧ -32768 ≤ a ∧ a ≤ 32768 ∧ ((d = 0 ∧ n = a ∧ 1 = b) ∨ (0 < d ∧ n = a ∧ d = b) ∨ (d < 0 ∧ -n = a ∧ -d = b)) := by
    unfold smq
    rcases Int.lt_trichotomy d 0 with h | h | h
    · rw [if_neg (by omega)]
      exact ⟨-n, -d, by omega, by omega, nq_neg n h, by omega, by omega, .inr (.inr ⟨h, rfl, rfl⟩)⟩
    · rw [if_pos h]
      exact ⟨n, 1, by omega, by omega, nq_pos n (by omega), by omega, by omega, .inl ⟨h, rfl, rfl⟩⟩
    · rw [if_neg (by omega)]
      exact ⟨n, d, by omega, by omega, nq_pos n h, by omega, by omega, .inr (.inl ⟨h, rfl, rfl⟩)⟩
  obtain ⟨s1, s2⟩ := near_small hy hb hx (by omega) (by omega) ha1 ha2
  have hlaw := near_r hy hb hb2 hx ha1 ha2 (by omega) (by omega)
  rw [hmost] at hlaw
  have hsy : Sm y := sm_of (Nat.lt_trans (show y.num.natAbs < 9223372036854775808 by omega) big_pow) (Nat.lt_trans (show y.den < 9223372036854775808 by omega) big_pow)
  have h2 : ∀ X v, Env X → Rv X v (smq n d) → Calls Tryz.prog 40 #[v, .int .i64 (1 + r)] X (RatPost y X) := by
    intro X v hE hv
    rw [← hmost]
    exact v_NearestAt hE hv most (by omega) (by omega) hy hsy
  have hdp := y.den_pos
  have hde := hy.den
  have q1 : (y.den : Int) ≤ 40 := by omega
  have q2 : (y.den : Int) ≤ 1 + r := by omega
  clear hx ha1 ha2 hy hsy hs hmost
  generalize smq n d = x at *
  rcases Int.lt_trichotomy y.num 0 with hn | hn | hn
  · have hq : qneg y = true := by unfold qneg; rw [decide_eq_true_iff]; omega
    have hop : ∀ X v, Rv X v y → ∃ b o c b' o' c', v = .agg #[.bool true, .slice (some ⟨b, o, none⟩) 1 c, .slice (some ⟨b', o', none⟩) 1 c'] ∧ Lm X b o y.num.natAbs ∧ Lm X b' o' y.den := by
      intro X v h
      have := h.open1 (by omega) (by omega) (by omega)
      rwa [hq] at this
    obtain ⟨P, hP⟩ : ∃ P : Nat, y.num.natAbs = P := ⟨_, rfl⟩
    have hPn : -(P : Int) = y.num := by omega
    rw [hP] at hop
    rcases hab with ⟨hd, ha, hb0⟩ | ⟨hd, ha, hb0⟩ | ⟨hd, ha, hb0⟩
    · subst hd ha hb0; exact near_zm n den r n0 n1 g0 g1 hr r0 r1 x y (Lib.hid h1) (Lib.hid h2) P y.den (by omega) (by omega) hdp q1 q2 (Lib.hid hop) y.num hPn (Lib.hid hlaw) w he
    · subst ha hb0; exact near_pm n d den r n0 n1 hd d1 g0 g1 hr r0 r1 x y (Lib.hid h1) (Lib.hid h2) P y.den (by omega) (by omega) hdp q1 q2 (Lib.hid hop) y.num hPn (Lib.hid hlaw) w he
    · exact near_mm n d den r n0 n1 d0 hd g0 g1 hr r0 r1 x y (Lib.hid h1) (Lib.hid h2) P y.den (by omega) (by omega) hdp q1 q2 (Lib.hid hop) a b ha hb0 hb hb2 y.num hPn (Lib.hid hlaw) w he
  · rw [hn] at hlaw
    have hop : ∀ X v, Rv X v y → ∃ A c b' o' c', v = .agg #[.bool false, .slice A 0 c, .slice (some ⟨b', o', none⟩) 1 c'] ∧ Lm X b' o' y.den := fun X v h => h.open0 (by omega) (by omega)
    rcases hab with ⟨hd, ha, hb0⟩ | ⟨hd, ha, hb0⟩ | ⟨hd, ha, hb0⟩
    · subst hd ha hb0; exact near_zz n den r n0 n1 g0 g1 hr r0 r1 x y (Lib.hid h1) (Lib.hid h2) y.den hdp q1 q2 (Lib.hid hop) (Lib.hid hlaw) w he
    · subst ha hb0; exact near_pz n d den r n0 n1 hd d1 g0 g1 hr r0 r1 x y (Lib.hid h1) (Lib.hid h2) y.den hdp q1 q2 (Lib.hid hop) (Lib.hid hlaw) w he
    · exact near_mz n d den r n0 n1 d0 hd g0 g1 hr r0 r1 x y (Lib.hid h1) (Lib.hid h2) y.den hdp q1 q2 (Lib.hid hop) a b ha hb0 hb hb2 (Lib.hid hlaw) w he
  · have hq : qneg y = false := by unfold qneg; rw [decide_eq_false_iff_not]; omega
    have hop : ∀ X v, Rv X v y → ∃ b o c b' o' c', v = .agg #[.bool false, .slice (some ⟨b, o, none⟩) 1 c, .slice (some ⟨b', o', none⟩) 1 c'] ∧ Lm X b o y.num.natAbs ∧ Lm X b' o' y.den := by
      intro X v h
      have := h.open1 (by omega) (by omega) (by omega)
      rwa [hq] at this
    obtain ⟨P, hP⟩ : ∃ P : Nat, y.num.natAbs = P := ⟨_, rfl⟩
    have hPn : y.num = (P : Int) := by omega
    rw [hPn] at hlaw
    rw [hP] at hop
    rcases hab with ⟨hd, ha, hb0⟩ | ⟨hd, ha, hb0⟩ | ⟨hd, ha, hb0⟩
    · subst hd ha hb0; exact near_zp n den r n0 n1 g0 g1 hr r0 r1 x y (Lib.hid h1) (Lib.hid h2) P y.den (by omega) (by omega) hdp q1 q2 (Lib.hid hop) (Lib.hid hlaw) w he
    · subst ha hb0; exact near_pp n d den r n0 n1 hd d1 g0 g1 hr r0 r1 x y (Lib.hid h1) (Lib.hid h2) P y.den (by omega) (by omega) hdp q1 q2 (Lib.hid hop) (Lib.hid hlaw) w he
    · exact near_mp n d den r n0 n1 d0 hd g0 g1 hr r0 r1 x y (Lib.hid h1) (Lib.hid h2) P y.den (by omega) (by omega) hdp q1 q2 (Lib.hid hop) a b ha hb0 hb hb2 (Lib.hid hlaw) w he
theorem row_RatioNearest (n : Int) (v0 : Value) (d : Int) (v1 : Value) (den : Int) (v2 : Value) (w : World) (h0 : v0 = .int .i16 n ∧ -32768 ≤ n ∧ n ≤ 32767) (h1 : v1 = .int .i16 d ∧ -32768 ≤ d ∧ d ≤ 32767) (h2 : v2 = .int .u8 den ∧ 0 ≤ den ∧ den ≤ 255) (he : Env w) :
    Calls Tryz.prog 10 #[v0, v1, v2] w fun e w' => e = .returned (.bool true) ∧ Below w.heap.size w w' := by
  obtain ⟨rfl, n0, n1⟩ := h0
  obtain ⟨rfl, d0, d1⟩ := h1
  obtain ⟨rfl, g0, g1⟩ := h2
  exact w_RatioNearest n d den n0 n1 d0 d1 g0 g1 w he
end Go.Proofs.YtfdkdloldjfnjaaGreatDoor
