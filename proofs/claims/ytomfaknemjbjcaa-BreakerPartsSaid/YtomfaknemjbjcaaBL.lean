/-
  DERIVED. The reference's Bears.
-/
import Derived.Test.YtomfaknemjbjcaaBJ
import Derived.Test.YtomfaknemjbjcaaBH
namespace Go.Proofs.Ytomfaknemjbjcaa
open Go.RowKit
set_option maxRecDepth 100000

def BearsRel (L S F q k : Int) (V : World) (n : Value) (wr : World) : Prop :=
  ∃ v : Int, n = .int .i64 v ∧ L ≤ v ∧ v ≤ F ∧ Hid (brn L S F q k v = true) ∧ wr = V
theorem fltH_nil (L S F h : Int) : fltH L S F h [] = if bOk L S F = true then (if (decide (0 ≤ h) && decide (h ≤ S)) = true then 0 else 2) else 1 := by
  unfold fltH; simp [lsOk]
set_option maxHeartbeats 8000000 in
theorem r_Bears (f L S F q k : Int) (y r : Int) (hr : bearsP L S F q k = (y, r)) (w : World) :
    Calls Try.prog 27 #[bkV f L S F, .int .i64 q, .int .i64 k] w fun e w' => e = .returned (.tuple #[.int .i64 y, .int .i64 r]) ∧ Below w.heap.size w w' := by
  obtain ⟨W, hW⟩ : ∃ W, W = w.alloc (.cells #[.int .i64 f, .int .i64 L, .int .i64 S, .int .i64 F] 23) := ⟨_, rfl⟩
  have B0 : Below w.heap.size w W := by subst hW; exact (Below.refl _ _).alloc (Nat.le_refl _) _
  have HB := Lib.hid B0
  have HK := Lib.hid (show Bk W w.heap.size f L S F by subst hW; exact bk_new _ _ _ _ _)
  have hz : w.heap.size < W.heap.size := block_lt HK.out
  have HC := Lib.hid (fun (r1 : Bool) (h1 : bOk L S F = r1) => r_Valid f L S F r1 h1 W)
  unfold bkV
  unfold bkV at HC
  obtain ⟨x0, x1, x2, x3⟩ := HK.out.cells
  clear B0
  unfold bearsP at hr
  rw [fltH_nil] at hr
  rcases h1 : bOk L S F with _ | _
  · rw [h1] at hr
    simp only [Bool.false_eq_true, if_false, if_neg (show ¬ ((1 : Int) = 0) by decide)] at hr
    injection hr with hy hr
    subst hy hr
    have H1 := Lib.hid h1
    clear h1
    go_enter Try.func27, Try.ntmps27
    go_wp2_with (fail)
    rw [← hW]
    clear hW
    go_at_call 17
    refine (HC.out _ H1.out).mono ?_
    rintro e w1 ⟨rfl, b1⟩
    have HB1 := Lib.hid (below_join HB.out b1 HB.out.size)
    clear b1 x0 x1 x2 x3
    go_wp2_with (fail)
    exact retTT rfl rfl rfl rfl ⟨rfl, HB1.out⟩
  · rw [h1, if_pos rfl] at hr
    have g4 := bOk_iff.1 h1
    have H1 := Lib.hid h1
    clear h1
    have hc : (r = 0 ∧ y = brsR L S F q k ∧ 0 ≤ q ∧ q ≤ S ∧ 1 ≤ k ∧ k ≤ 1000) ∨ (y = 0 ∧ r = 2 ∧ q < 0) ∨ (y = 0 ∧ r = 2 ∧ 0 ≤ q ∧ S < q) ∨ (y = 0 ∧ r = 2 ∧ 0 ≤ q ∧ q ≤ S ∧ k < 1) ∨ (y = 0 ∧ r = 2 ∧ 0 ≤ q ∧ q ≤ S ∧ 1 ≤ k ∧ 1000 < k) := by
      by_cases h2 : (decide (0 ≤ q) && decide (q ≤ S)) = true
      · rw [if_pos h2, if_pos rfl] at hr
        simp only [Bool.and_eq_true, decide_eq_true_eq] at h2
        by_cases h3 : (decide (1 ≤ k) && decide (k ≤ 1000)) = true
        · rw [if_pos h3] at hr
          injection hr with h5 h6
          simp only [Bool.and_eq_true, decide_eq_true_eq] at h3
          exact .inl ⟨h6.symm, h5.symm, h2.1, h2.2, h3.1, h3.2⟩
        · rw [if_neg h3] at hr
          injection hr with h5 h6
          simp only [Bool.and_eq_true, decide_eq_true_eq] at h3
          omega
      · rw [if_neg h2] at hr
        simp only [if_neg (show ¬ ((2 : Int) = 0) by decide)] at hr
        injection hr with h5 h6
        simp only [Bool.and_eq_true, decide_eq_true_eq] at h2
        omega
    clear hr
    rcases hc with ⟨rfl, hy, k1, k2, k3, k4⟩ | ⟨rfl, rfl, k1⟩ | ⟨rfl, rfl, k1, k2⟩ | ⟨rfl, rfl, k1, k2, k3⟩ | ⟨rfl, rfl, k1, k2, k3, k4⟩
    · have HY := Lib.hid hy
      have HBR := Lib.hid (brs_R (S := S) (h := q) (k := k) g4.1 g4.2.2.2.2.1 (by omega))
      clear hy
      obtain ⟨i1, i2, i3, i4, i5, i6⟩ := g4
      go_enter Try.func27, Try.ntmps27
      go_wp2_with (fail)
      rw [← hW]
      clear hW
      go_at_call 17
      refine (HC.out _ H1.out).mono ?_
      rintro e w1 ⟨rfl, b1⟩
      have HB1 := Lib.hid (below_join HB.out b1 HB.out.size)
      have HK1 := Lib.hid (HK.out.on b1 hz)
      clear b1 x0 x1 x2 x3
      obtain ⟨x0, x1, x2, x3⟩ := HK1.out.cells
      go_wp2_with (fail)
      go_loopw [8] (fun n wr => BearsRel L S F q k w1 n wr) (fun n wr => (F - intOf n).toNat)
      case atStart => exact ⟨L, rfl, Int.le_refl _, i5, Lib.hid (by unfold brn; simp), rfl⟩
      case round =>
        obtain ⟨v, rfl, hv1, hv2, hv, rfl⟩ := hrel
        obtain ⟨z, hz2⟩ : ∃ z, z = k * (v + 1 - L) := ⟨_, rfl⟩
        have z0 : 0 ≤ z := by rw [hz2]; exact Int.mul_nonneg (by omega) (by omega)
        have z1 : z ≤ 1001000000 := by
          have : k * (v + 1 - L) ≤ 1000 * 1001000 := Int.mul_le_mul (by omega) (by omega) (by omega) (by omega)
          omega
        by_cases hlt : v < F
        · have d1 : decide (v < F) = true := decide_eq_true hlt
          by_cases hle : q + z ≤ S
          · have HV2 := Lib.hid (show brn L S F q k (v + 1) = true by
              unfold brn
              rw [← hz2]
              simp only [Bool.or_eq_true, Bool.and_eq_true, decide_eq_true_eq]
              exact .inr ⟨by omega, hle⟩)
            rw [hz2] at z0 z1 hle
            clear hz2
            go_wp2_with (fail)
            go_roundw
            case rel => exact ⟨v + 1, by go_num, by omega, by omega, HV2, rfl⟩
            case measure => simp only [intOf]; omega
          · have HY2 := Lib.hid (show v = y by
              rw [HY.out]
              refine brs_unique (by omega) ⟨hv1, hv2, hv.out, ?_⟩ HBR.out
              unfold brn
              rw [← hz2, decide_eq_false (by omega), decide_eq_false hle]
              simp)
            rw [hz2] at z0 z1 hle
            clear hz2
            go_wp2_with (fail)
            exact retTT rfl rfl rfl rfl ⟨(show Ending.returned (.tuple #[.int .i64 v, .int .i64 0]) = .returned (.tuple #[.int .i64 y, .int .i64 0]) by rw [HY2.out]), HB1.out⟩
        · have d1 : decide (v < F) = false := decide_eq_false hlt
          have HY2 := Lib.hid (show v = y by
            rw [HY.out]
            refine brs_unique (by omega) ⟨hv1, hv2, hv.out, ?_⟩ HBR.out
            unfold brn
            rw [decide_eq_false (by omega), decide_eq_false (show ¬ (v + 1 ≤ F) by omega)]
            rfl)
          clear z0 z1 hz2
          go_wp2_with (fail)
          exact retTT rfl rfl rfl rfl ⟨(show Ending.returned (.tuple #[.int .i64 v, .int .i64 0]) = .returned (.tuple #[.int .i64 y, .int .i64 0]) by rw [HY2.out]), HB1.out⟩
    all_goals
      go_enter Try.func27, Try.ntmps27
      go_wp2_with (fail)
      rw [← hW]
      clear hW
      go_at_call 17
      refine (HC.out _ H1.out).mono ?_
      rintro e w1 ⟨rfl, b1⟩
      have HB1 := Lib.hid (below_join HB.out b1 HB.out.size)
      have HK1 := Lib.hid (HK.out.on b1 (by omega))
      clear b1 x0 x1 x2 x3
      obtain ⟨x0, x1, x2, x3⟩ := HK1.out.cells
      go_wp2_with (fail)
      exact retTT rfl rfl rfl rfl ⟨rfl, HB1.out⟩
end Go.Proofs.Ytomfaknemjbjcaa
