/-
  DERIVED. The reference's Cools.
-/
import Derived.Test.YtomfaknemjbjcaaBJ
namespace Go.Proofs.Ytomfaknemjbjcaa
open Go.RowKit
set_option maxRecDepth 100000

def CoolsRel (w : World) (b c : Nat) (f L S F q p : Int) (n : Value) (wr : World) : Prop :=
  ∃ (k : Nat) (x : Int), n = .int .i64 (k : Int) ∧ Bk wr b f L S F ∧ St wr c x false ∧ 0 ≤ x ∧ x ≤ S ∧ (k : Int) ≤ q - x ∧ Hid (x = max 0 (q - (k : Int) * (L - p))) ∧ Hid (k = 0 ∨ ((k : Int) - 1) * (L - p) < q) ∧ Hid (Below w.heap.size w wr)
set_option maxHeartbeats 8000000 in
theorem r_Cools (f L S F q p : Int) (y r : Int) (hr : coolsP L S F q p = (y, r)) (w : World) :
    Calls Try.prog 25 #[bkV f L S F, .int .i64 q, .int .i64 p] w fun e w' => e = .returned (.tuple #[.int .i64 y, .int .i64 r]) ∧ Below w.heap.size w w' := by
  obtain ⟨W, hW⟩ : ∃ W, W = w.alloc (.cells #[.int .i64 f, .int .i64 L, .int .i64 S, .int .i64 F] 23) := ⟨_, rfl⟩
  have B0 : Below w.heap.size w W := by subst hW; exact (Below.refl _ _).alloc (Nat.le_refl _) _
  have HB := Lib.hid B0
  have HK := Lib.hid (show Bk W w.heap.size f L S F by subst hW; exact bk_new _ _ _ _ _)
  have hz : w.heap.size < W.heap.size := block_lt HK.out
  have HC := Lib.hid (fun (r1 : Int) (h1 : fltH L S F q [p] = r1) => r_steady f L S F q p r1 h1 W)
  unfold bkV
  unfold bkV at HC
  obtain ⟨x0, x1, x2, x3⟩ := HK.out.cells
  clear B0
  unfold coolsP at hr
  by_cases h1 : fltH L S F q [p] = 0
  · rw [if_pos h1] at hr
    injection hr with hy hr
    subst hr
    obtain ⟨g1, g2, g3, g5⟩ := fltH_zero h1
    have g4 := bOk_iff.1 g1
    have g6 := lsOk_one g5
    have H1 := Lib.hid h1
    clear h1 g1 g5
    by_cases hpL : 0 < q ∧ L ≤ p
    · obtain ⟨hq0, hpL⟩ := hpL
      obtain rfl : y = -1 := by rw [← hy]; unfold col; rw [if_neg (by omega), if_pos hpL]
      have d1 : decide (0 < q) = true := decide_eq_true hq0
      have d2 : decide (L ≤ p) = true := decide_eq_true hpL
      clear hy hq0 hpL
      go_enter Try.func25, Try.ntmps25
      go_wp2_with (fail)
      rw [← hW]
      clear hW
      go_at_call 46
      refine (HC.out _ H1.out).mono ?_
      rintro e w1 ⟨rfl, b1⟩
      have HB1 := Lib.hid (below_join HB.out b1 HB.out.size)
      have HK1 := Lib.hid (HK.out.on b1 hz)
      clear b1 x0 x1 x2 x3
      obtain ⟨x0, x1, x2, x3⟩ := HK1.out.cells
      go_wp2_with (fail)
      exact retTT rfl rfl rfl rfl ⟨rfl, HB1.out⟩
    · have HY := Lib.hid hy
      have hc : (q ≤ 0 ∧ decide (0 < q) = false) ∨ (decide (0 < q) = true ∧ decide (L ≤ p) = false) := by
        by_cases h : 0 < q
        · exact .inr ⟨decide_eq_true h, decide_eq_false (by omega)⟩
        · exact .inl ⟨by omega, decide_eq_false h⟩
      have hpq : q = 0 ∨ p < L := by omega
      have HPL := Lib.hid hpq
      clear hy hpL hpq
      rcases hc with ⟨hc, hc2⟩ | ⟨hc, hc2⟩
      all_goals
       go_enter Try.func25, Try.ntmps25
       go_wp2_with (fail)
       rw [← hW]
       clear hW
       go_at_call 46
       refine (HC.out _ H1.out).mono ?_
       rintro e w1 ⟨rfl, b1⟩
       have HB1 := Lib.hid (below_join HB.out b1 HB.out.size)
       have HK1 := Lib.hid (HK.out.on b1 hz)
       have hz1 := Nat.lt_of_lt_of_le hz b1.size
       clear b1 x0 x1 x2 x3
       obtain ⟨x0, x1, x2, x3⟩ := HK1.out.cells
       go_wp2_with (fail)
       go_loopw [10] (fun n wr => CoolsRel w w.heap.size w1.heap.size f L S F q p n wr) (fun n wr => (q - intOf n * (L - p)).toNat)
       case atStart => exact ⟨0, q, rfl, old_heap _ HK1.out, st_new _ _ _, g2, g3, by simp, Lib.hid (by simp; omega), Lib.hid (.inl rfl), Lib.hid (HB1.out.alloc HB1.out.size _)⟩
       case round =>
        clear hc hc2
        obtain ⟨k, x, rfl, hK, hS, hx0, hxS, hkx, hx, hkq, hBW⟩ := hrel
        have HKr := Lib.hid hK
        have HSr := Lib.hid hS
        have hzr : w1.heap.size < wr.heap.size := block_lt hS
        obtain ⟨q0, q1, q2, q3⟩ := hK.cells
        obtain ⟨y0, y1⟩ := hS.cells
        clear x0 x1 x2 x3 hK hS
        rcases Int.lt_or_le 0 x with hxp | hxp
        · have hq0 : 0 < q := by omega
          have hpL : p < L := by have := HPL.out; omega
          obtain ⟨x', hx'⟩ : ∃ x', x' = max 0 (x + p - L) := ⟨_, rfl⟩
          have hst : (k : Int) * (L - p) + (L - p) = ((k : Int) + 1) * (L - p) := by rw [Int.add_mul]; omega
          have HN := Lib.hid (fun (X : World) => r_after f L S F x p false ⟨g4.1, g4.2.1, by omega, by omega, g6.1, g6.2⟩ (x', false) (by
            rw [nx_live, ← hx', decide_eq_false (by omega), decide_eq_false (by omega), show min x' 100000000 = x' by omega]; rfl) X)
          unfold bkV stV at HN
          have HX := Lib.hid (show x' = max 0 (q - ((k : Int) + 1) * (L - p)) by rw [hx', ← hst]; have := hx.out; omega)
          have HKQ := Lib.hid (show (k : Int) * (L - p) < q by have := hx.out; omega)
          have hx'0 : 0 ≤ x' := by omega
          have hx'S : x' ≤ S := by omega
          have HMS := Lib.hid (show (q - ((k : Int) + 1) * (L - p)).toNat < (q - (k : Int) * (L - p)).toNat by have := hx.out; omega)
          have hk1 : (k : Int) + 1 ≤ 1000000 := by omega
          have hx'x : x' ≤ x - 1 := by omega
          clear hx' hst
          go_wp2_with (fail)
          go_at_call 41
          refine (HN.out _).mono ?_
          rintro e w2 ⟨rfl, b2⟩
          have HB2 := Lib.hid (below_join hBW.out b2 (by have := hBW.out.size; exact this))
          have HK2 := Lib.hid (HKr.out.on b2 (by omega))
          have HS2 := Lib.hid (HSr.out.on b2 hzr)
          have hz2 := Nat.lt_of_lt_of_le hzr b2.size
          obtain ⟨f0, f1⟩ := HS2.out.frozen
          clear b2 q0 q1 q2 q3 y0 y1
          obtain ⟨y0, y1⟩ := HS2.out.cells
          go_wp2_with (fail)
          go_roundw
          case rel => exact ⟨k + 1, x', by go_num, st_kept HK2.out (by omega) _ _, row_store2 HS2.out _ _, hx'0, hx'S, by push_cast; omega, Lib.hid (by rw [HX.out]; push_cast; rfl), Lib.hid (.inr (by have := HKQ.out; push_cast; rw [show (k : Int) + 1 - 1 = k by omega]; exact this)), Lib.hid (below_store2 HB2.out (by omega) _ _)⟩
          case measure => simpa only [intOf] using HMS.out
        · have HY2 := Lib.hid (show (k : Int) = y by
            rw [← HY.out]
            by_cases hq : q = 0
            · obtain rfl : k = 0 := by omega
              rw [hq]; rfl
            · rcases hkq.out with h | h
              · exfalso
                have hx1 := hx.out
                rw [h, show ((0 : Nat) : Int) * (L - p) = 0 by simp] at hx1
                omega
              · exact (col_steps (by have := HPL.out; omega) (by omega) h (by have := hx.out; omega)).symm)
          go_wp2_with (fail)
          exact retTT rfl rfl rfl rfl ⟨(show Ending.returned (.tuple #[.int .i64 (k : Int), .int .i64 0]) = .returned (.tuple #[.int .i64 y, .int .i64 0]) by rw [HY2.out]), hBW.out⟩
  · rw [if_neg h1] at hr
    injection hr with hy hr
    subst hy
    have H1 := Lib.hid hr
    have hne : (r == 0) = false := by rw [beq_eq_false_iff_ne, ← hr]; exact h1
    clear h1 hr
    go_enter Try.func25, Try.ntmps25
    go_wp2_with (fail)
    rw [← hW]
    clear hW
    go_at_call 46
    refine (HC.out _ H1.out).mono ?_
    rintro e w1 ⟨rfl, b1⟩
    have HB1 := Lib.hid (below_join HB.out b1 HB.out.size)
    clear b1 x0 x1 x2 x3
    go_wp2_with (fail)
    exact retTT rfl rfl rfl rfl ⟨rfl, HB1.out⟩
end Go.Proofs.Ytomfaknemjbjcaa
