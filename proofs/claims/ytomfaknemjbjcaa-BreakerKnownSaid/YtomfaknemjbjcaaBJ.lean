/-
  DERIVED. The reference's steady, Lasts, Cools, Bears.
-/
import Derived.Test.YtomfaknemjbjcaaBI
import Derived.Test.YtomfaknemjbjcaaBG
namespace Go.Proofs.Ytomfaknemjbjcaa
open Go.RowKit
set_option maxRecDepth 100000

theorem fltH_single (L S F h p : Int) : fltH L S F h [p] = if bOk L S F = true then (if ((decide (0 ≤ h) && decide (h ≤ S)) && wOk p) = true then 0 else 2) else 1 := by
  unfold fltH; rw [lsOk_single]
set_option maxHeartbeats 4000000 in
theorem r_steady (f L S F q p : Int) (r : Int) (hr : fltH L S F q [p] = r) (w : World) :
    Calls Try.prog 46 #[bkV f L S F, .int .i64 q, .int .i64 p] w fun e w' => e = .returned (.int .i64 r) ∧ Below w.heap.size w w' := by
  obtain ⟨W, hW⟩ : ∃ W, W = w.alloc (.cells #[.int .i64 f, .int .i64 L, .int .i64 S, .int .i64 F] 23) := ⟨_, rfl⟩
  have B0 : Below w.heap.size w W := by subst hW; exact (Below.refl _ _).alloc (Nat.le_refl _) _
  have HB := Lib.hid B0
  have HK := Lib.hid (show Bk W w.heap.size f L S F by subst hW; exact bk_new _ _ _ _ _)
  have hz : w.heap.size < W.heap.size := block_lt HK.out
  have HC := Lib.hid (fun (r1 : Bool) (h1 : bOk L S F = r1) => r_Valid f L S F r1 h1 W)
  unfold bkV
  unfold bkV at HC
  obtain ⟨x0, x1, x2, x3⟩ := HK.out.cells
  clear B0
  rw [fltH_single] at hr
  rcases h1 : bOk L S F with _ | _
  · rw [h1, if_neg (by decide)] at hr
    subst hr
    have H1 := Lib.hid h1
    clear h1
    go_enter Try.func46, Try.ntmps46
    go_wp2_with (fail)
    rw [← hW]
    clear hW
    go_at_call 17
    refine (HC.out _ H1.out).mono ?_
    rintro e w1 ⟨rfl, b1⟩
    have HB1 := Lib.hid (below_join HB.out b1 HB.out.size)
    clear b1 x0 x1 x2 x3
    go_wp2_with (fail)
    go_ret
    exact ⟨rfl, HB1.out⟩
  · rw [h1, if_pos rfl] at hr
    have H1 := Lib.hid h1
    clear h1
    have hc : (r = 0 ∧ 0 ≤ q ∧ q ≤ S ∧ 0 ≤ p ∧ p ≤ 100000000) ∨ (r = 2 ∧ q < 0) ∨ (r = 2 ∧ 0 ≤ q ∧ S < q) ∨ (r = 2 ∧ 0 ≤ q ∧ q ≤ S ∧ p < 0) ∨ (r = 2 ∧ 0 ≤ q ∧ q ≤ S ∧ 0 ≤ p ∧ 100000000 < p) := by
      by_cases h2 : ((decide (0 ≤ q) && decide (q ≤ S)) && wOk p) = true
      · rw [if_pos h2] at hr
        simp only [Bool.and_eq_true, decide_eq_true_eq, wOk_iff] at h2
        exact .inl ⟨hr.symm, h2.1.1, h2.1.2, h2.2.1, h2.2.2⟩
      · rw [if_neg h2] at hr
        simp only [Bool.and_eq_true, decide_eq_true_eq, wOk_iff] at h2
        omega
    clear hr
    rcases hc with ⟨rfl, k1, k2, k3, k4⟩ | ⟨rfl, k1⟩ | ⟨rfl, k1, k2⟩ | ⟨rfl, k1, k2, k3⟩ | ⟨rfl, k1, k2, k3, k4⟩
    all_goals
      go_enter Try.func46, Try.ntmps46
      go_wp2_with (fail)
      rw [← hW]
      clear hW
      go_at_call 17
      refine (HC.out _ H1.out).mono ?_
      rintro e w1 ⟨rfl, b1⟩
      have HB1 := Lib.hid (below_join HB.out b1 HB.out.size)
      have HK1 := Lib.hid (HK.out.on b1 (by omega))
      clear b1 x0 x1 x2 x3
      obtain ⟨x0, x1, x2, x3⟩ := HK1.out.cells
      go_wp2_with (fail)
      go_ret
      exact ⟨rfl, HB1.out⟩

/-- In the reference's loops. -/
def LastsRel (w : World) (b c : Nat) (f L S F q p : Int) (n : Value) (wr : World) : Prop :=
  ∃ (k : Nat) (x : Int), n = .int .i64 (k : Int) ∧ Bk wr b f L S F ∧ St wr c x false ∧ Hid (x = q + (k : Int) * (p - L)) ∧ x ≤ S ∧ q ≤ x ∧ (k : Int) ≤ x - q ∧ Hid (k = 0 ∨ p ≤ F) ∧ Hid (Below w.heap.size w wr)
theorem st_kept {X : World} {b c : Nat} {f L S F : Int} (h : Bk X b f L S F) (hbc : b ≠ c) (x y : Value) : Bk ((X.setCell ⟨c, 0, none⟩ x).setCell ⟨c, 1, none⟩ y) b f L S F := by
  unfold Bk at *
  rw [Below.heap_setCell _ ⟨c, 1, none⟩ y b (by exact hbc), Below.heap_setCell _ ⟨c, 0, none⟩ x b (by exact hbc)]
  exact h
theorem size_store2 (X : World) (c : Nat) (x y : Value) : ((X.setCell ⟨c, 0, none⟩ x).setCell ⟨c, 1, none⟩ y).heap.size = X.heap.size := by simp [World.setCell]
set_option maxHeartbeats 8000000 in
theorem r_Lasts (f L S F q p : Int) (y r : Int) (hr : lastsP L S F q p = (y, r)) (w : World) :
    Calls Try.prog 23 #[bkV f L S F, .int .i64 q, .int .i64 p] w fun e w' => e = .returned (.tuple #[.int .i64 y, .int .i64 r]) ∧ Below w.heap.size w w' := by
  obtain ⟨W, hW⟩ : ∃ W, W = w.alloc (.cells #[.int .i64 f, .int .i64 L, .int .i64 S, .int .i64 F] 23) := ⟨_, rfl⟩
  have B0 : Below w.heap.size w W := by subst hW; exact (Below.refl _ _).alloc (Nat.le_refl _) _
  have HB := Lib.hid B0
  have HK := Lib.hid (show Bk W w.heap.size f L S F by subst hW; exact bk_new _ _ _ _ _)
  have hz : w.heap.size < W.heap.size := block_lt HK.out
  have HC := Lib.hid (fun (r1 : Int) (h1 : fltH L S F q [p] = r1) => r_steady f L S F q p r1 h1 W)
  unfold bkV
  unfold bkV at HC
  obtain ⟨x0, x1, x2, x3⟩ := HK.out.cells
  clear B0
  unfold lastsP at hr
  by_cases h1 : fltH L S F q [p] = 0
  · rw [if_pos h1] at hr
    injection hr with hy hr
    subst hr
    obtain ⟨g1, g2, g3, g5⟩ := fltH_zero h1
    have g4 := bOk_iff.1 g1
    have g6 := lsOk_one g5
    have H1 := Lib.hid h1
    clear h1 g1 g5
    by_cases hpL : p ≤ L
    · obtain rfl : y = -1 := by rw [← hy]; unfold lst; rw [if_pos hpL]
      clear hy
      go_enter Try.func23, Try.ntmps23
      go_wp2_with (fail)
      rw [← hW]
      clear hW
      go_at_call 46
      refine (HC.out _ H1.out).mono ?_
      rintro e w1 ⟨rfl, b1⟩
      have HB1 := Lib.hid (below_join HB.out b1 HB.out.size)
      have HK1 := Lib.hid (HK.out.on b1 hz)
      clear b1 x0 x1 x2 x3
      obtain ⟨x0, x1, x2, x3⟩ := HK1.out.cells
      go_wp2_with (fail)
      exact retTT rfl rfl rfl rfl ⟨rfl, HB1.out⟩
    · have HY := Lib.hid hy
      clear hy
      go_enter Try.func23, Try.ntmps23
      go_wp2_with (fail)
      rw [← hW]
      clear hW
      go_at_call 46
      refine (HC.out _ H1.out).mono ?_
      rintro e w1 ⟨rfl, b1⟩
      have HB1 := Lib.hid (below_join HB.out b1 HB.out.size)
      have HK1 := Lib.hid (HK.out.on b1 hz)
      have hz1 := Nat.lt_of_lt_of_le hz b1.size
      clear b1 x0 x1 x2 x3
      obtain ⟨x0, x1, x2, x3⟩ := HK1.out.cells
      go_wp2_with (fail)
      have hpk : 1 ≤ p - L := by omega
      go_loopw [10] (fun n wr => LastsRel w w.heap.size w1.heap.size f L S F q p n wr) (fun n wr => (S - (q + intOf n * (p - L))).toNat)
      case atStart => exact ⟨0, q, rfl, old_heap _ HK1.out, st_new _ _ _, Lib.hid (by simp), g3, Int.le_refl _, by simp, Lib.hid (.inl rfl), Lib.hid (HB1.out.alloc HB1.out.size _)⟩
      case round =>
        obtain ⟨k, x, rfl, hK, hS, hx, hxS, hqx, hkx, hF, hBW⟩ := hrel
        have HKr := Lib.hid hK
        have HSr := Lib.hid hS
        have hzr : w1.heap.size < wr.heap.size := block_lt hS
        obtain ⟨z, hzz⟩ : ∃ z, z = nx L S F (x, false) p := ⟨_, rfl⟩
        have HN := Lib.hid (fun (X : World) => r_after f L S F x p false ⟨g4.1, g4.2.1, by omega, by omega, g6.1, g6.2⟩ z hzz.symm X)
        unfold bkV stV at HN
        have hst : (k : Int) * (p - L) + (p - L) = ((k : Int) + 1) * (p - L) := by rw [Int.add_mul]; omega
        obtain ⟨q0, q1, q2, q3⟩ := hK.cells
        obtain ⟨y0, y1⟩ := hS.cells
        clear x0 x1 x2 x3 hK hS
        by_cases ht : F < p ∨ S < x + (p - L)
        · obtain ⟨z1, z2⟩ := z
          obtain rfl : z2 = true := by
            have := nx_trips (L := L) (S := S) (F := F) (h := q) (w := p) (k : Int) (by rcases ht with h | h; exact .inl h; right; have := hx.out; omega)
            rw [← hx.out, ← hzz] at this; exact this
          have HY2 := Lib.hid (show (k : Int) = y by
            rw [← HY.out]
            by_cases hp : F < p
            · rcases hF.out with h | h
              · subst h; unfold lst; rw [if_neg (by omega), if_pos hp]; rfl
              · omega
            · rcases ht with h | h
              · omega
              · exact (lst_steps (by omega) (by omega) (by have := hx.out; omega) (by have := hx.out; omega)).symm)
          clear hzz ht hst
          go_wp2_with (fail)
          go_at_call 41
          refine (HN.out _).mono ?_
          rintro e w2 ⟨rfl, b2⟩
          have HB2 := Lib.hid (below_join hBW.out b2 (by have := hBW.out.size; exact this))
          have HS2 := Lib.hid (HSr.out.on b2 hzr)
          have hz2 := Nat.lt_of_lt_of_le hzr b2.size
          obtain ⟨f0, f1⟩ := HS2.out.frozen
          clear b2 q0 q1 q2 q3 y0 y1
          obtain ⟨y0, y1⟩ := HS2.out.cells
          go_wp2_with (fail)
          exact retTT rfl rfl rfl rfl ⟨(show Ending.returned (.tuple #[.int .i64 (k : Int), .int .i64 0]) = .returned (.tuple #[.int .i64 y, .int .i64 0]) by rw [HY2.out]), below_store2 HB2.out (by omega) _ _⟩
        · have e := nx_rise (L := L) (S := S) (F := F) (h := q) (w := p) g4.2.2.2.1 g2 (by omega) (by omega) (k : Int) (by omega) (by have := hx.out; omega)
          rw [← hx.out, ← hzz] at e
          have HX2 := Lib.hid (show x + (p - L) = q + ((k : Int) + 1) * (p - L) by have := hx.out; omega)
          rw [← HX2.out] at e
          subst e
          clear hzz
          have hpF : p ≤ F := by omega
          have hle : x + (p - L) ≤ S := by omega
          clear ht
          go_wp2_with (fail)
          go_at_call 41
          refine (HN.out _).mono ?_
          rintro e w2 ⟨rfl, b2⟩
          have HB2 := Lib.hid (below_join hBW.out b2 (by have := hBW.out.size; exact this))
          have HK2 := Lib.hid (HKr.out.on b2 (by omega))
          have HS2 := Lib.hid (HSr.out.on b2 hzr)
          have hz2 := Nat.lt_of_lt_of_le hzr b2.size
          obtain ⟨f0, f1⟩ := HS2.out.frozen
          clear b2 q0 q1 q2 q3 y0 y1
          obtain ⟨y0, y1⟩ := HS2.out.cells
          go_wp2_with (fail)
          go_roundw
          case rel => exact ⟨k + 1, x + (p - L), by go_num, st_kept HK2.out (by omega) _ _, row_store2 HS2.out _ _, Lib.hid (by rw [HX2.out]; push_cast; rfl), hle, by omega, by push_cast; omega, Lib.hid (.inr hpF), Lib.hid (below_store2 HB2.out (by omega) _ _)⟩
          case measure =>
            simp only [intOf]
            have := hx.out
            omega
  · rw [if_neg h1] at hr
    injection hr with hy hr
    subst hy
    have H1 := Lib.hid hr
    have hne : (r == 0) = false := by rw [beq_eq_false_iff_ne, ← hr]; exact h1
    clear h1 hr
    go_enter Try.func23, Try.ntmps23
    go_wp2_with (fail)
    rw [← hW]
    clear hW
    go_at_call 46
    refine (HC.out _ H1.out).mono ?_
    rintro e w1 ⟨rfl, b1⟩
    have HB1 := Lib.hid (below_join HB.out b1 HB.out.size)
    clear b1 x0 x1 x2 x3
    go_wp2_with (fail)
    exact retTT rfl rfl rfl rfl ⟨rfl, HB1.out⟩
end Go.Proofs.Ytomfaknemjbjcaa
