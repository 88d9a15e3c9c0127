/-
  DERIVED. The reference's Valid, ValidState, after, Next, steady. (Written by gen/genBI.py.)
-/
import Derived.Test.YtomfaknemjbjcaaBF
namespace Go.Proofs.Ytomfaknemjbjcaa
open Go.RowKit
set_option maxRecDepth 100000

set_option maxHeartbeats 4000000 in
theorem r_Valid (f L S F : Int) (r : Bool) (hr : bOk L S F = r) (w : World) :
    Calls Try.prog 17 #[bkV f L S F] w fun e w' => e = .returned (.bool r) ∧ Below w.heap.size w w' := by
  unfold bkV
  have HR := Lib.hid (show (decide (0 ≤ L) && (decide (L ≤ 1000000) && (decide (0 ≤ S) && (decide (S ≤ 1000000) && (decide (L ≤ F) && decide (F ≤ 1000000)))))) = r from hr)
  clear hr
  rcases h0 : decide (0 ≤ L) with _ | _
  · obtain rfl : false = r := by rw [← HR.out, h0]; rfl
    go_enter Try.func17, Try.ntmps17
    go_wp2
    go_ret
    exact ⟨rfl, (Below.refl _ _).alloc (Nat.le_refl _) _⟩
  · skip
    rcases h1 : decide (L ≤ 1000000) with _ | _
    · obtain rfl : false = r := by rw [← HR.out, h0, h1]; rfl
      go_enter Try.func17, Try.ntmps17
      go_wp2
      go_ret
      exact ⟨rfl, (Below.refl _ _).alloc (Nat.le_refl _) _⟩
    · skip
      rcases h2 : decide (0 ≤ S) with _ | _
      · obtain rfl : false = r := by rw [← HR.out, h0, h1, h2]; rfl
        go_enter Try.func17, Try.ntmps17
        go_wp2
        go_ret
        exact ⟨rfl, (Below.refl _ _).alloc (Nat.le_refl _) _⟩
      · skip
        rcases h3 : decide (S ≤ 1000000) with _ | _
        · obtain rfl : false = r := by rw [← HR.out, h0, h1, h2, h3]; rfl
          go_enter Try.func17, Try.ntmps17
          go_wp2
          go_ret
          exact ⟨rfl, (Below.refl _ _).alloc (Nat.le_refl _) _⟩
        · skip
          rcases h4 : decide (L ≤ F) with _ | _
          · obtain rfl : false = r := by rw [← HR.out, h0, h1, h2, h3, h4]; rfl
            go_enter Try.func17, Try.ntmps17
            go_wp2
            go_ret
            exact ⟨rfl, (Below.refl _ _).alloc (Nat.le_refl _) _⟩
          · obtain rfl : decide (F ≤ 1000000) = r := by rw [← HR.out, h0, h1, h2, h3, h4]; rfl
            go_enter Try.func17, Try.ntmps17
            go_wp2
            go_ret
            exact ⟨rfl, (Below.refl _ _).alloc (Nat.le_refl _) _⟩
set_option maxHeartbeats 4000000 in
theorem r_ValidState (f L S F h : Int) (t : Bool) (r : Bool) (hr : sOk S h t = r) (w : World) :
    Calls Try.prog 40 #[bkV f L S F, stV (h, t)] w fun e w' => e = .returned (.bool r) ∧ Below w.heap.size w w' := by
  unfold bkV stV
  have HR := Lib.hid (show (decide (0 ≤ h) && (decide (h ≤ 100000000) && (t || decide (h ≤ S)))) = r from hr)
  clear hr
  rcases h0 : decide (0 ≤ h) with _ | _
  · obtain rfl : false = r := by rw [← HR.out, h0]; rfl
    go_enter Try.func40, Try.ntmps40
    go_wp2
    go_ret
    exact ⟨rfl, below_a2 _ _ _⟩
  · rcases h1 : decide (h ≤ 100000000) with _ | _
    · obtain rfl : false = r := by rw [← HR.out, h0, h1]; rfl
      go_enter Try.func40, Try.ntmps40
      go_wp2
      go_ret
      exact ⟨rfl, below_a2 _ _ _⟩
    · cases t
      · obtain rfl : decide (h ≤ S) = r := by rw [← HR.out, h0, h1]; rfl
        go_enter Try.func40, Try.ntmps40
        go_wp2
        go_ret
        exact ⟨rfl, below_a2 _ _ _⟩
      · obtain rfl : true = r := by rw [← HR.out, h0, h1]; rfl
        go_enter Try.func40, Try.ntmps40
        go_wp2
        go_ret
        exact ⟨rfl, below_a2 _ _ _⟩
set_option maxHeartbeats 4000000 in
theorem r_after (f L S F q p : Int) (t : Bool) (hb : 0 ≤ L ∧ L ≤ 1000000 ∧ 0 ≤ q ∧ q ≤ 100000000 ∧ 0 ≤ p ∧ p ≤ 100000000) (y : Int × Bool) (hy : nx L S F (q, t) p = y) (w : World) :
    Calls Try.prog 41 #[bkV f L S F, stV (q, t), .int .i64 p] w fun e w' => e = .returned (stV y) ∧ Below w.heap.size w w' := by
  unfold bkV stV
  obtain ⟨b1, b2, b3, b4, b5, b6⟩ := hb
  cases t
  · rw [nx_live] at hy
    rcases h1 : decide (F < p) with _ | _
    · rw [h1, Bool.false_or] at hy
      subst hy
      go_enter Try.func41, Try.ntmps41
      go_wp2
      all_goals exact ret2 (b := w.heap.size + 1 + 1) rfl rfl rfl (row_new4 _ _ _ (by simp)) ⟨ret_eq (by omega) (decide_eq_decide.2 (by omega)), below_a3 _ _ _ _⟩
    · rw [h1, Bool.true_or] at hy
      subst hy
      go_enter Try.func41, Try.ntmps41
      go_wp2
      all_goals exact ret2 (b := w.heap.size + 1 + 1) rfl rfl rfl (row_new4 _ _ _ (by simp)) ⟨ret_eq (by omega) rfl, below_a3 _ _ _ _⟩
  · obtain rfl : (q, true) = y := hy
    go_enter Try.func41, Try.ntmps41
    go_wp2
    refine ret2 (b := w.heap.size + 1 + 1) rfl rfl rfl (row_new4 _ _ _ (by simp)) ⟨?_, below_a3 _ _ _ _⟩
    rfl
/-- The reference's errors. -/
def refS (L S F h : Int) (t : Bool) (p : Int) : Int := if (bOk L S F && sOk S h t) = true then (if wOk p = true then 0 else 2) else 1
theorem tOk_sOk {S h : Int} {t : Bool} (hS : S ≤ 1000000) : tOk S h t = sOk S h t := by
  unfold tOk sOk
  cases t
  · rw [if_neg (by decide), Bool.false_or]
    by_cases h1 : 0 ≤ h
    · rw [decide_eq_true h1, Bool.true_and, Bool.true_and]
      by_cases h2 : h ≤ S
      · rw [decide_eq_true h2, decide_eq_true (show h ≤ 100000000 by omega)]; rfl
      · rw [decide_eq_false h2, Bool.and_false]
    · rw [decide_eq_false h1]; rfl
  · rw [if_pos rfl, Bool.true_or, Bool.and_true]
theorem lsOk_single (p : Int) : lsOk [p] = wOk p := by simp [lsOk]
theorem refS_flt (L S F h : Int) (t : Bool) (p : Int) : refS L S F h t p = fltS L S F h t [p] := by
  unfold refS fltS
  rw [lsOk_single]
  rcases hb : bOk L S F with _ | _
  · rfl
  · rw [tOk_sOk (by have := bOk_iff.1 hb; omega)]
set_option maxHeartbeats 4000000 in
theorem r_Next (f L S F q p : Int) (t : Bool) (y : Int × Bool) (r : Int) (hr : nxt L S F q t p = (y, r)) (w : World) :
    Calls Try.prog 12 #[bkV f L S F, stV (q, t), .int .i64 p] w fun e w' => e = .returned (.tuple #[stV y, .int .i64 r]) ∧ Below w.heap.size w w' := by
  obtain ⟨W, hW⟩ : ∃ W, W = ((w.alloc (.cells #[.int .i64 f, .int .i64 L, .int .i64 S, .int .i64 F] 23)).alloc (.cells #[.int .i64 q, .bool t] 25)).alloc (.cells #[.int .i64 0, .bool false] 25) := ⟨_, rfl⟩
  have B0 : Below w.heap.size w W := by subst hW; exact below_a3 _ _ _ _
  have HB := Lib.hid B0
  have HK := Lib.hid (show Bk W w.heap.size f L S F by subst hW; exact old_heap _ (old_heap _ (bk_new _ _ _ _ _)))
  have HS := Lib.hid (show St W (w.heap.size + 1) q t by subst hW; exact old_heap _ (row_new4 _ _ _ (by simp)))
  have HZ := Lib.hid (show St W (w.heap.size + 1 + 1) 0 false by subst hW; exact row_new4 _ _ _ (by simp))
  have hz : w.heap.size + 1 + 1 < W.heap.size := block_lt HZ.out
  have HC := Lib.hid (fun (r1 : Bool) (h1 : bOk L S F = r1) => r_Valid f L S F r1 h1 W)
  have HV := Lib.hid (fun (X : World) (r1 : Bool) (h1 : sOk S q t = r1) => r_ValidState f L S F q t r1 h1 X)
  unfold bkV stV
  unfold bkV at HC
  unfold bkV stV at HV
  obtain ⟨x0, x1, x2, x3⟩ := HK.out.cells
  obtain ⟨y0, y1⟩ := HS.out.cells
  clear B0
  have hr2 : (if refS L S F q t p = 0 then (nx L S F (q, t) p, 0) else ((0, false), refS L S F q t p)) = (y, r) := by rw [refS_flt]; exact hr
  clear hr
  unfold refS at hr2
  rcases h1 : bOk L S F with _ | _
  · rw [h1, Bool.false_and] at hr2
    simp only [Bool.false_eq_true, if_false, if_neg (show ¬ ((1 : Int) = 0) by decide)] at hr2
    injection hr2 with hy hr
    subst hy hr
    have H1 := Lib.hid h1
    clear h1
    go_enter Try.func12, Try.ntmps12
    go_wp2_with (fail)
    rw [← hW]
    clear hW
    go_at_call 17
    refine (HC.out _ H1.out).mono ?_
    rintro e w1 ⟨rfl, b1⟩
    have HB1 := Lib.hid (below_join HB.out b1 HB.out.size)
    have HZ1 := Lib.hid (HZ.out.on b1 (by omega))
    obtain ⟨f0, f1⟩ := HZ1.out.frozen
    clear b1 x0 x1 x2 x3 y0 y1
    obtain ⟨y0, y1⟩ := HZ1.out.cells
    go_wp2_with (fail)
    exact ret2t (b := w.heap.size + 1 + 1) rfl rfl rfl rfl (row_store2 HZ1.out _ _) ⟨rfl, below_store2 HB1.out (by omega) _ _⟩
  · rw [h1, Bool.true_and] at hr2
    have g4 := bOk_iff.1 h1
    have H1 := Lib.hid h1
    clear h1
    rcases h2 : sOk S q t with _ | _
    · rw [h2] at hr2
      simp only [Bool.false_eq_true, if_false, if_neg (show ¬ ((1 : Int) = 0) by decide)] at hr2
      injection hr2 with hy hr
      subst hy hr
      have H2 := Lib.hid h2
      clear h2 g4
      go_enter Try.func12, Try.ntmps12
      go_wp2_with (fail)
      rw [← hW]
      clear hW
      go_at_call 17
      refine (HC.out _ H1.out).mono ?_
      rintro e w1 ⟨rfl, b1⟩
      have HB1 := Lib.hid (below_join HB.out b1 HB.out.size)
      have HK1 := Lib.hid (HK.out.on b1 (by omega))
      have HS1 := Lib.hid (HS.out.on b1 (by omega))
      have HZ1 := Lib.hid (HZ.out.on b1 (by omega))
      have hz1 := Nat.lt_of_lt_of_le hz b1.size
      clear b1 x0 x1 x2 x3 y0 y1
      obtain ⟨x0, x1, x2, x3⟩ := HK1.out.cells
      obtain ⟨y0, y1⟩ := HS1.out.cells
      go_wp2_with (fail)
      go_at_call 40
      refine (HV.out _ _ H2.out).mono ?_
      rintro e w2 ⟨rfl, b2⟩
      have HB2 := Lib.hid (below_join HB1.out b2 HB1.out.size)
      have HZ2 := Lib.hid (HZ1.out.on b2 hz1)
      obtain ⟨f0, f1⟩ := HZ2.out.frozen
      clear b2 x0 x1 x2 x3 y0 y1
      obtain ⟨y0, y1⟩ := HZ2.out.cells
      go_wp2_with (fail)
      exact ret2t (b := w.heap.size + 1 + 1) rfl rfl rfl rfl (row_store2 HZ2.out _ _) ⟨rfl, below_store2 HB2.out (by omega) _ _⟩
    · rw [h2] at hr2
      simp only [if_true] at hr2
      have H2 := Lib.hid h2
      have g5 := sOk_iff.1 h2
      clear h2
      by_cases h3 : wOk p = true
      · have g6 := wOk_iff.1 h3
        rw [if_pos h3, if_pos rfl] at hr2
        injection hr2 with hy hr
        subst hr
        have HN := Lib.hid (fun (X : World) => r_after f L S F q p t ⟨g4.1, g4.2.1, g5.1, g5.2.1, g6.1, g6.2⟩ y hy X)
        unfold bkV stV at HN
        obtain ⟨i1, i2⟩ := g6
        clear h3 hy g4 g5
        go_enter Try.func12, Try.ntmps12
        go_wp2_with (fail)
        rw [← hW]
        clear hW
        go_at_call 17
        refine (HC.out _ H1.out).mono ?_
        rintro e w1 ⟨rfl, b1⟩
        have HB1 := Lib.hid (below_join HB.out b1 HB.out.size)
        have HK1 := Lib.hid (HK.out.on b1 (by omega))
        have HS1 := Lib.hid (HS.out.on b1 (by omega))
        have HZ1 := Lib.hid (HZ.out.on b1 (by omega))
        have hz1 := Nat.lt_of_lt_of_le hz b1.size
        clear b1 x0 x1 x2 x3 y0 y1
        obtain ⟨x0, x1, x2, x3⟩ := HK1.out.cells
        obtain ⟨y0, y1⟩ := HS1.out.cells
        go_wp2_with (fail)
        go_at_call 40
        refine (HV.out _ _ H2.out).mono ?_
        rintro e w2 ⟨rfl, b2⟩
        have HB2 := Lib.hid (below_join HB1.out b2 HB1.out.size)
        have HK2 := Lib.hid (HK1.out.on b2 (by omega))
        have HS2 := Lib.hid (HS1.out.on b2 (by omega))
        have HZ2 := Lib.hid (HZ1.out.on b2 hz1)
        have hz2 := Nat.lt_of_lt_of_le hz1 b2.size
        clear b2 x0 x1 x2 x3 y0 y1
        obtain ⟨x0, x1, x2, x3⟩ := HK2.out.cells
        obtain ⟨y0, y1⟩ := HS2.out.cells
        go_wp2_with (fail)
        go_at_call 41
        refine (HN.out _).mono ?_
        rintro e w3 ⟨rfl, b3⟩
        have HB3 := Lib.hid (below_join HB2.out b3 HB2.out.size)
        have HZ3 := Lib.hid (HZ2.out.on b3 hz2)
        obtain ⟨f0, f1⟩ := HZ3.out.frozen
        clear b3 x0 x1 x2 x3 y0 y1
        obtain ⟨y0, y1⟩ := HZ3.out.cells
        go_wp2_with (fail)
        exact ret2t (b := w.heap.size + 1 + 1) rfl rfl rfl rfl (row_store2 HZ3.out _ _) ⟨rfl, below_store2 HB3.out (by omega) _ _⟩
      · rw [if_neg h3] at hr2
        simp only [if_neg (show ¬ ((2 : Int) = 0) by decide)] at hr2
        injection hr2 with hy hr
        subst hy hr
        have h3' : p < 0 ∨ (decide (p < 0) = false ∧ 100000000 < p) := by
          rw [wOk_iff] at h3
          by_cases h : p < 0
          · exact .inl h
          · exact .inr ⟨decide_eq_false h, by omega⟩
        clear h3 g4 g5
        rcases h3' with h3 | ⟨h3, h4⟩
        all_goals
          go_enter Try.func12, Try.ntmps12
          go_wp2_with (fail)
          rw [← hW]
          clear hW
          go_at_call 17
          refine (HC.out _ H1.out).mono ?_
          rintro e w1 ⟨rfl, b1⟩
          have HB1 := Lib.hid (below_join HB.out b1 HB.out.size)
          have HK1 := Lib.hid (HK.out.on b1 (by omega))
          have HS1 := Lib.hid (HS.out.on b1 (by omega))
          have HZ1 := Lib.hid (HZ.out.on b1 (by omega))
          have hz1 := Nat.lt_of_lt_of_le hz b1.size
          clear b1 x0 x1 x2 x3 y0 y1
          obtain ⟨x0, x1, x2, x3⟩ := HK1.out.cells
          obtain ⟨y0, y1⟩ := HS1.out.cells
          go_wp2_with (fail)
          go_at_call 40
          refine (HV.out _ _ H2.out).mono ?_
          rintro e w2 ⟨rfl, b2⟩
          have HB2 := Lib.hid (below_join HB1.out b2 HB1.out.size)
          have HZ2 := Lib.hid (HZ1.out.on b2 hz1)
          obtain ⟨f0, f1⟩ := HZ2.out.frozen
          clear b2 x0 x1 x2 x3 y0 y1
          obtain ⟨y0, y1⟩ := HZ2.out.cells
          go_wp2_with (fail)
          exact ret2t (b := w.heap.size + 1 + 1) rfl rfl rfl rfl (row_store2 HZ2.out _ _) ⟨rfl, below_store2 HB2.out (by omega) _ _⟩
end Go.Proofs.Ytomfaknemjbjcaa
