/-
  DERIVED. Lasts, Cools. (Written by gen/genBG.py.)
-/
import Derived.Test.YtomfaknemjbjcaaBF
namespace Go.Proofs.Ytomfaknemjbjcaa
open Go.RowKit
set_option maxRecDepth 100000

/-- What Lasts and Cools answer. -/
def lastsP (L S F h p : Int) : Int × Int := if fltH L S F h [p] = 0 then (lst L S F h p, 0) else (0, fltH L S F h [p])
def coolsP (L S F h p : Int) : Int × Int := if fltH L S F h [p] = 0 then (col L h p, 0) else (0, fltH L S F h [p])
set_option maxHeartbeats 4000000 in
theorem c_Lasts (f L S F q p : Int) (y r : Int) (hr : lastsP L S F q p = (y, r)) (w : World) :
    Calls Try.prog 22 #[bkV f L S F, .int .i64 q, .int .i64 p] w fun e w' => e = .returned (.tuple #[.int .i64 y, .int .i64 r]) ∧ Below w.heap.size w w' := by
  obtain ⟨W, hW⟩ : ∃ W, W = (w.alloc (.cells #[.int .i64 f, .int .i64 L, .int .i64 S, .int .i64 F] 23)).alloc (.cells #[.int .i64 p] 3) := ⟨_, rfl⟩
  have B0 : Below w.heap.size w W := by subst hW; exact below_a2 _ _ _
  have HB := Lib.hid B0
  have HK := Lib.hid (show Bk W w.heap.size f L S F by subst hW; exact old_heap _ (bk_new _ _ _ _ _))
  have hz : w.heap.size < W.heap.size := block_lt HK.out
  have HI := Lib.hid (show IntSl W (.slice (some ⟨w.heap.size + 1, 0, none⟩) 1 1) [p] by
    subst hW
    have := intSl_one (w.alloc (.cells #[.int .i64 f, .int .i64 L, .int .i64 S, .int .i64 F] 23)) p
    simpa only [World.size_alloc] using this)
  have HC := Lib.hid (fun (r1 : Int) (h1 : fltH L S F q [p] = r1) => c_faultOfHeat f L S F q [p] r1 h1 _ W HI.out)
  unfold bkV
  unfold bkV at HC
  obtain ⟨x0, x1, x2, x3⟩ := HK.out.cells
  clear B0
  unfold lastsP at hr
  by_cases h1 : fltH L S F q [p] = 0
  · rw [if_pos h1] at hr
    injection hr with hy hr
    subst hr
    obtain ⟨g1, g2, g3, g5⟩ := fltH_zero h1
    have g4 := bOk_iff.1 g1
    have HN := Lib.hid (fun (X : World) => c_lasting f L S F q p ⟨g4.1, g4.2.1, g2, g3, g4.2.2.2.1, (lsOk_one g5).1, (lsOk_one g5).2⟩ y hy X)
    unfold bkV at HN
    have H1 := Lib.hid h1
    clear h1 g1 g2 g3 g4 g5 hy
    go_enter Try.func22, Try.ntmps22
    go_wp2_with (fail)
    rw [← hW]
    clear hW
    go_at_call 44
    refine (HC.out _ H1.out).mono ?_
    rintro e w1 ⟨rfl, b1⟩
    have HB1 := Lib.hid (below_join HB.out b1 HB.out.size)
    have HK1 := Lib.hid (HK.out.on b1 hz)
    clear b1 x0 x1 x2 x3
    obtain ⟨x0, x1, x2, x3⟩ := HK1.out.cells
    go_wp2_with (fail)
    go_at_call 45
    refine (HN.out _).mono ?_
    rintro e w2 ⟨rfl, b2⟩
    have HB2 := Lib.hid (below_join HB1.out b2 HB1.out.size)
    clear b2 x0 x1 x2 x3
    go_wp2_with (fail)
    exact retTT rfl rfl rfl rfl ⟨rfl, HB2.out⟩
  · rw [if_neg h1] at hr
    injection hr with hy hr
    subst hy
    have H1 := Lib.hid hr
    have hne : (r == 0) = false := by rw [beq_eq_false_iff_ne, ← hr]; exact h1
    clear h1 hr
    go_enter Try.func22, Try.ntmps22
    go_wp2_with (fail)
    rw [← hW]
    clear hW
    go_at_call 44
    refine (HC.out _ H1.out).mono ?_
    rintro e w1 ⟨rfl, b1⟩
    have HB1 := Lib.hid (below_join HB.out b1 HB.out.size)
    clear b1 x0 x1 x2 x3
    go_wp2_with (fail)
    exact retTT rfl rfl rfl rfl ⟨rfl, HB1.out⟩
set_option maxHeartbeats 4000000 in
theorem c_Cools (f L S F q p : Int) (y r : Int) (hr : coolsP L S F q p = (y, r)) (w : World) :
    Calls Try.prog 24 #[bkV f L S F, .int .i64 q, .int .i64 p] w fun e w' => e = .returned (.tuple #[.int .i64 y, .int .i64 r]) ∧ Below w.heap.size w w' := by
  obtain ⟨W, hW⟩ : ∃ W, W = (w.alloc (.cells #[.int .i64 f, .int .i64 L, .int .i64 S, .int .i64 F] 23)).alloc (.cells #[.int .i64 p] 3) := ⟨_, rfl⟩
  have B0 : Below w.heap.size w W := by subst hW; exact below_a2 _ _ _
  have HB := Lib.hid B0
  have HK := Lib.hid (show Bk W w.heap.size f L S F by subst hW; exact old_heap _ (bk_new _ _ _ _ _))
  have hz : w.heap.size < W.heap.size := block_lt HK.out
  have HI := Lib.hid (show IntSl W (.slice (some ⟨w.heap.size + 1, 0, none⟩) 1 1) [p] by
    subst hW
    have := intSl_one (w.alloc (.cells #[.int .i64 f, .int .i64 L, .int .i64 S, .int .i64 F] 23)) p
    simpa only [World.size_alloc] using this)
  have HC := Lib.hid (fun (r1 : Int) (h1 : fltH L S F q [p] = r1) => c_faultOfHeat f L S F q [p] r1 h1 _ W HI.out)
  unfold bkV
  unfold bkV at HC
  obtain ⟨x0, x1, x2, x3⟩ := HK.out.cells
  clear B0
  unfold coolsP at hr
  by_cases h1 : fltH L S F q [p] = 0
  · rw [if_pos h1] at hr
    injection hr with hy hr
    subst hr
    obtain ⟨g1, g2, g3, g5⟩ := fltH_zero h1
    have g4 := bOk_iff.1 g1
    have HN := Lib.hid (fun (X : World) => c_cooling f L S F q p ⟨g4.1, g4.2.1, g2, Int.le_trans g3 g4.2.2.2.1, (lsOk_one g5).1, (lsOk_one g5).2⟩ y hy X)
    unfold bkV at HN
    have H1 := Lib.hid h1
    clear h1 g1 g2 g3 g4 g5 hy
    go_enter Try.func24, Try.ntmps24
    go_wp2_with (fail)
    rw [← hW]
    clear hW
    go_at_call 44
    refine (HC.out _ H1.out).mono ?_
    rintro e w1 ⟨rfl, b1⟩
    have HB1 := Lib.hid (below_join HB.out b1 HB.out.size)
    have HK1 := Lib.hid (HK.out.on b1 hz)
    clear b1 x0 x1 x2 x3
    obtain ⟨x0, x1, x2, x3⟩ := HK1.out.cells
    go_wp2_with (fail)
    go_at_call 47
    refine (HN.out _).mono ?_
    rintro e w2 ⟨rfl, b2⟩
    have HB2 := Lib.hid (below_join HB1.out b2 HB1.out.size)
    clear b2 x0 x1 x2 x3
    go_wp2_with (fail)
    exact retTT rfl rfl rfl rfl ⟨rfl, HB2.out⟩
  · rw [if_neg h1] at hr
    injection hr with hy hr
    subst hy
    have H1 := Lib.hid hr
    have hne : (r == 0) = false := by rw [beq_eq_false_iff_ne, ← hr]; exact h1
    clear h1 hr
    go_enter Try.func24, Try.ntmps24
    go_wp2_with (fail)
    rw [← hW]
    clear hW
    go_at_call 44
    refine (HC.out _ H1.out).mono ?_
    rintro e w1 ⟨rfl, b1⟩
    have HB1 := Lib.hid (below_join HB.out b1 HB.out.size)
    clear b1 x0 x1 x2 x3
    go_wp2_with (fail)
    exact retTT rfl rfl rfl rfl ⟨rfl, HB1.out⟩
end Go.Proofs.Ytomfaknemjbjcaa
