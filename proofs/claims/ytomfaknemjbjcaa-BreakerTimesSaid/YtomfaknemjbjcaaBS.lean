/-
  DERIVED. The laws BreakerTimes and BreakerGalois. (Written by gen/genBS.py.)
-/
import Derived.Test.YtomfaknemjbjcaaBR
import Derived.Test.YtomfaknemjbjcaaBK
import Derived.Test.YtomfaknemjbjcaaBL
import Derived.Deep.RegionHeld3
namespace Go.Proofs.Ytomfaknemjbjcaa
open Go.RowKit
set_option maxRecDepth 100000

set_option maxHeartbeats 8000000 in
theorem row_BreakerTimes (w : World) (f L S F q p k : Int) : Calls Try.prog 4 #[bkV f L S F, .int .i64 q, .int .i64 p, .int .i64 k] w fun e w' => e = .returned (.bool true) ∧ Below w.heap.size w w' := by
  obtain ⟨⟨y1, r1⟩, h1⟩ : ∃ z, z = lastsP L S F q p := ⟨_, rfl⟩
  obtain ⟨⟨y2, r2⟩, h2⟩ : ∃ z, z = coolsP L S F q p := ⟨_, rfl⟩
  obtain ⟨⟨y3, r3⟩, h3⟩ : ∃ z, z = bearsP L S F q k := ⟨_, rfl⟩
  have H1 := Lib.hid (fun (X : World) => c_Lasts f L S F q p y1 r1 h1.symm X)
  have H2 := Lib.hid (fun (X : World) => r_Lasts f L S F q p y1 r1 h1.symm X)
  have H3 := Lib.hid (fun (X : World) => c_Cools f L S F q p y2 r2 h2.symm X)
  have H4 := Lib.hid (fun (X : World) => r_Cools f L S F q p y2 r2 h2.symm X)
  have H5 := Lib.hid (fun (X : World) => c_Bears f L S F q k y3 r3 h3.symm X)
  have H6 := Lib.hid (fun (X : World) => r_Bears f L S F q k y3 r3 h3.symm X)
  clear h1 h2 h3
  unfold bkV at H1 H2 H3 H4 H5 H6
  unfold bkV
  obtain ⟨w0, hW⟩ : ∃ w0, w0 = w.alloc (.cells #[.int .i64 f, .int .i64 L, .int .i64 S, .int .i64 F] 23) := ⟨_, rfl⟩
  have HB0 := Lib.hid (show Below w.heap.size w w0 by subst hW; exact (Below.refl _ _).alloc (Nat.le_refl _) _)
  have HK0 := Lib.hid (show Bk w0 w.heap.size f L S F by subst hW; exact bk_new _ _ _ _ _)
  have hz0 : w.heap.size < w0.heap.size := block_lt HK0.out
  obtain ⟨x0, x1, x2, x3⟩ := HK0.out.cells
  go_enter Try.func4, Try.ntmps4
  go_wp2_with (fail)
  rw [← hW]
  clear hW
  go_at_call 22
  refine (H1.out _).mono ?_
  rintro e w1 ⟨rfl, b1⟩
  have HB1 := Lib.hid (below_join HB0.out b1 HB0.out.size)
  have HK1 := Lib.hid (HK0.out.on b1 hz0)
  have hz1 := Nat.lt_of_lt_of_le hz0 b1.size
  clear b1 x0 x1 x2 x3
  obtain ⟨x0, x1, x2, x3⟩ := HK1.out.cells
  go_wp2_with (fail)
  go_at_call 23
  refine (H2.out _).mono ?_
  rintro e w2 ⟨rfl, b2⟩
  have HB2 := Lib.hid (below_join HB1.out b2 HB1.out.size)
  have HK2 := Lib.hid (HK1.out.on b2 hz1)
  have hz2 := Nat.lt_of_lt_of_le hz1 b2.size
  clear b2 x0 x1 x2 x3
  obtain ⟨x0, x1, x2, x3⟩ := HK2.out.cells
  go_wp2_with (fail)
  go_at_call 24
  refine (H3.out _).mono ?_
  rintro e w3 ⟨rfl, b3⟩
  have HB3 := Lib.hid (below_join HB2.out b3 HB2.out.size)
  have HK3 := Lib.hid (HK2.out.on b3 hz2)
  have hz3 := Nat.lt_of_lt_of_le hz2 b3.size
  clear b3 x0 x1 x2 x3
  obtain ⟨x0, x1, x2, x3⟩ := HK3.out.cells
  go_wp2_with (fail)
  go_at_call 25
  refine (H4.out _).mono ?_
  rintro e w4 ⟨rfl, b4⟩
  have HB4 := Lib.hid (below_join HB3.out b4 HB3.out.size)
  have HK4 := Lib.hid (HK3.out.on b4 hz3)
  have hz4 := Nat.lt_of_lt_of_le hz3 b4.size
  clear b4 x0 x1 x2 x3
  obtain ⟨x0, x1, x2, x3⟩ := HK4.out.cells
  go_wp2_with (fail)
  go_at_call 26
  refine (H5.out _).mono ?_
  rintro e w5 ⟨rfl, b5⟩
  have HB5 := Lib.hid (below_join HB4.out b5 HB4.out.size)
  have HK5 := Lib.hid (HK4.out.on b5 hz4)
  have hz5 := Nat.lt_of_lt_of_le hz4 b5.size
  clear b5 x0 x1 x2 x3
  obtain ⟨x0, x1, x2, x3⟩ := HK5.out.cells
  go_wp2_with (fail)
  go_at_call 27
  refine (H6.out _).mono ?_
  rintro e w6 ⟨rfl, b6⟩
  have HB6 := Lib.hid (below_join HB5.out b6 HB5.out.size)
  have HK6 := Lib.hid (HK5.out.on b6 hz5)
  have hz6 := Nat.lt_of_lt_of_le hz5 b6.size
  clear b6 x0 x1 x2 x3
  obtain ⟨x0, x1, x2, x3⟩ := HK6.out.cells
  go_wp2_with (fail)
  go_at_call 21
  refine (c_works _).mono ?_
  rintro e w7 ⟨rfl, b7⟩
  have HB7 := Lib.hid (below_join HB6.out b7 HB6.out.size)
  clear b7 x0 x1 x2 x3
  go_wp2_with (fail)
  go_ret
  exact ⟨rfl, HB7.out⟩
end Go.Proofs.Ytomfaknemjbjcaa
