/-
  DERIVED. The reference's Made, Of; the law's small. (Written by gen/genUM.py.)
-/
import Derived.Test.YtfdkdloldjfnjaaGreatDoorUL
import Derived.Test.YtfdkdloldjfnjaaGreatDoorYRJm
import Derived.Test.YtfdkdloldjfnjaaGreatDoorTY
set_option linter.unusedVariables false
set_option linter.unusedSimpArgs false
namespace Go.Proofs.YtfdkdloldjfnjaaGreatDoor
open Go.RowKit
set_option maxRecDepth 100000

set_option maxHeartbeats 4000000 in
theorem made_nf (n d : Nat) (hd0 : 0 < d) (hn : (nat n).length ≤ 80000) (hd : (nat d).length ≤ 80000) (hc : 32 < (nat (n / Nat.gcd n d)).length) (va vb : Value) (w : World) (ha : Ls w va (nat n)) (hb : Ls w vb (nat d)) :
    Calls Tryz.prog 48 #[.bool false, va, vb] w (ResPost (none) 3 w) := by
  obtain ⟨A0, ca, rfl⟩ := ha.1.shape
  obtain ⟨B0, cb, rfl⟩ := hb.1.shape
  have hg0 : 0 < Nat.gcd n d := Nat.gcd_pos_of_pos_right _ hd0
  have hgl : (nat (Nat.gcd n d)).length ≤ 80000 := len_le_of_le (Nat.le_of_dvd hd0 (Nat.gcd_dvd_right n d)) hd
  obtain ⟨W, hW⟩ : ∃ W, W = w.alloc (.cells #[.bool false, .slice none 0 0, .slice none 0 0] 25) := ⟨_, rfl⟩
  have B0' : Below w.heap.size w W := by subst hW; exact (Below.refl _ _).alloc (Nat.le_refl _) _
  have HR := Lib.hid (show ResZ w.heap.size W by subst hW; exact row_new4 _ _ _ rfl)
  have hz : w.heap.size < W.heap.size := by subst hW; simp
  have HB := Lib.hid B0'
  have HG := Lib.hid (c_eGcd n d hn hd _ _ W (ha.on B0') (hb.on B0'))
  have HA1 := Lib.hid (ha.on B0')
  have HB1 := Lib.hid (hb.on B0')
  generalize hgg : Nat.gcd n d = G at *
  clear ha hb B0' hgg
  go_enter Tryz.func48, Tryz.ntmps48
  go_wp2_with (fail)
  rw [← hW]
  clear hW
  go_at_call 60
  refine HG.out.mono ?_
  rintro e w1 ⟨v1, rfl, h1, b1⟩
  obtain ⟨A1, c1, rfl⟩ := h1.1.shape
  have HQ1 := Lib.hid (c_eQuotient n G hg0 hn hgl _ _ w1 (HA1.out.on b1) h1)
  have HG1 := Lib.hid h1
  have HB2 := Lib.hid (HB1.out.on b1)
  have HR1 := Lib.hid (HR.out.on b1 hz)
  have HBB1 := Lib.hid (below_join HB.out b1 HB.out.size)
  have hz1 := b1.size
  clear h1 b1
  go_wp2_with (fail)
  go_at_call 76
  refine HQ1.out.mono ?_
  rintro e w2 ⟨q2, r2, rfl, hq2, hr2, b2⟩
  obtain ⟨A2, c2, rfl⟩ := hq2.1.shape
  have HQ2 := Lib.hid (c_eQuotient d G hg0 hd hgl _ _ w2 (HB2.out.on b2) (HG1.out.on b2))
  have HN2 := Lib.hid hq2
  have HR2 := Lib.hid (HR1.out.on b2 (by omega))
  have HBB2 := Lib.hid (below_join HBB1.out b2 HBB1.out.size)
  have hz2 := b2.size
  clear hq2 hr2 b2
  go_wp2_with (fail)
  go_at_call 76
  refine HQ2.out.mono ?_
  rintro e w3 ⟨q3, r3, rfl, hq3, hr3, b3⟩
  obtain ⟨A3, c3, rfl⟩ := hq3.1.shape
  have HN3 := Lib.hid (HN2.out.on b3)
  have HD3 := Lib.hid hq3
  have HR3 := Lib.hid (HR2.out.on b3 (by omega))
  have HBB3 := Lib.hid (below_join HBB2.out b3 HBB2.out.size)
  clear hq3 hr3 b3
  obtain ⟨z0, z1, z2⟩ := Rt.cells HR3.out
  obtain ⟨f0, f1, f2⟩ := Rt.frozen HR3.out
  generalize hx : (nat (n / G)).length = x at *
  generalize hy : (nat (d / G)).length = y at *
  have k1 : (32 : Int) < (x : Int) := by omega
  go_wp2_with (fail)
  refine ret3t rfl rfl rfl rfl (row_store3 HR3.out _ _ _) ⟨_, _, rfl, below_store3 HBB3.out (Nat.le_refl _) _ _ _, fun _ => ⟨rfl, rfl⟩, fun _ _ _ h => by cases h⟩
set_option maxHeartbeats 4000000 in
theorem made_nt (n d : Nat) (hd0 : 0 < d) (hn : (nat n).length ≤ 80000) (hd : (nat d).length ≤ 80000) (hc : 32 < (nat (n / Nat.gcd n d)).length) (va vb : Value) (w : World) (ha : Ls w va (nat n)) (hb : Ls w vb (nat d)) :
    Calls Tryz.prog 48 #[.bool true, va, vb] w (ResPost (none) 3 w) := by
  obtain ⟨A0, ca, rfl⟩ := ha.1.shape
  obtain ⟨B0, cb, rfl⟩ := hb.1.shape
  have hg0 : 0 < Nat.gcd n d := Nat.gcd_pos_of_pos_right _ hd0
  have hgl : (nat (Nat.gcd n d)).length ≤ 80000 := len_le_of_le (Nat.le_of_dvd hd0 (Nat.gcd_dvd_right n d)) hd
  obtain ⟨W, hW⟩ : ∃ W, W = w.alloc (.cells #[.bool false, .slice none 0 0, .slice none 0 0] 25) := ⟨_, rfl⟩
  have B0' : Below w.heap.size w W := by subst hW; exact (Below.refl _ _).alloc (Nat.le_refl _) _
  have HR := Lib.hid (show ResZ w.heap.size W by subst hW; exact row_new4 _ _ _ rfl)
  have hz : w.heap.size < W.heap.size := by subst hW; simp
  have HB := Lib.hid B0'
  have HG := Lib.hid (c_eGcd n d hn hd _ _ W (ha.on B0') (hb.on B0'))
  have HA1 := Lib.hid (ha.on B0')
  have HB1 := Lib.hid (hb.on B0')
  generalize hgg : Nat.gcd n d = G at *
  clear ha hb B0' hgg
  go_enter Tryz.func48, Tryz.ntmps48
  go_wp2_with (fail)
  rw [← hW]
  clear hW
  go_at_call 60
  refine HG.out.mono ?_
  rintro e w1 ⟨v1, rfl, h1, b1⟩
  obtain ⟨A1, c1, rfl⟩ := h1.1.shape
  have HQ1 := Lib.hid (c_eQuotient n G hg0 hn hgl _ _ w1 (HA1.out.on b1) h1)
  have HG1 := Lib.hid h1
  have HB2 := Lib.hid (HB1.out.on b1)
  have HR1 := Lib.hid (HR.out.on b1 hz)
  have HBB1 := Lib.hid (below_join HB.out b1 HB.out.size)
  have hz1 := b1.size
  clear h1 b1
  go_wp2_with (fail)
  go_at_call 76
  refine HQ1.out.mono ?_
  rintro e w2 ⟨q2, r2, rfl, hq2, hr2, b2⟩
  obtain ⟨A2, c2, rfl⟩ := hq2.1.shape
  have HQ2 := Lib.hid (c_eQuotient d G hg0 hd hgl _ _ w2 (HB2.out.on b2) (HG1.out.on b2))
  have HN2 := Lib.hid hq2
  have HR2 := Lib.hid (HR1.out.on b2 (by omega))
  have HBB2 := Lib.hid (below_join HBB1.out b2 HBB1.out.size)
  have hz2 := b2.size
  clear hq2 hr2 b2
  go_wp2_with (fail)
  go_at_call 76
  refine HQ2.out.mono ?_
  rintro e w3 ⟨q3, r3, rfl, hq3, hr3, b3⟩
  obtain ⟨A3, c3, rfl⟩ := hq3.1.shape
  have HN3 := Lib.hid (HN2.out.on b3)
  have HD3 := Lib.hid hq3
  have HR3 := Lib.hid (HR2.out.on b3 (by omega))
  have HBB3 := Lib.hid (below_join HBB2.out b3 HBB2.out.size)
  clear hq3 hr3 b3
  obtain ⟨z0, z1, z2⟩ := Rt.cells HR3.out
  obtain ⟨f0, f1, f2⟩ := Rt.frozen HR3.out
  generalize hx : (nat (n / G)).length = x at *
  generalize hy : (nat (d / G)).length = y at *
  have k1 : (32 : Int) < (x : Int) := by omega
  go_wp2_with (fail)
  refine ret3t rfl rfl rfl rfl (row_store3 HR3.out _ _ _) ⟨_, _, rfl, below_store3 HBB3.out (Nat.le_refl _) _ _ _, fun _ => ⟨rfl, rfl⟩, fun _ _ _ h => by cases h⟩
set_option maxHeartbeats 4000000 in
theorem made_df (n d : Nat) (hd0 : 0 < d) (hn : (nat n).length ≤ 80000) (hd : (nat d).length ≤ 80000) (hc : ¬ 32 < (nat (n / Nat.gcd n d)).length) (hc2 : 32 < (nat (d / Nat.gcd n d)).length) (va vb : Value) (w : World) (ha : Ls w va (nat n)) (hb : Ls w vb (nat d)) :
    Calls Tryz.prog 48 #[.bool false, va, vb] w (ResPost (none) 3 w) := by
  obtain ⟨A0, ca, rfl⟩ := ha.1.shape
  obtain ⟨B0, cb, rfl⟩ := hb.1.shape
  have hg0 : 0 < Nat.gcd n d := Nat.gcd_pos_of_pos_right _ hd0
  have hgl : (nat (Nat.gcd n d)).length ≤ 80000 := len_le_of_le (Nat.le_of_dvd hd0 (Nat.gcd_dvd_right n d)) hd
  obtain ⟨W, hW⟩ : ∃ W, W = w.alloc (.cells #[.bool false, .slice none 0 0, .slice none 0 0] 25) := ⟨_, rfl⟩
  have B0' : Below w.heap.size w W := by subst hW; exact (Below.refl _ _).alloc (Nat.le_refl _) _
  have HR := Lib.hid (show ResZ w.heap.size W by subst hW; exact row_new4 _ _ _ rfl)
  have hz : w.heap.size < W.heap.size := by subst hW; simp
  have HB := Lib.hid B0'
  have HG := Lib.hid (c_eGcd n d hn hd _ _ W (ha.on B0') (hb.on B0'))
  have HA1 := Lib.hid (ha.on B0')
  have HB1 := Lib.hid (hb.on B0')
  generalize hgg : Nat.gcd n d = G at *
  clear ha hb B0' hgg
  go_enter Tryz.func48, Tryz.ntmps48
  go_wp2_with (fail)
  rw [← hW]
  clear hW
  go_at_call 60
  refine HG.out.mono ?_
  rintro e w1 ⟨v1, rfl, h1, b1⟩
  obtain ⟨A1, c1, rfl⟩ := h1.1.shape
  have HQ1 := Lib.hid (c_eQuotient n G hg0 hn hgl _ _ w1 (HA1.out.on b1) h1)
  have HG1 := Lib.hid h1
  have HB2 := Lib.hid (HB1.out.on b1)
  have HR1 := Lib.hid (HR.out.on b1 hz)
  have HBB1 := Lib.hid (below_join HB.out b1 HB.out.size)
  have hz1 := b1.size
  clear h1 b1
  go_wp2_with (fail)
  go_at_call 76
  refine HQ1.out.mono ?_
  rintro e w2 ⟨q2, r2, rfl, hq2, hr2, b2⟩
  obtain ⟨A2, c2, rfl⟩ := hq2.1.shape
  have HQ2 := Lib.hid (c_eQuotient d G hg0 hd hgl _ _ w2 (HB2.out.on b2) (HG1.out.on b2))
  have HN2 := Lib.hid hq2
  have HR2 := Lib.hid (HR1.out.on b2 (by omega))
  have HBB2 := Lib.hid (below_join HBB1.out b2 HBB1.out.size)
  have hz2 := b2.size
  clear hq2 hr2 b2
  go_wp2_with (fail)
  go_at_call 76
  refine HQ2.out.mono ?_
  rintro e w3 ⟨q3, r3, rfl, hq3, hr3, b3⟩
  obtain ⟨A3, c3, rfl⟩ := hq3.1.shape
  have HN3 := Lib.hid (HN2.out.on b3)
  have HD3 := Lib.hid hq3
  have HR3 := Lib.hid (HR2.out.on b3 (by omega))
  have HBB3 := Lib.hid (below_join HBB2.out b3 HBB2.out.size)
  clear hq3 hr3 b3
  obtain ⟨z0, z1, z2⟩ := Rt.cells HR3.out
  obtain ⟨f0, f1, f2⟩ := Rt.frozen HR3.out
  generalize hx : (nat (n / G)).length = x at *
  generalize hy : (nat (d / G)).length = y at *
  have k1 : ¬ (32 : Int) < (x : Int) := by omega
  have k2 : (32 : Int) < (y : Int) := by omega
  go_wp2_with (fail)
  refine ret3t rfl rfl rfl rfl (row_store3 HR3.out _ _ _) ⟨_, _, rfl, below_store3 HBB3.out (Nat.le_refl _) _ _ _, fun _ => ⟨rfl, rfl⟩, fun _ _ _ h => by cases h⟩
set_option maxHeartbeats 4000000 in
theorem made_dt (n d : Nat) (hd0 : 0 < d) (hn : (nat n).length ≤ 80000) (hd : (nat d).length ≤ 80000) (hc : ¬ 32 < (nat (n / Nat.gcd n d)).length) (hc2 : 32 < (nat (d / Nat.gcd n d)).length) (va vb : Value) (w : World) (ha : Ls w va (nat n)) (hb : Ls w vb (nat d)) :
    Calls Tryz.prog 48 #[.bool true, va, vb] w (ResPost (none) 3 w) := by
  obtain ⟨A0, ca, rfl⟩ := ha.1.shape
  obtain ⟨B0, cb, rfl⟩ := hb.1.shape
  have hg0 : 0 < Nat.gcd n d := Nat.gcd_pos_of_pos_right _ hd0
  have hgl : (nat (Nat.gcd n d)).length ≤ 80000 := len_le_of_le (Nat.le_of_dvd hd0 (Nat.gcd_dvd_right n d)) hd
  obtain ⟨W, hW⟩ : ∃ W, W = w.alloc (.cells #[.bool false, .slice none 0 0, .slice none 0 0] 25) := ⟨_, rfl⟩
  have B0' : Below w.heap.size w W := by subst hW; exact (Below.refl _ _).alloc (Nat.le_refl _) _
  have HR := Lib.hid (show ResZ w.heap.size W by subst hW; exact row_new4 _ _ _ rfl)
  have hz : w.heap.size < W.heap.size := by subst hW; simp
  have HB := Lib.hid B0'
  have HG := Lib.hid (c_eGcd n d hn hd _ _ W (ha.on B0') (hb.on B0'))
  have HA1 := Lib.hid (ha.on B0')
  have HB1 := Lib.hid (hb.on B0')
  generalize hgg : Nat.gcd n d = G at *
  clear ha hb B0' hgg
  go_enter Tryz.func48, Tryz.ntmps48
  go_wp2_with (fail)
  rw [← hW]
  clear hW
  go_at_call 60
  refine HG.out.mono ?_
  rintro e w1 ⟨v1, rfl, h1, b1⟩
  obtain ⟨A1, c1, rfl⟩ := h1.1.shape
  have HQ1 := Lib.hid (c_eQuotient n G hg0 hn hgl _ _ w1 (HA1.out.on b1) h1)
  have HG1 := Lib.hid h1
  have HB2 := Lib.hid (HB1.out.on b1)
  have HR1 := Lib.hid (HR.out.on b1 hz)
  have HBB1 := Lib.hid (below_join HB.out b1 HB.out.size)
  have hz1 := b1.size
  clear h1 b1
  go_wp2_with (fail)
  go_at_call 76
  refine HQ1.out.mono ?_
  rintro e w2 ⟨q2, r2, rfl, hq2, hr2, b2⟩
  obtain ⟨A2, c2, rfl⟩ := hq2.1.shape
  have HQ2 := Lib.hid (c_eQuotient d G hg0 hd hgl _ _ w2 (HB2.out.on b2) (HG1.out.on b2))
  have HN2 := Lib.hid hq2
  have HR2 := Lib.hid (HR1.out.on b2 (by omega))
  have HBB2 := Lib.hid (below_join HBB1.out b2 HBB1.out.size)
  have hz2 := b2.size
  clear hq2 hr2 b2
  go_wp2_with (fail)
  go_at_call 76
  refine HQ2.out.mono ?_
  rintro e w3 ⟨q3, r3, rfl, hq3, hr3, b3⟩
  obtain ⟨A3, c3, rfl⟩ := hq3.1.shape
  have HN3 := Lib.hid (HN2.out.on b3)
  have HD3 := Lib.hid hq3
  have HR3 := Lib.hid (HR2.out.on b3 (by omega))
  have HBB3 := Lib.hid (below_join HBB2.out b3 HBB2.out.size)
  clear hq3 hr3 b3
  obtain ⟨z0, z1, z2⟩ := Rt.cells HR3.out
  obtain ⟨f0, f1, f2⟩ := Rt.frozen HR3.out
  generalize hx : (nat (n / G)).length = x at *
  generalize hy : (nat (d / G)).length = y at *
  have k1 : ¬ (32 : Int) < (x : Int) := by omega
  have k2 : (32 : Int) < (y : Int) := by omega
  go_wp2_with (fail)
  refine ret3t rfl rfl rfl rfl (row_store3 HR3.out _ _ _) ⟨_, _, rfl, below_store3 HBB3.out (Nat.le_refl _) _ _ _, fun _ => ⟨rfl, rfl⟩, fun _ _ _ h => by cases h⟩
set_option maxHeartbeats 4000000 in
theorem made_zf (n d : Nat) (hd0 : 0 < d) (hn : (nat n).length ≤ 80000) (hd : (nat d).length ≤ 80000) (hc : ¬ 32 < (nat (n / Nat.gcd n d)).length) (hc2 : ¬ 32 < (nat (d / Nat.gcd n d)).length) (hc3 : ¬ 0 < (nat (n / Nat.gcd n d)).length) (va vb : Value) (w : World) (ha : Ls w va (nat n)) (hb : Ls w vb (nat d)) :
    Calls Tryz.prog 48 #[.bool false, va, vb] w (ResPost (some (false, n / Nat.gcd n d, d / Nat.gcd n d)) 3 w) := by
  obtain ⟨A0, ca, rfl⟩ := ha.1.shape
  obtain ⟨B0, cb, rfl⟩ := hb.1.shape
  have hg0 : 0 < Nat.gcd n d := Nat.gcd_pos_of_pos_right _ hd0
  have hgl : (nat (Nat.gcd n d)).length ≤ 80000 := len_le_of_le (Nat.le_of_dvd hd0 (Nat.gcd_dvd_right n d)) hd
  obtain ⟨W, hW⟩ : ∃ W, W = w.alloc (.cells #[.bool false, .slice none 0 0, .slice none 0 0] 25) := ⟨_, rfl⟩
  have B0' : Below w.heap.size w W := by subst hW; exact (Below.refl _ _).alloc (Nat.le_refl _) _
  have HR := Lib.hid (show ResZ w.heap.size W by subst hW; exact row_new4 _ _ _ rfl)
  have hz : w.heap.size < W.heap.size := by subst hW; simp
  have HB := Lib.hid B0'
  have HG := Lib.hid (c_eGcd n d hn hd _ _ W (ha.on B0') (hb.on B0'))
  have HA1 := Lib.hid (ha.on B0')
  have HB1 := Lib.hid (hb.on B0')
  generalize hgg : Nat.gcd n d = G at *
  clear ha hb B0' hgg
  go_enter Tryz.func48, Tryz.ntmps48
  go_wp2_with (fail)
  rw [← hW]
  clear hW
  go_at_call 60
  refine HG.out.mono ?_
  rintro e w1 ⟨v1, rfl, h1, b1⟩
  obtain ⟨A1, c1, rfl⟩ := h1.1.shape
  have HQ1 := Lib.hid (c_eQuotient n G hg0 hn hgl _ _ w1 (HA1.out.on b1) h1)
  have HG1 := Lib.hid h1
  have HB2 := Lib.hid (HB1.out.on b1)
  have HR1 := Lib.hid (HR.out.on b1 hz)
  have HBB1 := Lib.hid (below_join HB.out b1 HB.out.size)
  have hz1 := b1.size
  clear h1 b1
  go_wp2_with (fail)
  go_at_call 76
  refine HQ1.out.mono ?_
  rintro e w2 ⟨q2, r2, rfl, hq2, hr2, b2⟩
  obtain ⟨A2, c2, rfl⟩ := hq2.1.shape
  have HQ2 := Lib.hid (c_eQuotient d G hg0 hd hgl _ _ w2 (HB2.out.on b2) (HG1.out.on b2))
  have HN2 := Lib.hid hq2
  have HR2 := Lib.hid (HR1.out.on b2 (by omega))
  have HBB2 := Lib.hid (below_join HBB1.out b2 HBB1.out.size)
  have hz2 := b2.size
  clear hq2 hr2 b2
  go_wp2_with (fail)
  go_at_call 76
  refine HQ2.out.mono ?_
  rintro e w3 ⟨q3, r3, rfl, hq3, hr3, b3⟩
  obtain ⟨A3, c3, rfl⟩ := hq3.1.shape
  have HN3 := Lib.hid (HN2.out.on b3)
  have HD3 := Lib.hid hq3
  have HR3 := Lib.hid (HR2.out.on b3 (by omega))
  have HBB3 := Lib.hid (below_join HBB2.out b3 HBB2.out.size)
  clear hq3 hr3 b3
  obtain ⟨z0, z1, z2⟩ := Rt.cells HR3.out
  obtain ⟨f0, f1, f2⟩ := Rt.frozen HR3.out
  generalize hx : (nat (n / G)).length = x at *
  generalize hy : (nat (d / G)).length = y at *
  have k1 : ¬ (32 : Int) < (x : Int) := by omega
  have k2 : ¬ (32 : Int) < (y : Int) := by omega
  go_wp2_with (fail)
  refine ret3t rfl rfl rfl rfl (row_store3 HR3.out _ _ _) ⟨_, _, rfl, below_store3 HBB3.out (Nat.le_refl _) _ _ _, fun h => (by cases h), fun s' n' d' h => ?_⟩
  injection h with h
  injection h with h1 h2
  injection h2 with h2 h3
  subst h1 h2 h3
  exact ⟨⟨_, _, rfl, natSl_storeZ HN3.out.1 HR3.out _ _ _, natSl_storeZ HD3.out.1 HR3.out _ _ _⟩, rfl⟩
set_option maxHeartbeats 4000000 in
theorem made_zt (n d : Nat) (hd0 : 0 < d) (hn : (nat n).length ≤ 80000) (hd : (nat d).length ≤ 80000) (hc : ¬ 32 < (nat (n / Nat.gcd n d)).length) (hc2 : ¬ 32 < (nat (d / Nat.gcd n d)).length) (hc3 : ¬ 0 < (nat (n / Nat.gcd n d)).length) (va vb : Value) (w : World) (ha : Ls w va (nat n)) (hb : Ls w vb (nat d)) :
    Calls Tryz.prog 48 #[.bool true, va, vb] w (ResPost (some (false, n / Nat.gcd n d, d / Nat.gcd n d)) 3 w) := by
  obtain ⟨A0, ca, rfl⟩ := ha.1.shape
  obtain ⟨B0, cb, rfl⟩ := hb.1.shape
  have hg0 : 0 < Nat.gcd n d := Nat.gcd_pos_of_pos_right _ hd0
  have hgl : (nat (Nat.gcd n d)).length ≤ 80000 := len_le_of_le (Nat.le_of_dvd hd0 (Nat.gcd_dvd_right n d)) hd
  obtain ⟨W, hW⟩ : ∃ W, W = w.alloc (.cells #[.bool false, .slice none 0 0, .slice none 0 0] 25) := ⟨_, rfl⟩
  have B0' : Below w.heap.size w W := by subst hW; exact (Below.refl _ _).alloc (Nat.le_refl _) _
  have HR := Lib.hid (show ResZ w.heap.size W by subst hW; exact row_new4 _ _ _ rfl)
  have hz : w.heap.size < W.heap.size := by subst hW; simp
  have HB := Lib.hid B0'
  have HG := Lib.hid (c_eGcd n d hn hd _ _ W (ha.on B0') (hb.on B0'))
  have HA1 := Lib.hid (ha.on B0')
  have HB1 := Lib.hid (hb.on B0')
  generalize hgg : Nat.gcd n d = G at *
  clear ha hb B0' hgg
  go_enter Tryz.func48, Tryz.ntmps48
  go_wp2_with (fail)
  rw [← hW]
  clear hW
  go_at_call 60
  refine HG.out.mono ?_
  rintro e w1 ⟨v1, rfl, h1, b1⟩
  obtain ⟨A1, c1, rfl⟩ := h1.1.shape
  have HQ1 := Lib.hid (c_eQuotient n G hg0 hn hgl _ _ w1 (HA1.out.on b1) h1)
  have HG1 := Lib.hid h1
  have HB2 := Lib.hid (HB1.out.on b1)
  have HR1 := Lib.hid (HR.out.on b1 hz)
  have HBB1 := Lib.hid (below_join HB.out b1 HB.out.size)
  have hz1 := b1.size
  clear h1 b1
  go_wp2_with (fail)
  go_at_call 76
  refine HQ1.out.mono ?_
  rintro e w2 ⟨q2, r2, rfl, hq2, hr2, b2⟩
  obtain ⟨A2, c2, rfl⟩ := hq2.1.shape
  have HQ2 := Lib.hid (c_eQuotient d G hg0 hd hgl _ _ w2 (HB2.out.on b2) (HG1.out.on b2))
  have HN2 := Lib.hid hq2
  have HR2 := Lib.hid (HR1.out.on b2 (by omega))
  have HBB2 := Lib.hid (below_join HBB1.out b2 HBB1.out.size)
  have hz2 := b2.size
  clear hq2 hr2 b2
  go_wp2_with (fail)
  go_at_call 76
  refine HQ2.out.mono ?_
  rintro e w3 ⟨q3, r3, rfl, hq3, hr3, b3⟩
  obtain ⟨A3, c3, rfl⟩ := hq3.1.shape
  have HN3 := Lib.hid (HN2.out.on b3)
  have HD3 := Lib.hid hq3
  have HR3 := Lib.hid (HR2.out.on b3 (by omega))
  have HBB3 := Lib.hid (below_join HBB2.out b3 HBB2.out.size)
  clear hq3 hr3 b3
  obtain ⟨z0, z1, z2⟩ := Rt.cells HR3.out
  obtain ⟨f0, f1, f2⟩ := Rt.frozen HR3.out
  generalize hx : (nat (n / G)).length = x at *
  generalize hy : (nat (d / G)).length = y at *
  have k1 : ¬ (32 : Int) < (x : Int) := by omega
  have k2 : ¬ (32 : Int) < (y : Int) := by omega
  have k3 : decide ((0 : Int) < (x : Int)) = false := by rw [decide_eq_false_iff_not]; omega
  go_wp2_with (fail)
  refine ret3t rfl rfl rfl rfl (row_store3 HR3.out _ _ _) ⟨_, _, rfl, below_store3 HBB3.out (Nat.le_refl _) _ _ _, fun h => (by cases h), fun s' n' d' h => ?_⟩
  injection h with h
  injection h with h1 h2
  injection h2 with h2 h3
  subst h1 h2 h3
  exact ⟨⟨_, _, rfl, natSl_storeZ HN3.out.1 HR3.out _ _ _, natSl_storeZ HD3.out.1 HR3.out _ _ _⟩, rfl⟩
set_option maxHeartbeats 4000000 in
theorem made_pf (n d : Nat) (hd0 : 0 < d) (hn : (nat n).length ≤ 80000) (hd : (nat d).length ≤ 80000) (hc : ¬ 32 < (nat (n / Nat.gcd n d)).length) (hc2 : ¬ 32 < (nat (d / Nat.gcd n d)).length) (hc3 : 0 < (nat (n / Nat.gcd n d)).length) (va vb : Value) (w : World) (ha : Ls w va (nat n)) (hb : Ls w vb (nat d)) :
    Calls Tryz.prog 48 #[.bool false, va, vb] w (ResPost (some (false, n / Nat.gcd n d, d / Nat.gcd n d)) 3 w) := by
  obtain ⟨A0, ca, rfl⟩ := ha.1.shape
  obtain ⟨B0, cb, rfl⟩ := hb.1.shape
  have hg0 : 0 < Nat.gcd n d := Nat.gcd_pos_of_pos_right _ hd0
  have hgl : (nat (Nat.gcd n d)).length ≤ 80000 := len_le_of_le (Nat.le_of_dvd hd0 (Nat.gcd_dvd_right n d)) hd
  obtain ⟨W, hW⟩ : ∃ W, W = w.alloc (.cells #[.bool false, .slice none 0 0, .slice none 0 0] 25) := ⟨_, rfl⟩
  have B0' : Below w.heap.size w W := by subst hW; exact (Below.refl _ _).alloc (Nat.le_refl _) _
  have HR := Lib.hid (show ResZ w.heap.size W by subst hW; exact row_new4 _ _ _ rfl)
  have hz : w.heap.size < W.heap.size := by subst hW; simp
  have HB := Lib.hid B0'
  have HG := Lib.hid (c_eGcd n d hn hd _ _ W (ha.on B0') (hb.on B0'))
  have HA1 := Lib.hid (ha.on B0')
  have HB1 := Lib.hid (hb.on B0')
  generalize hgg : Nat.gcd n d = G at *
  clear ha hb B0' hgg
  go_enter Tryz.func48, Tryz.ntmps48
  go_wp2_with (fail)
  rw [← hW]
  clear hW
  go_at_call 60
  refine HG.out.mono ?_
  rintro e w1 ⟨v1, rfl, h1, b1⟩
  obtain ⟨A1, c1, rfl⟩ := h1.1.shape
  have HQ1 := Lib.hid (c_eQuotient n G hg0 hn hgl _ _ w1 (HA1.out.on b1) h1)
  have HG1 := Lib.hid h1
  have HB2 := Lib.hid (HB1.out.on b1)
  have HR1 := Lib.hid (HR.out.on b1 hz)
  have HBB1 := Lib.hid (below_join HB.out b1 HB.out.size)
  have hz1 := b1.size
  clear h1 b1
  go_wp2_with (fail)
  go_at_call 76
  refine HQ1.out.mono ?_
  rintro e w2 ⟨q2, r2, rfl, hq2, hr2, b2⟩
  obtain ⟨A2, c2, rfl⟩ := hq2.1.shape
  have HQ2 := Lib.hid (c_eQuotient d G hg0 hd hgl _ _ w2 (HB2.out.on b2) (HG1.out.on b2))
  have HN2 := Lib.hid hq2
  have HR2 := Lib.hid (HR1.out.on b2 (by omega))
  have HBB2 := Lib.hid (below_join HBB1.out b2 HBB1.out.size)
  have hz2 := b2.size
  clear hq2 hr2 b2
  go_wp2_with (fail)
  go_at_call 76
  refine HQ2.out.mono ?_
  rintro e w3 ⟨q3, r3, rfl, hq3, hr3, b3⟩
  obtain ⟨A3, c3, rfl⟩ := hq3.1.shape
  have HN3 := Lib.hid (HN2.out.on b3)
  have HD3 := Lib.hid hq3
  have HR3 := Lib.hid (HR2.out.on b3 (by omega))
  have HBB3 := Lib.hid (below_join HBB2.out b3 HBB2.out.size)
  clear hq3 hr3 b3
  obtain ⟨z0, z1, z2⟩ := Rt.cells HR3.out
  obtain ⟨f0, f1, f2⟩ := Rt.frozen HR3.out
  generalize hx : (nat (n / G)).length = x at *
  generalize hy : (nat (d / G)).length = y at *
  have k1 : ¬ (32 : Int) < (x : Int) := by omega
  have k2 : ¬ (32 : Int) < (y : Int) := by omega
  go_wp2_with (fail)
  refine ret3t rfl rfl rfl rfl (row_store3 HR3.out _ _ _) ⟨_, _, rfl, below_store3 HBB3.out (Nat.le_refl _) _ _ _, fun h => (by cases h), fun s' n' d' h => ?_⟩
  injection h with h
  injection h with h1 h2
  injection h2 with h2 h3
  subst h1 h2 h3
  exact ⟨⟨_, _, rfl, natSl_storeZ HN3.out.1 HR3.out _ _ _, natSl_storeZ HD3.out.1 HR3.out _ _ _⟩, rfl⟩
set_option maxHeartbeats 4000000 in
theorem made_pt (n d : Nat) (hd0 : 0 < d) (hn : (nat n).length ≤ 80000) (hd : (nat d).length ≤ 80000) (hc : ¬ 32 < (nat (n / Nat.gcd n d)).length) (hc2 : ¬ 32 < (nat (d / Nat.gcd n d)).length) (hc3 : 0 < (nat (n / Nat.gcd n d)).length) (va vb : Value) (w : World) (ha : Ls w va (nat n)) (hb : Ls w vb (nat d)) :
    Calls Tryz.prog 48 #[.bool true, va, vb] w (ResPost (some (true, n / Nat.gcd n d, d / Nat.gcd n d)) 3 w) := by
  obtain ⟨A0, ca, rfl⟩ := ha.1.shape
  obtain ⟨B0, cb, rfl⟩ := hb.1.shape
  have hg0 : 0 < Nat.gcd n d := Nat.gcd_pos_of_pos_right _ hd0
  have hgl : (nat (Nat.gcd n d)).length ≤ 80000 := len_le_of_le (Nat.le_of_dvd hd0 (Nat.gcd_dvd_right n d)) hd
  obtain ⟨W, hW⟩ : ∃ W, W = w.alloc (.cells #[.bool false, .slice none 0 0, .slice none 0 0] 25) := ⟨_, rfl⟩
  have B0' : Below w.heap.size w W := by subst hW; exact (Below.refl _ _).alloc (Nat.le_refl _) _
  have HR := Lib.hid (show ResZ w.heap.size W by subst hW; exact row_new4 _ _ _ rfl)
  have hz : w.heap.size < W.heap.size := by subst hW; simp
  have HB := Lib.hid B0'
  have HG := Lib.hid (c_eGcd n d hn hd _ _ W (ha.on B0') (hb.on B0'))
  have HA1 := Lib.hid (ha.on B0')
  have HB1 := Lib.hid (hb.on B0')
  generalize hgg : Nat.gcd n d = G at *
  clear ha hb B0' hgg
  go_enter Tryz.func48, Tryz.ntmps48
  go_wp2_with (fail)
  rw [← hW]
  clear hW
  go_at_call 60
  refine HG.out.mono ?_
  rintro e w1 ⟨v1, rfl, h1, b1⟩
  obtain ⟨A1, c1, rfl⟩ := h1.1.shape
  have HQ1 := Lib.hid (c_eQuotient n G hg0 hn hgl _ _ w1 (HA1.out.on b1) h1)
  have HG1 := Lib.hid h1
  have HB2 := Lib.hid (HB1.out.on b1)
  have HR1 := Lib.hid (HR.out.on b1 hz)
  have HBB1 := Lib.hid (below_join HB.out b1 HB.out.size)
  have hz1 := b1.size
  clear h1 b1
  go_wp2_with (fail)
  go_at_call 76
  refine HQ1.out.mono ?_
  rintro e w2 ⟨q2, r2, rfl, hq2, hr2, b2⟩
  obtain ⟨A2, c2, rfl⟩ := hq2.1.shape
  have HQ2 := Lib.hid (c_eQuotient d G hg0 hd hgl _ _ w2 (HB2.out.on b2) (HG1.out.on b2))
  have HN2 := Lib.hid hq2
  have HR2 := Lib.hid (HR1.out.on b2 (by omega))
  have HBB2 := Lib.hid (below_join HBB1.out b2 HBB1.out.size)
  have hz2 := b2.size
  clear hq2 hr2 b2
  go_wp2_with (fail)
  go_at_call 76
  refine HQ2.out.mono ?_
  rintro e w3 ⟨q3, r3, rfl, hq3, hr3, b3⟩
  obtain ⟨A3, c3, rfl⟩ := hq3.1.shape
  have HN3 := Lib.hid (HN2.out.on b3)
  have HD3 := Lib.hid hq3
  have HR3 := Lib.hid (HR2.out.on b3 (by omega))
  have HBB3 := Lib.hid (below_join HBB2.out b3 HBB2.out.size)
  clear hq3 hr3 b3
  obtain ⟨z0, z1, z2⟩ := Rt.cells HR3.out
  obtain ⟨f0, f1, f2⟩ := Rt.frozen HR3.out
  generalize hx : (nat (n / G)).length = x at *
  generalize hy : (nat (d / G)).length = y at *
  have k1 : ¬ (32 : Int) < (x : Int) := by omega
  have k2 : ¬ (32 : Int) < (y : Int) := by omega
  have k3 : (0 : Int) < (x : Int) := by omega
  go_wp2_with (fail)
  refine ret3t rfl rfl rfl rfl (row_store3 HR3.out _ _ _) ⟨_, _, rfl, below_store3 HBB3.out (Nat.le_refl _) _ _ _, fun h => (by cases h), fun s' n' d' h => ?_⟩
  injection h with h
  injection h with h1 h2
  injection h2 with h2 h3
  subst h1 h2 h3
  exact ⟨⟨_, _, rfl, natSl_storeZ HN3.out.1 HR3.out _ _ _, natSl_storeZ HD3.out.1 HR3.out _ _ _⟩, rfl⟩
theorem c_eMade (s : Bool) (n d : Nat) (hd0 : 0 < d) (hn : (nat n).length ≤ 80000) (hd : (nat d).length ≤ 80000) (va vb : Value) (w : World) (ha : Ls w va (nat n)) (hb : Ls w vb (nat d)) :
    Calls Tryz.prog 48 #[.bool s, va, vb] w (ResPost (redP s n d) 3 w) := by
  have hR : redP s n d = if 32 < (nat (n / Nat.gcd n d)).length ∨ 32 < (nat (d / Nat.gcd n d)).length then none else some (s && decide (0 < n / Nat.gcd n d), n / Nat.gcd n d, d / Nat.gcd n d) := rfl
  by_cases h1 : 32 < (nat (n / Nat.gcd n d)).length
  · rw [hR, if_pos (.inl h1)]
    cases s
    · exact made_nf n d hd0 hn hd h1 va vb w ha hb
    · exact made_nt n d hd0 hn hd h1 va vb w ha hb
  · by_cases h2 : 32 < (nat (d / Nat.gcd n d)).length
    · rw [hR, if_pos (.inr h2)]
      cases s
      · exact made_df n d hd0 hn hd h1 h2 va vb w ha hb
      · exact made_dt n d hd0 hn hd h1 h2 va vb w ha hb
    · rw [hR, if_neg (by omega)]
      by_cases h3 : 0 < (nat (n / Nat.gcd n d)).length
      · rw [decide_eq_true (nat_len_pos.1 h3)]
        cases s
        · exact made_pf n d hd0 hn hd h1 h2 h3 va vb w ha hb
        · exact made_pt n d hd0 hn hd h1 h2 h3 va vb w ha hb
      · rw [decide_eq_false (fun h => h3 (nat_len_pos.2 h))]
        cases s
        · exact made_zf n d hd0 hn hd h1 h2 h3 va vb w ha hb
        · exact made_zt n d hd0 hn hd h1 h2 h3 va vb w ha hb
theorem Rv.storeZ {X : World} {b : Nat} {s : Bool} {va vb : Value} {q : Rat} (h : Rv X (.agg #[.bool s, va, vb]) q) (hr : ResZ b X) (x0 x1 x2 : Value) : Rv (((X.setCell ⟨b, 0, none⟩ x0).setCell ⟨b, 1, none⟩ x1).setCell ⟨b, 2, none⟩ x2) (.agg #[.bool s, va, vb]) q := by
  obtain ⟨a, b', h1, h2, h3⟩ := h.1
  exact ⟨⟨a, b', h1, natSl_storeZ h2 hr _ _ _, natSl_storeZ h3 hr _ _ _⟩, h.2⟩
theorem u64_len {n : Nat} (h : n < 18446744073709551616) : (nat n).length ≤ 80000 := Nat.le_trans (nat_len_u64 h) (by omega)
set_option maxHeartbeats 4000000 in
theorem e_Of (n d : Int) (h1 : -9223372036854775808 ≤ n) (h2 : n ≤ 9223372036854775807) (h3 : -9223372036854775808 ≤ d) (h4 : d ≤ 9223372036854775807) (h0 : d ≠ 0) (w : World) :
    Calls Tryz.prog 14 #[.int .i64 n, .int .i64 d] w (RatPost (ofq n d) w) := by
  obtain ⟨W, hW⟩ : ∃ W, W = w.alloc (.cells #[.bool false, .slice none 0 0, .slice none 0 0] 25) := ⟨_, rfl⟩
  have B0' : Below w.heap.size w W := by subst hW; exact (Below.refl _ _).alloc (Nat.le_refl _) _
  have HR := Lib.hid (show ResZ w.heap.size W by subst hW; exact row_new4 _ _ _ rfl)
  have hz : w.heap.size < W.heap.size := by subst hW; simp
  have HB := Lib.hid B0'
  have hne : (d == 0) = false := by rw [beq_eq_false_iff_ne]; exact h0
  have HS1 := Lib.hid (c_eSize n h1 h2)
  have HS2 := Lib.hid (c_eSize d h3 h4)
  have HF1 := Lib.hid (c_eFrom n.natAbs (by omega))
  have HF2 := Lib.hid (c_eFrom d.natAbs (by omega))
  have hM : ∀ (X : World) (va vb : Value) (b : Bool), (decide (n < 0) != decide (d < 0)) = b → Ls X va (nat n.natAbs) → Ls X vb (nat d.natAbs) → Calls Tryz.prog 48 #[.bool b, va, vb] X (ResPost (lowR (ofq n d)) 3 X) := by
    intro X va vb b hb ha hd
    have h := c_eMade b n.natAbs d.natAbs (by omega) (u64_len (by omega)) (u64_len (by omega)) va vb X ha hd
    rw [redP_low _ _ (show d.natAbs ≠ 0 by omega), ← hb] at h
    rw [hb] at h
    unfold ofq
    rw [hb]
    exact h
  have HM := Lib.hid hM
  have HSM := Lib.hid (ofq_sm h1 h2 h3 h4 h0)
  have HC := Lib.hid (show (decide (n < 0) != decide (d < 0)) = (decide (n < 0) != decide (d < 0)) from rfl)
  clear hM B0'
  go_enter Tryz.func14, Tryz.ntmps14
  go_wp2_with (fail)
  rw [← hW]
  clear hW
  go_at_call 50
  refine (HS1.out _).mono ?_
  rintro e w1 ⟨rfl, rfl⟩
  go_wp2_with (fail)
  go_at_call 49
  refine (HF1.out _).mono ?_
  rintro e w2 h2'
  obtain ⟨v2, rfl, g2, b2⟩ := h2'.ls
  have HG2 := Lib.hid g2
  have HR2 := Lib.hid (HR.out.on b2 hz)
  have HB2 := Lib.hid (below_join HB.out b2 HB.out.size)
  have hz2 := b2.size
  clear g2 b2 h2'
  go_wp2_with (fail)
  go_at_call 50
  refine (HS2.out _).mono ?_
  rintro e w3 ⟨rfl, rfl⟩
  go_wp2_with (fail)
  go_at_call 49
  refine (HF2.out _).mono ?_
  rintro e w4 h4'
  obtain ⟨v4, rfl, g4, b4⟩ := h4'.ls
  have HG4 := Lib.hid g4
  have HG2' := Lib.hid (HG2.out.on b4)
  have HR4 := Lib.hid (HR2.out.on b4 (by omega))
  have HB4 := Lib.hid (below_join HB2.out b4 HB2.out.size)
  have hz4 := b4.size
  clear g4 b4 h4'
  go_wp2_with (fail)
  go_at_call 48
  refine (HM.out _ _ _ _ rfl HG2'.out HG4.out).mono ?_
  rintro e w5 h5
  obtain ⟨v5, rfl, hv5, b5⟩ := rat_of_res HSM.out h5
  obtain ⟨A5, c5, B5, d5, rfl⟩ := hv5.open
  have HV5 := Lib.hid hv5
  have HR5 := Lib.hid (HR4.out.on b5 (by omega))
  have HB5 := Lib.hid (below_join HB4.out b5 HB4.out.size)
  clear h5 hv5 b5
  obtain ⟨z0, z1, z2⟩ := Rt.cells HR5.out
  obtain ⟨f0, f1, f2⟩ := Rt.frozen HR5.out
  go_wp2_with (fail)
  exact ret3t rfl rfl rfl rfl (row_store3 HR5.out _ _ _) ⟨_, rfl, HV5.out.storeZ HR5.out _ _ _, below_store3 HB5.out (Nat.le_refl _) _ _ _⟩
theorem Rt.cellsA {W : World} {b : Nat} {s : Bool} {va vb : Value} (h : Rt W b s va vb) : (∀ o, (W.alloc o).cell? ⟨b, 0, none⟩ = some (.bool s)) ∧ (∀ o, (W.alloc o).cell? ⟨b, 1, none⟩ = some va) ∧ (∀ o, (W.alloc o).cell? ⟨b, 2, none⟩ = some vb) :=
  ⟨fun o => (h.on ((Below.refl _ _).alloc (Nat.le_refl _) o) h.lt).cells.1, fun o => (h.on ((Below.refl _ _).alloc (Nat.le_refl _) o) h.lt).cells.2.1, fun o => (h.on ((Below.refl _ _).alloc (Nat.le_refl _) o) h.lt).cells.2.2⟩
theorem Rt.frozenA {W : World} {b : Nat} {s : Bool} {va vb : Value} (h : Rt W b s va vb) : (∀ o, (W.alloc o).frozen? ⟨b, 0, none⟩ = false) ∧ (∀ o, (W.alloc o).frozen? ⟨b, 1, none⟩ = false) ∧ (∀ o, (W.alloc o).frozen? ⟨b, 2, none⟩ = false) :=
  ⟨fun o => (h.on ((Below.refl _ _).alloc (Nat.le_refl _) o) h.lt).frozen.1, fun o => (h.on ((Below.refl _ _).alloc (Nat.le_refl _) o) h.lt).frozen.2.1, fun o => (h.on ((Below.refl _ _).alloc (Nat.le_refl _) o) h.lt).frozen.2.2⟩
/-- The law's small fraction. -/
def smq (n d : Int) : Rat := ofq n (if d = 0 then 1 else d)
set_option maxHeartbeats 2000000 in
theorem c_small (n d : Int) (h1 : -32768 ≤ n) (h2 : n ≤ 32767) (h3 : -32768 ≤ d) (h4 : d ≤ 32767) (w : World) : Calls Tryz.prog 42 #[.int .i16 n, .int .i16 d] w fun e w' => ∃ v, e = .returned v ∧ Rv w' v (smq n d) ∧ Below w.heap.size w w' := by
  obtain ⟨W, hW⟩ : ∃ W, W = w.alloc (.cells #[.bool false, .slice none 0 0, .slice none 0 0] 25) := ⟨_, rfl⟩
  have B0' : Below w.heap.size w W := by subst hW; exact (Below.refl _ _).alloc (Nat.le_refl _) _
  have HR := Lib.hid (show ResZ w.heap.size W by subst hW; exact row_new4 _ _ _ rfl)
  have hz : w.heap.size < W.heap.size := by subst hW; simp
  have HB := Lib.hid B0'
  obtain ⟨k, hk, hk1, hk2, hk0⟩ : ∃ k : Int, (if d = 0 then 1 else d) = k ∧ -32768 ≤ k ∧ k ≤ 32767 ∧ k ≠ 0 := ⟨_, rfl, by split <;> omega, by split <;> omega, by split <;> omega⟩
  unfold smq
  rw [hk]
  have HO := Lib.hid (e_Of n k (by omega) (by omega) (by omega) (by omega) hk0)
  have HK := Lib.hid hk
  clear B0' hk
  by_cases hd : d = 0
  · subst hd
    obtain rfl : k = 1 := by have := HK.out; rw [if_pos rfl] at this; exact this.symm
    go_enter Tryz.func42, Tryz.ntmps42
    go_wp2_with (fail)
    rw [← hW]
    clear hW
    go_at_call 14
    refine (HO.out _).mono ?_
    rintro e w1 ⟨v1, rfl, hv1, b1⟩
    obtain ⟨A1, c1, B1, d1, rfl⟩ := hv1.open
    have HV1 := Lib.hid hv1
    have HR1 := Lib.hid (HR.out.on b1 hz)
    have HB1 := Lib.hid (below_join HB.out b1 HB.out.size)
    clear hv1 b1
    obtain ⟨z0, z1, z2⟩ := Rt.cells HR1.out
    obtain ⟨f0, f1, f2⟩ := Rt.frozen HR1.out
    have hz1 : w.heap.size < w1.heap.size := Rt.lt HR1.out
    obtain ⟨g0, g1, g2⟩ := Rt.cellsA HR1.out
    obtain ⟨y0, y1, y2⟩ := Rt.frozenA HR1.out
    go_wp2_with (fail)
    have r1 := row_store3 HR1.out (.bool (qneg (ofq n 1))) (.slice A1 (nat (ofq n 1).num.natAbs).length c1) (.slice B1 (nat (ofq n 1).den).length d1)
    have b5 := below_store3 HB1.out (Nat.le_refl _) (.bool (qneg (ofq n 1))) (.slice A1 (nat (ofq n 1).num.natAbs).length c1) (.slice B1 (nat (ofq n 1).den).length d1)
    exact ret3 (b := w.heap.size) rfl rfl rfl (Rt.on (show Rt _ _ _ _ _ from r1) ((Below.refl _ _).alloc (Nat.le_refl _) _) (Rt.lt r1)) ⟨_, rfl, (HV1.out.storeZ HR1.out _ _ _).on ((Below.refl _ _).alloc (Nat.le_refl _) _), b5.alloc (Nat.le_of_lt (Rt.lt r1)) _⟩
  · have hne : (d == 0) = false := by rw [beq_eq_false_iff_ne]; exact hd
    obtain rfl : d = k := by have := HK.out; rw [if_neg hd] at this; exact this
    go_enter Tryz.func42, Tryz.ntmps42
    go_wp2_with (fail)
    rw [← hW]
    clear hW
    go_at_call 14
    refine (HO.out _).mono ?_
    rintro e w1 ⟨v1, rfl, hv1, b1⟩
    obtain ⟨A1, c1, B1, d1, rfl⟩ := hv1.open
    have HV1 := Lib.hid hv1
    have HR1 := Lib.hid (HR.out.on b1 hz)
    have HB1 := Lib.hid (below_join HB.out b1 HB.out.size)
    clear hv1 b1
    obtain ⟨z0, z1, z2⟩ := Rt.cells HR1.out
    obtain ⟨f0, f1, f2⟩ := Rt.frozen HR1.out
    have hz1 : w.heap.size < w1.heap.size := Rt.lt HR1.out
    obtain ⟨g0, g1, g2⟩ := Rt.cellsA HR1.out
    obtain ⟨y0, y1, y2⟩ := Rt.frozenA HR1.out
    go_wp2_with (fail)
    have r1 := row_store3 HR1.out (.bool (qneg (ofq n d))) (.slice A1 (nat (ofq n d).num.natAbs).length c1) (.slice B1 (nat (ofq n d).den).length d1)
    have b5 := below_store3 HB1.out (Nat.le_refl _) (.bool (qneg (ofq n d))) (.slice A1 (nat (ofq n d).num.natAbs).length c1) (.slice B1 (nat (ofq n d).den).length d1)
    exact ret3 (b := w.heap.size) rfl rfl rfl (Rt.on (show Rt _ _ _ _ _ from r1) ((Below.refl _ _).alloc (Nat.le_refl _) _) (Rt.lt r1)) ⟨_, rfl, (HV1.out.storeZ HR1.out _ _ _).on ((Below.refl _ _).alloc (Nat.le_refl _) _), b5.alloc (Nat.le_of_lt (Rt.lt r1)) _⟩
end Go.Proofs.YtfdkdloldjfnjaaGreatDoor
