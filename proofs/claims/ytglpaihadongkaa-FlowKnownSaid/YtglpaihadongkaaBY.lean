/-
  DERIVED. works of the law (stage 5).
-/
import Derived.Test.YtglpaihadongkaaBX
namespace Go.Proofs.Ytglpaihadongkaa
open Go.RowKit Go.Shelf
set_option maxRecDepth 100000
set_option linter.unusedSimpArgs false
set_option linter.unusedVariables false

set_option maxHeartbeats 8000000 in
theorem c_works (w : World) : Calls Try.prog 18 #[] w fun e w' => e = .returned (.bool true) ∧ Below w.heap.size w w' := by
  have HS := Lib.hid (c_sample w)
  have HM := Lib.hid (fun (A : Option Addr) (c : Nat) (X : World) (hX : PtSl X (.slice A 5 c) smpL) => (show Calls Try.prog 19 #[.agg #[.int .i64 4, .slice A 5 c], .int .i64 0, .int .i64 3] X (MxPost 4 0 3 smpL X) from c_Max0 4 0 3 (.slice A 5 c) smpL (by decide) (by decide) (by decide) X hX (by decide +kernel)))
  have HC := Lib.hid (fun (A : Option Addr) (c : Nat) (X : World) (hX : PtSl X (.slice A 5 c) smpL) => (show Calls Try.prog 22 #[.agg #[.int .i64 4, .slice A 5 c], .int .i64 0, .int .i64 3] X (CtPost 4 0 3 smpL X) from c_Cut0 4 0 3 (.slice A 5 c) smpL (by decide) (by decide) (by decide) X hX (by decide +kernel)))
  have HR := Lib.hid (fun (A : Option Addr) (c : Nat) (X : World) (hX : PtSl X (.slice A 5 c) smpL) => (show Calls Try.prog 25 #[.agg #[.int .i64 4, .slice A 5 c], .int .i64 0, .int .i64 3] X (CrPost 4 0 3 smpL X) from c_Critical0 4 0 3 (.slice A 5 c) smpL (by decide) (by decide) (by decide) X hX (by decide +kernel)))
  have HV := Lib.hid (fun (A : Option Addr) (c : Nat) (X : World) (hX : PtSl X (.slice A 5 c) smpL) => c_Valid 4 (.slice A 5 c) smpL X hX true (by decide +kernel))
  have HA := Lib.hid (fun (A : Option Addr) (c : Nat) (S : Value) (X : World) (hX : PtSl X (.slice A 5 c) smpL) (hS : IntSl X S [0, 1]) => c_Across 4 (.slice A 5 c) S smpL [0, 1] X hX hS 9 0 (by decide +kernel))
  have HK := Lib.hid (fun (A : Option Addr) (c : Nat) (S : Value) (X : World) (hX : PtSl X (.slice A 5 c) smpL) (hS : IntSl X S [1, 1, 0, 1, 1]) => c_Check 4 (.slice A 5 c) S smpL 0 3 [1, 1, 0, 1, 1] X hX hS 2 0 (by decide +kernel))
  unfold ntV at HV HA HK
  go_enter Try.func18, Try.ntmps18
  go_wp2_with (fail)
  go_at_call 30
  refine HS.out.mono ?_
  rintro e w1 ⟨P, rfl, hP, b1⟩
  have HP1 := Lib.hid hP
  obtain ⟨A, c, hPe, -, -⟩ := hP.shape
  obtain rfl : P = .slice A 5 c := hPe
  have HB1 := Lib.hid b1
  unfold ntV
  clear hP b1
  obtain ⟨V, hV⟩ : ∃ V, V = w1.alloc (.cells #[.int .i64 4, .slice A 5 c] 24) := ⟨_, rfl⟩
  have BV : Below w1.heap.size w1 V := by subst hV; exact (Below.refl _ _).alloc (Nat.le_refl _) _
  have HBV := Lib.hid (below_join HB1.out BV HB1.out.size)
  have HLV := Lib.hid (show V.heap[w1.heap.size]? = some (.cells #[.int .i64 4, .slice A 5 c] 24 (0, 0)) by subst hV; exact heap_alloc_new _ _)
  have HPV := Lib.hid (HP1.out.on BV (Nat.le_refl _))
  have hzV := at_lt HLV.out
  have HX := Lib.hid (fun (X : World) (hX : Below V.heap.size V X) => (⟨⟨cell_of ((hX.block _ hzV).trans HLV.out) rfl, cell_of ((hX.block _ hzV).trans HLV.out) rfl⟩, HPV.out.on hX (Nat.le_refl _)⟩ : (X.cell? ⟨w1.heap.size, 0, none⟩ = some (.int .i64 4) ∧ X.cell? ⟨w1.heap.size, 1, none⟩ = some (.slice A 5 c)) ∧ PtSl X (.slice A 5 c) smpL))
  clear BV
  obtain ⟨⟨x0, x1⟩, p0⟩ := HX.out V (Below.refl _ _)
  rw [hV] at x0 x1
  go_wp2_with (fail)
  rw [← hV]
  clear hV x0 x1
  go_at_call 19
  refine (HM.out A c V p0).mono ?_
  rintro e w2 ⟨lf, val, v2, rfl, hbest, hown2, b2⟩
  obtain rfl := smp_val hbest.gr
  have hll : lf.length = 5 := by rw [ends_len hbest.ends_, arsOf_len]; rfl
  rw [hll] at hown2
  obtain ⟨A2, c2, rfl⟩ : ∃ A2 c2, v2 = .slice A2 5 c2 := by
    obtain ⟨k1, ⟨-, k2⟩ | ⟨g, cap, cur, e, -⟩⟩ := hown2
    · cases k2
    · exact ⟨_, _, e⟩
  have HB2 := Lib.hid b2
  clear hbest hown2 hll p0 b2
  obtain ⟨⟨x0, x1⟩, p0⟩ := HX.out w2 HB2.out
  go_wp2_with (fail)
  go_at_call 22
  refine (HC.out A c w2 p0).mono ?_
  rintro e w3 ⟨lf3, val3, v3, xs3, rfl, hbest, hxs, hown3, b3⟩
  have h3 := smp_cut hbest.gr
  rw [← hxs] at h3
  subst h3
  have HI3 := Lib.hid (own_intSl (l := [0]) hown3)
  obtain ⟨A3, c3, hv3, -, -⟩ := HI3.out.shape
  obtain rfl : v3 = .slice A3 1 c3 := hv3
  have HB3 := Lib.hid (below_join HB2.out b3 HB2.out.size)
  clear hbest hxs hown3 p0 b3 x0 x1
  obtain ⟨⟨x0, x1⟩, p0⟩ := HX.out w3 HB3.out
  go_wp2_with (fail)
  go_at_call 16
  refine (HV.out A c w3 p0).mono ?_
  rintro e w4 ⟨rfl, b4⟩
  have HB4 := Lib.hid (below_join HB3.out b4 HB3.out.size)
  have HI4 := Lib.hid (HI3.out.on b4 (Nat.le_refl _))
  obtain ⟨W4, hW4⟩ : ∃ X, X = w4.alloc (.cells #[.int .i64 0] 3) := ⟨_, rfl⟩
  have hb4 : Below w4.heap.size w4 W4 := by subst hW4; exact (Below.refl _ _).alloc (Nat.le_refl _) _
  have HBW4 := Lib.hid (below_join HB4.out hb4 HB4.out.size)
  have HQ4 := Lib.hid (c_eqInts [0] [0] true rfl (.slice A3 1 c3) (.slice (some ⟨w4.heap.size, 0, none⟩) 1 1) W4 (HI4.out.on hb4 (Nat.le_refl _)) (by subst hW4; exact intSl_one w4 0))
  clear p0 b4 x0 x1 hb4
  go_wp2_with (fail)
  rw [← hW4]
  clear hW4
  go_at_call 24
  refine HQ4.out.mono ?_
  rintro e w5 ⟨rfl, n5, rfl⟩
  have HB5 := Lib.hid (below_drewN (n := n5) HBW4.out)
  clear HQ4
  obtain ⟨⟨x0, x1⟩, p0⟩ := HX.out _ HB5.out
  go_wp2_with (fail)
  go_at_call 25
  refine (HR.out A c _ p0).mono ?_
  rintro e w6 ⟨lf6, val6, v6, xs6, rfl, hbest, hxs, hown6, b6⟩
  have h6 := smp_crit hbest
  rw [show xs6 = [0, 1, 2, 3, 4] from hxs.trans h6] at hown6
  have HI6 := Lib.hid (own_intSl (l := [0, 1, 2, 3, 4]) hown6)
  obtain ⟨A6, c6, hv6, -, -⟩ := HI6.out.shape
  obtain rfl : v6 = .slice A6 5 c6 := hv6
  have HB6 := Lib.hid (below_join HB5.out b6 HB5.out.size)
  clear hbest hxs hown6 p0 b6 x0 x1 h6
  obtain ⟨W6, hW6⟩ : ∃ X, X = w6.alloc (.cells #[.int .i64 0, .int .i64 1] 3) := ⟨_, rfl⟩
  have hb6 : Below w6.heap.size w6 W6 := by subst hW6; exact (Below.refl _ _).alloc (Nat.le_refl _) _
  have HBW6 := Lib.hid (below_join HB6.out hb6 HB6.out.size)
  have HIW6 := Lib.hid (HI6.out.on hb6 (Nat.le_refl _))
  have HS6 := Lib.hid (show IntSl W6 (.slice (some ⟨w6.heap.size, 0, none⟩) 2 2) [0, 1] by subst hW6; exact intSl_lit [0, 1] (heap_alloc_new _ _) rfl (by decide) (by decide))
  clear hb6
  obtain ⟨⟨x0, x1⟩, -⟩ := HX.out w6 HB6.out
  have p0 := (HX.out W6 HBW6.out).2
  go_wp2_with (fail)
  rw [← hW6]
  clear hW6
  go_at_call 14
  refine (HA.out A c _ W6 p0 HS6.out).mono ?_
  rintro e w7 ⟨rfl, b7⟩
  have HB7 := Lib.hid (below_join HBW6.out b7 HBW6.out.size)
  have HI7 := Lib.hid (HIW6.out.on b7 (Nat.le_refl _))
  clear p0 b7 x0 x1 HS6
  obtain ⟨W7, hW7⟩ : ∃ X, X = w7.alloc (.cells #[.int .i64 1, .int .i64 1, .int .i64 0, .int .i64 1, .int .i64 1] 3) := ⟨_, rfl⟩
  have hb7 : Below w7.heap.size w7 W7 := by subst hW7; exact (Below.refl _ _).alloc (Nat.le_refl _) _
  have HBW7 := Lib.hid (below_join HB7.out hb7 HB7.out.size)
  have HIW7 := Lib.hid (HI7.out.on hb7 (Nat.le_refl _))
  have HS7 := Lib.hid (show IntSl W7 (.slice (some ⟨w7.heap.size, 0, none⟩) 5 5) [1, 1, 0, 1, 1] by subst hW7; exact intSl_lit [1, 1, 0, 1, 1] (heap_alloc_new _ _) rfl (by decide) (by decide))
  clear hb7
  obtain ⟨⟨x0, x1⟩, -⟩ := HX.out w7 HB7.out
  have p0 := (HX.out W7 HBW7.out).2
  go_wp2_with (fail)
  rw [← hW7]
  clear hW7
  go_at_call 11
  refine (HK.out A c _ W7 p0 HS7.out).mono ?_
  rintro e w8 ⟨rfl, b8⟩
  have HB8 := Lib.hid (below_join HBW7.out b8 HBW7.out.size)
  have HI8 := Lib.hid (HIW7.out.on b8 (Nat.le_refl _))
  clear p0 b8 x0 x1 HS7
  obtain ⟨W8, hW8⟩ : ∃ X, X = w8.alloc (.cells #[.int .i64 0, .int .i64 1, .int .i64 2, .int .i64 3, .int .i64 4] 3) := ⟨_, rfl⟩
  have hb8 : Below w8.heap.size w8 W8 := by subst hW8; exact (Below.refl _ _).alloc (Nat.le_refl _) _
  have HBW8 := Lib.hid (below_join HB8.out hb8 HB8.out.size)
  have HQ8 := Lib.hid (c_eqInts [0, 1, 2, 3, 4] [0, 1, 2, 3, 4] true rfl (.slice A6 5 c6) (.slice (some ⟨w8.heap.size, 0, none⟩) 5 5) W8 (HI8.out.on hb8 (Nat.le_refl _)) (by subst hW8; exact intSl_lit [0, 1, 2, 3, 4] (heap_alloc_new _ _) rfl (by decide) (by decide)))
  clear hb8
  go_wp2_with (fail)
  rw [← hW8]
  clear hW8
  go_at_call 24
  refine HQ8.out.mono ?_
  rintro e w9 ⟨rfl, n9, rfl⟩
  have HB9 := Lib.hid (below_join HBV.out (below_drewN (n := n9) HBW8.out) HBV.out.size)
  clear HQ8
  go_wp2_with (fail)
  go_ret
  exact ⟨rfl, HB9.out⟩
end Go.Proofs.Ytglpaihadongkaa
