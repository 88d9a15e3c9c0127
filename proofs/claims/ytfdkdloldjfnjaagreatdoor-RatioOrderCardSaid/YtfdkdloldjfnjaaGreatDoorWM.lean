/-
  DERIVED. The law RatioOrder. (Written by gen/genWM.py.)
-/
import Derived.Test.YtfdkdloldjfnjaaGreatDoorWL
import Derived.Test.YtfdkdloldjfnjaaGreatDoorYRMm
set_option linter.unusedVariables false
set_option linter.unusedSimpArgs false
namespace Go.Proofs.YtfdkdloldjfnjaaGreatDoor
open Go.RowKit
set_option maxRecDepth 100000

theorem four_below (w : World) (o1 o2 o3 o4 : Obj) : Below w.heap.size w ((((w.alloc o1).alloc o2).alloc o3).alloc o4) :=
  below_join (below_join (below_join (alloc_below w o1) (alloc_below _ o2) (by simp)) (alloc_below _ o3) (by simp <;> omega)) (alloc_below _ o4) (by simp <;> omega)
theorem rest_one {w : World} {q : Rat} {va vb : Value} (h : Rv w (.agg #[.bool (qneg q), va, vb]) q) {W : World}
    (hW : W = (((w.alloc (.cells #[.bool (qneg q), va, vb] 25)).alloc (.cells #[.int .u32 1] 51)).alloc (.cells #[.int .u32 1] 51)).alloc (.cells #[.bool false, .slice (some ⟨w.heap.size + 1, 0, none⟩) 1 1, .slice (some ⟨w.heap.size + 2, 0, none⟩) 1 1] 25)) :
    Bq W w.heap.size q va vb ∧ Bq W (w.heap.size + 3) 1 (.slice (some ⟨w.heap.size + 1, 0, none⟩) 1 1) (.slice (some ⟨w.heap.size + 2, 0, none⟩) 1 1) := by
  subst hW
  refine ⟨(((Bq.new h).on (alloc_below _ _)).on (alloc_below _ _)).on (alloc_below _ _), ?_, ?_⟩
  · rw [rat_one.1]
    have := rt_new' (((w.alloc (.cells #[.bool (qneg q), va, vb] 25)).alloc (.cells #[.int .u32 1] 51)).alloc (.cells #[.int .u32 1] 51)) false (.slice (some ⟨w.heap.size + 1, 0, none⟩) 1 1) (.slice (some ⟨w.heap.size + 2, 0, none⟩) 1 1)
    have e : (((w.alloc (.cells #[.bool (qneg q), va, vb] 25)).alloc (.cells #[.int .u32 1] 51)).alloc (.cells #[.int .u32 1] 51)).heap.size = w.heap.size + 3 := by simp <;> omega
    rw [e] at this
    exact this
  · rw [rat_one.1]
    refine one_made (T := 51) ?_ ?_
    · have h1 := heap_alloc_new (w.alloc (.cells #[.bool (qneg q), va, vb] 25)) (.cells #[.int .u32 1] 51)
      have e : (w.alloc (.cells #[.bool (qneg q), va, vb] 25)).heap.size = w.heap.size + 1 := by simp
      rw [e] at h1
      exact ((below_join (alloc_below _ _) (alloc_below _ _) (by simp)).block _ (by simp <;> omega)).trans h1
    · have h1 := heap_alloc_new ((w.alloc (.cells #[.bool (qneg q), va, vb] 25)).alloc (.cells #[.int .u32 1] 51)) (.cells #[.int .u32 1] 51)
      have e : ((w.alloc (.cells #[.bool (qneg q), va, vb] 25)).alloc (.cells #[.int .u32 1] 51)).heap.size = w.heap.size + 2 := by simp <;> omega
      rw [e] at h1
      exact ((alloc_below _ _).block _ (by simp <;> omega)).trans h1
set_option maxHeartbeats 16000000 in
theorem order_walk (z0 z1 z2 z3 z4 z5 : Int) (x y z d xz yz l rest : Rat) (c n sr : Int) (h1 : Hid (∀ X, Calls Tryz.prog 42 #[.int .i16 z0, .int .i16 z1] X (SmallPost x X))) (h2 : Hid (∀ X, Calls Tryz.prog 42 #[.int .i16 z2, .int .i16 z3] X (SmallPost y X))) (h3 : Hid (∀ X, Calls Tryz.prog 42 #[.int .i16 z4, .int .i16 z5] X (SmallPost z X)))
    (e1 : Hid (qcmp x y = c)) (e2 : Hid (x - y = d ∧ Sm d ∧ sgq d = c)) (e3 : Hid (x + z = xz ∧ Sm xz)) (e4 : Hid (y + z = yz ∧ Sm yz)) (e5 : Hid (qcmp xz yz = c)) (e6 : Hid ((x.floor : Rat) = l ∧ Sm l)) (e7 : Hid (x - l = rest ∧ Sm rest)) (e8 : Hid (qcmp rest 1 = -1)) (e9 : Hid (l = (n : Rat))) (n0 : -9223372036854775808 ≤ n) (n1 : n ≤ 9223372036854775807) (e10 : Hid (ofq n 1 = l)) (e11 : Hid (sgq rest = sr)) (hsr : 0 ≤ sr)
    (w : World) (he : Env w) :
    Calls Tryz.prog 8 #[.agg #[.int .i16 z0, .int .i16 z1, .int .i16 z2, .int .i16 z3, .int .i16 z4, .int .i16 z5]] w fun e w' => e = .returned (.bool true) ∧ Below w.heap.size w w' := by
  have HE0 := Lib.hid he
  obtain ⟨W, hW⟩ : ∃ W, W = w.alloc (.cells #[.int .i16 z0, .int .i16 z1, .int .i16 z2, .int .i16 z3, .int .i16 z4, .int .i16 z5] 47) := ⟨_, rfl⟩
  have HB0 := Lib.hid (show Below w.heap.size w W by subst hW; exact (Below.refl _ _).alloc (Nat.le_refl _) _)
  have HS0 := Lib.hid (show SixC w.heap.size z0 z1 z2 z3 z4 z5 W by subst hW; exact six_row _ _ _ _ _ _ _)
  have hwW : w.heap.size ≤ W.heap.size := HB0.out.size
  clear he
  go_enter Tryz.func8, Tryz.ntmps8
  go_wp2_with (fail)
  rw [← hW]
  clear hW
  refine rgO _ _ _ w.heap.size z0 z1 z2 z3 z4 z5 x y z (by simp) (by simp [Act.eval]) HS0.out (fun d v c b w h => (show _ from h)) h1.out h2.out h3.out ?_
  intro w1 bx by_ bz v1 v2 v3 hb f1 f2 f3 hd
  obtain ⟨ge1, ge2, ge3, ne12, ne13, ne23⟩ := hd
  obtain ⟨A1, c1, B1, d1, rfl, k1⟩ := f1.open
  obtain ⟨A2, c2, B2, d2, rfl, k2⟩ := f2.open
  obtain ⟨A3, c3, B3, d3, rfl, k3⟩ := f3.open
  have HXx := Lib.hid k1
  have HXy := Lib.hid k2
  have HXz := Lib.hid k3
  have HB := Lib.hid (below_join HB0.out hb hwW)
  have HE := Lib.hid (HE0.out.on HB.out)
  clear hb f1 f2 f3 k1 k2 k3 h1 h2 h3 HS0
  simp only [wpO15, wpO16, wpO17, wpO4, wpO9, wpO14, sqO]
  obtain ⟨px_10, rx_10, ux_10⟩ := HXx.out.cells
  obtain ⟨py_10, ry_10, uy_10⟩ := HXy.out.cells
  go_wp2_with (fail)
  clear px_10 rx_10 ux_10 py_10 ry_10 uy_10
  go_at_call 32
  refine (v_CmpAt HE.out HXx.out.rv HXy.out.rv e1.out).mono ?_
  rintro e w11 ⟨rfl, hb11⟩
  replace HXx := Lib.hid (HXx.out.on hb11)
  replace HXy := Lib.hid (HXy.out.on hb11)
  replace HXz := Lib.hid (HXz.out.on hb11)
  replace HE := Lib.hid (HE.out.on hb11)
  replace HB := Lib.hid (below_join HB.out hb11 HB.out.size)
  clear hb11
  obtain ⟨px_11, rx_11, ux_11⟩ := HXx.out.cells
  obtain ⟨py_11, ry_11, uy_11⟩ := HXy.out.cells
  go_wp2_with (fail)
  clear px_11 rx_11 ux_11 py_11 ry_11 uy_11
  go_at_call 25
  refine (v_SubTo HE.out HXx.out.rv HXy.out.rv e2.out.1 e2.out.2.1).mono ?_
  rintro e w12 ⟨v12, rfl, hv12, hb12⟩
  obtain ⟨A12, c12, B12, d12, rfl⟩ := hv12.open
  replace HXx := Lib.hid (HXx.out.on hb12)
  replace HXy := Lib.hid (HXy.out.on hb12)
  replace HXz := Lib.hid (HXz.out.on hb12)
  replace HE := Lib.hid (HE.out.on hb12)
  replace HB := Lib.hid (below_join HB.out hb12 HB.out.size)
  clear hb12
  obtain ⟨W12, hW12⟩ : ∃ W, W = w12.alloc (.cells #[.bool (qneg d), (.slice A12 (nat d.num.natAbs).length c12), (.slice B12 (nat d.den).length d12)] 25) := ⟨_, rfl⟩
  have hbW12 : Below w12.heap.size w12 W12 := by subst hW12; exact (Below.refl _ _).alloc (Nat.le_refl _) _
  have HXd := Lib.hid (show Bq W12 w12.heap.size d (.slice A12 (nat d.num.natAbs).length c12) (.slice B12 (nat d.den).length d12) by subst hW12; exact Bq.new hv12)
  clear hv12
  go_wp2_with (fail)
  rw [← hW12]
  clear hW12
  replace HXx := Lib.hid (HXx.out.on hbW12)
  replace HXy := Lib.hid (HXy.out.on hbW12)
  replace HXz := Lib.hid (HXz.out.on hbW12)
  replace HE := Lib.hid (HE.out.on hbW12)
  replace HB := Lib.hid (below_join HB.out hbW12 HB.out.size)
  clear hbW12
  go_at_call 44
  refine (c_sign HXd.out.rv e2.out.2.2).mono ?_
  rintro e w13 ⟨rfl, hb13⟩
  replace HXx := Lib.hid (HXx.out.on hb13)
  replace HXy := Lib.hid (HXy.out.on hb13)
  replace HXz := Lib.hid (HXz.out.on hb13)
  replace HXd := Lib.hid (HXd.out.on hb13)
  replace HE := Lib.hid (HE.out.on hb13)
  replace HB := Lib.hid (below_join HB.out hb13 HB.out.size)
  clear hb13
  obtain ⟨px_13, rx_13, ux_13⟩ := HXx.out.cells
  obtain ⟨pz_13, rz_13, uz_13⟩ := HXz.out.cells
  go_wp2_with (fail)
  clear px_13 rx_13 ux_13 pz_13 rz_13 uz_13
  go_at_call 24
  refine (v_AddTo HE.out HXx.out.rv HXz.out.rv e3.out.1 e3.out.2).mono ?_
  rintro e w14 ⟨v14, rfl, hv14, hb14⟩
  obtain ⟨A14, c14, B14, d14, rfl⟩ := hv14.open
  replace HXx := Lib.hid (HXx.out.on hb14)
  replace HXy := Lib.hid (HXy.out.on hb14)
  replace HXz := Lib.hid (HXz.out.on hb14)
  replace HXd := Lib.hid (HXd.out.on hb14)
  replace HE := Lib.hid (HE.out.on hb14)
  replace HB := Lib.hid (below_join HB.out hb14 HB.out.size)
  clear hb14
  obtain ⟨W14, hW14⟩ : ∃ W, W = w14.alloc (.cells #[.bool (qneg xz), (.slice A14 (nat xz.num.natAbs).length c14), (.slice B14 (nat xz.den).length d14)] 25) := ⟨_, rfl⟩
  have hbW14 : Below w14.heap.size w14 W14 := by subst hW14; exact (Below.refl _ _).alloc (Nat.le_refl _) _
  have HXxz := Lib.hid (show Bq W14 w14.heap.size xz (.slice A14 (nat xz.num.natAbs).length c14) (.slice B14 (nat xz.den).length d14) by subst hW14; exact Bq.new hv14)
  clear hv14
  obtain ⟨py_14, ry_14, uy_14⟩ := HXy.out.cellsA
  obtain ⟨pz_14, rz_14, uz_14⟩ := HXz.out.cellsA
  go_wp2_with (fail)
  clear py_14 ry_14 uy_14 pz_14 rz_14 uz_14
  rw [← hW14]
  clear hW14
  replace HXx := Lib.hid (HXx.out.on hbW14)
  replace HXy := Lib.hid (HXy.out.on hbW14)
  replace HXz := Lib.hid (HXz.out.on hbW14)
  replace HXd := Lib.hid (HXd.out.on hbW14)
  replace HE := Lib.hid (HE.out.on hbW14)
  replace HB := Lib.hid (below_join HB.out hbW14 HB.out.size)
  clear hbW14
  go_at_call 24
  refine (v_AddTo HE.out HXy.out.rv HXz.out.rv e4.out.1 e4.out.2).mono ?_
  rintro e w15 ⟨v15, rfl, hv15, hb15⟩
  obtain ⟨A15, c15, B15, d15, rfl⟩ := hv15.open
  replace HXx := Lib.hid (HXx.out.on hb15)
  replace HXy := Lib.hid (HXy.out.on hb15)
  replace HXz := Lib.hid (HXz.out.on hb15)
  replace HXd := Lib.hid (HXd.out.on hb15)
  replace HXxz := Lib.hid (HXxz.out.on hb15)
  replace HE := Lib.hid (HE.out.on hb15)
  replace HB := Lib.hid (below_join HB.out hb15 HB.out.size)
  clear hb15
  obtain ⟨W15, hW15⟩ : ∃ W, W = w15.alloc (.cells #[.bool (qneg yz), (.slice A15 (nat yz.num.natAbs).length c15), (.slice B15 (nat yz.den).length d15)] 25) := ⟨_, rfl⟩
  have hbW15 : Below w15.heap.size w15 W15 := by subst hW15; exact (Below.refl _ _).alloc (Nat.le_refl _) _
  have HXyz := Lib.hid (show Bq W15 w15.heap.size yz (.slice A15 (nat yz.num.natAbs).length c15) (.slice B15 (nat yz.den).length d15) by subst hW15; exact Bq.new hv15)
  clear hv15
  obtain ⟨pxz_15, rxz_15, uxz_15⟩ := HXxz.out.cellsA
  go_wp2_with (fail)
  clear pxz_15 rxz_15 uxz_15
  rw [← hW15]
  clear hW15
  replace HXx := Lib.hid (HXx.out.on hbW15)
  replace HXy := Lib.hid (HXy.out.on hbW15)
  replace HXz := Lib.hid (HXz.out.on hbW15)
  replace HXd := Lib.hid (HXd.out.on hbW15)
  replace HXxz := Lib.hid (HXxz.out.on hbW15)
  replace HE := Lib.hid (HE.out.on hbW15)
  replace HB := Lib.hid (below_join HB.out hbW15 HB.out.size)
  clear hbW15
  go_at_call 32
  refine (v_CmpAt HE.out HXxz.out.rv HXyz.out.rv e5.out).mono ?_
  rintro e w16 ⟨rfl, hb16⟩
  replace HXx := Lib.hid (HXx.out.on hb16)
  replace HXy := Lib.hid (HXy.out.on hb16)
  replace HXz := Lib.hid (HXz.out.on hb16)
  replace HXd := Lib.hid (HXd.out.on hb16)
  replace HXxz := Lib.hid (HXxz.out.on hb16)
  replace HXyz := Lib.hid (HXyz.out.on hb16)
  replace HE := Lib.hid (HE.out.on hb16)
  replace HB := Lib.hid (below_join HB.out hb16 HB.out.size)
  clear hb16
  obtain ⟨px_16, rx_16, ux_16⟩ := HXx.out.cells
  go_wp2_with (fail)
  clear px_16 rx_16 ux_16
  go_at_call 34
  refine (v_FloorTo HE.out HXx.out.rv e6.out.1 e6.out.2).mono ?_
  rintro e w17 ⟨v17, rfl, hv17, hb17⟩
  obtain ⟨A17, c17, B17, d17, rfl⟩ := hv17.open
  replace HXx := Lib.hid (HXx.out.on hb17)
  replace HXy := Lib.hid (HXy.out.on hb17)
  replace HXz := Lib.hid (HXz.out.on hb17)
  replace HXd := Lib.hid (HXd.out.on hb17)
  replace HXxz := Lib.hid (HXxz.out.on hb17)
  replace HXyz := Lib.hid (HXyz.out.on hb17)
  replace HE := Lib.hid (HE.out.on hb17)
  replace HB := Lib.hid (below_join HB.out hb17 HB.out.size)
  clear hb17
  obtain ⟨W17, hW17⟩ : ∃ W, W = w17.alloc (.cells #[.bool (qneg l), (.slice A17 (nat l.num.natAbs).length c17), (.slice B17 (nat l.den).length d17)] 25) := ⟨_, rfl⟩
  have hbW17 : Below w17.heap.size w17 W17 := by subst hW17; exact (Below.refl _ _).alloc (Nat.le_refl _) _
  have HXl := Lib.hid (show Bq W17 w17.heap.size l (.slice A17 (nat l.num.natAbs).length c17) (.slice B17 (nat l.den).length d17) by subst hW17; exact Bq.new hv17)
  clear hv17
  obtain ⟨px_17, rx_17, ux_17⟩ := HXx.out.cellsA
  go_wp2_with (fail)
  clear px_17 rx_17 ux_17
  rw [← hW17]
  clear hW17
  replace HXx := Lib.hid (HXx.out.on hbW17)
  replace HXy := Lib.hid (HXy.out.on hbW17)
  replace HXz := Lib.hid (HXz.out.on hbW17)
  replace HXd := Lib.hid (HXd.out.on hbW17)
  replace HXxz := Lib.hid (HXxz.out.on hbW17)
  replace HXyz := Lib.hid (HXyz.out.on hbW17)
  replace HE := Lib.hid (HE.out.on hbW17)
  replace HB := Lib.hid (below_join HB.out hbW17 HB.out.size)
  clear hbW17
  go_at_call 25
  refine (v_SubTo HE.out HXx.out.rv HXl.out.rv e7.out.1 e7.out.2).mono ?_
  rintro e w18 ⟨v18, rfl, hv18, hb18⟩
  obtain ⟨A18, c18, B18, d18, rfl⟩ := hv18.open
  replace HXx := Lib.hid (HXx.out.on hb18)
  replace HXy := Lib.hid (HXy.out.on hb18)
  replace HXz := Lib.hid (HXz.out.on hb18)
  replace HXd := Lib.hid (HXd.out.on hb18)
  replace HXxz := Lib.hid (HXxz.out.on hb18)
  replace HXyz := Lib.hid (HXyz.out.on hb18)
  replace HXl := Lib.hid (HXl.out.on hb18)
  replace HE := Lib.hid (HE.out.on hb18)
  replace HB := Lib.hid (below_join HB.out hb18 HB.out.size)
  clear hb18
  obtain ⟨W18, hW18⟩ : ∃ W, W = (((w18.alloc (.cells #[.bool (qneg rest), (.slice A18 (nat rest.num.natAbs).length c18), (.slice B18 (nat rest.den).length d18)] 25)).alloc (.cells #[.int .u32 1] 51)).alloc (.cells #[.int .u32 1] 51)).alloc (.cells #[.bool false, .slice (some ⟨w18.heap.size + 1, 0, none⟩) 1 1, .slice (some ⟨w18.heap.size + 2, 0, none⟩) 1 1] 25) := ⟨_, rfl⟩
  have hbW18 : Below w18.heap.size w18 W18 := by subst hW18; exact four_below _ _ _ _ _
  obtain ⟨HX1, HX2⟩ := rest_one hv18 hW18
  have HXrest := Lib.hid HX1
  have HXone := Lib.hid HX2
  clear HX1 HX2 hv18
  go_wp2_with (fail)
  rw [← hW18]
  clear hW18
  replace HXx := Lib.hid (HXx.out.on hbW18)
  replace HXy := Lib.hid (HXy.out.on hbW18)
  replace HXz := Lib.hid (HXz.out.on hbW18)
  replace HXd := Lib.hid (HXd.out.on hbW18)
  replace HXxz := Lib.hid (HXxz.out.on hbW18)
  replace HXyz := Lib.hid (HXyz.out.on hbW18)
  replace HXl := Lib.hid (HXl.out.on hbW18)
  replace HE := Lib.hid (HE.out.on hbW18)
  replace HB := Lib.hid (below_join HB.out hbW18 HB.out.size)
  clear hbW18
  go_at_call 32
  refine (v_CmpAt HE.out HXrest.out.rv HXone.out.rv e8.out).mono ?_
  rintro e w19 ⟨rfl, hb19⟩
  replace HXx := Lib.hid (HXx.out.on hb19)
  replace HXy := Lib.hid (HXy.out.on hb19)
  replace HXz := Lib.hid (HXz.out.on hb19)
  replace HXd := Lib.hid (HXd.out.on hb19)
  replace HXxz := Lib.hid (HXxz.out.on hb19)
  replace HXyz := Lib.hid (HXyz.out.on hb19)
  replace HXl := Lib.hid (HXl.out.on hb19)
  replace HXrest := Lib.hid (HXrest.out.on hb19)
  replace HXone := Lib.hid (HXone.out.on hb19)
  replace HE := Lib.hid (HE.out.on hb19)
  replace HB := Lib.hid (below_join HB.out hb19 HB.out.size)
  clear hb19
  obtain ⟨pl_19, rl_19, ul_19⟩ := HXl.out.cells
  go_wp2_with (fail)
  clear pl_19 rl_19 ul_19
  go_at_call 36
  refine (v_IntTo HE.out HXl.out.rv e9.out n0 n1).mono ?_
  rintro e w20 ⟨rfl, hb20⟩
  replace HXx := Lib.hid (HXx.out.on hb20)
  replace HXy := Lib.hid (HXy.out.on hb20)
  replace HXz := Lib.hid (HXz.out.on hb20)
  replace HXd := Lib.hid (HXd.out.on hb20)
  replace HXxz := Lib.hid (HXxz.out.on hb20)
  replace HXyz := Lib.hid (HXyz.out.on hb20)
  replace HXl := Lib.hid (HXl.out.on hb20)
  replace HXrest := Lib.hid (HXrest.out.on hb20)
  replace HXone := Lib.hid (HXone.out.on hb20)
  replace HE := Lib.hid (HE.out.on hb20)
  replace HB := Lib.hid (below_join HB.out hb20 HB.out.size)
  clear hb20
  go_wp2_with (fail)
  go_at_call 13
  refine (v_OfTo n0 n1 e10.out _ HE.out).mono ?_
  rintro e w21 ⟨v21, rfl, hv21, hb21⟩
  obtain ⟨A21, c21, B21, d21, rfl⟩ := hv21.open
  replace HXx := Lib.hid (HXx.out.on hb21)
  replace HXy := Lib.hid (HXy.out.on hb21)
  replace HXz := Lib.hid (HXz.out.on hb21)
  replace HXd := Lib.hid (HXd.out.on hb21)
  replace HXxz := Lib.hid (HXxz.out.on hb21)
  replace HXyz := Lib.hid (HXyz.out.on hb21)
  replace HXl := Lib.hid (HXl.out.on hb21)
  replace HXrest := Lib.hid (HXrest.out.on hb21)
  replace HXone := Lib.hid (HXone.out.on hb21)
  replace HE := Lib.hid (HE.out.on hb21)
  replace HB := Lib.hid (below_join HB.out hb21 HB.out.size)
  clear hb21
  obtain ⟨W21, hW21⟩ : ∃ W, W = w21.alloc (.cells #[.bool (qneg l), (.slice A21 (nat l.num.natAbs).length c21), (.slice B21 (nat l.den).length d21)] 25) := ⟨_, rfl⟩
  have hbW21 : Below w21.heap.size w21 W21 := by subst hW21; exact (Below.refl _ _).alloc (Nat.le_refl _) _
  have HXb := Lib.hid (show Bq W21 w21.heap.size l (.slice A21 (nat l.num.natAbs).length c21) (.slice B21 (nat l.den).length d21) by subst hW21; exact Bq.new hv21)
  clear hv21
  obtain ⟨prest_21, rrest_21, urest_21⟩ := HXrest.out.cellsA
  go_wp2_with (fail)
  clear prest_21 rrest_21 urest_21
  rw [← hW21]
  clear hW21
  replace HXx := Lib.hid (HXx.out.on hbW21)
  replace HXy := Lib.hid (HXy.out.on hbW21)
  replace HXz := Lib.hid (HXz.out.on hbW21)
  replace HXd := Lib.hid (HXd.out.on hbW21)
  replace HXxz := Lib.hid (HXxz.out.on hbW21)
  replace HXyz := Lib.hid (HXyz.out.on hbW21)
  replace HXl := Lib.hid (HXl.out.on hbW21)
  replace HXrest := Lib.hid (HXrest.out.on hbW21)
  replace HXone := Lib.hid (HXone.out.on hbW21)
  replace HE := Lib.hid (HE.out.on hbW21)
  replace HB := Lib.hid (below_join HB.out hbW21 HB.out.size)
  clear hbW21
  go_at_call 44
  refine (c_sign HXrest.out.rv e11.out).mono ?_
  rintro e w22 ⟨rfl, hb22⟩
  replace HXx := Lib.hid (HXx.out.on hb22)
  replace HXy := Lib.hid (HXy.out.on hb22)
  replace HXz := Lib.hid (HXz.out.on hb22)
  replace HXd := Lib.hid (HXd.out.on hb22)
  replace HXxz := Lib.hid (HXxz.out.on hb22)
  replace HXyz := Lib.hid (HXyz.out.on hb22)
  replace HXl := Lib.hid (HXl.out.on hb22)
  replace HXrest := Lib.hid (HXrest.out.on hb22)
  replace HXone := Lib.hid (HXone.out.on hb22)
  replace HXb := Lib.hid (HXb.out.on hb22)
  replace HE := Lib.hid (HE.out.on hb22)
  replace HB := Lib.hid (below_join HB.out hb22 HB.out.size)
  clear hb22
  obtain ⟨pb_22, rb_22, ub_22⟩ := HXb.out.cells
  obtain ⟨pl_22, rl_22, ul_22⟩ := HXl.out.cells
  go_wp2_with (fail)
  clear pb_22 rb_22 ub_22 pl_22 rl_22 ul_22
  go_at_call 43
  refine (c_equal HXb.out.rv HXl.out.rv).mono ?_
  rintro e w23 ⟨rfl, hb23⟩
  replace HXx := Lib.hid (HXx.out.on hb23)
  replace HXy := Lib.hid (HXy.out.on hb23)
  replace HXz := Lib.hid (HXz.out.on hb23)
  replace HXd := Lib.hid (HXd.out.on hb23)
  replace HXxz := Lib.hid (HXxz.out.on hb23)
  replace HXyz := Lib.hid (HXyz.out.on hb23)
  replace HXl := Lib.hid (HXl.out.on hb23)
  replace HXrest := Lib.hid (HXrest.out.on hb23)
  replace HXone := Lib.hid (HXone.out.on hb23)
  replace HXb := Lib.hid (HXb.out.on hb23)
  replace HE := Lib.hid (HE.out.on hb23)
  replace HB := Lib.hid (below_join HB.out hb23 HB.out.size)
  clear hb23
  go_wp2_with (fail)
  go_at_call 23
  refine (c_works _ HE.out).mono ?_
  rintro e w24 ⟨rfl, hb24⟩
  replace HXx := Lib.hid (HXx.out.on hb24)
  replace HXy := Lib.hid (HXy.out.on hb24)
  replace HXz := Lib.hid (HXz.out.on hb24)
  replace HXd := Lib.hid (HXd.out.on hb24)
  replace HXxz := Lib.hid (HXxz.out.on hb24)
  replace HXyz := Lib.hid (HXyz.out.on hb24)
  replace HXl := Lib.hid (HXl.out.on hb24)
  replace HXrest := Lib.hid (HXrest.out.on hb24)
  replace HXone := Lib.hid (HXone.out.on hb24)
  replace HXb := Lib.hid (HXb.out.on hb24)
  replace HE := Lib.hid (HE.out.on hb24)
  replace HB := Lib.hid (below_join HB.out hb24 HB.out.size)
  clear hb24
  go_wp2_with (fail)
  go_ret
  exact ⟨rfl, HB.out⟩
end Go.Proofs.YtfdkdloldjfnjaaGreatDoor
