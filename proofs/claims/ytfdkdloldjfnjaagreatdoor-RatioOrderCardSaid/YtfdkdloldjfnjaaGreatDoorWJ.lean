/-
  DERIVED. The law RatioField. (Written by gen/genWI.py.)
-/
import Derived.Test.YtfdkdloldjfnjaaGreatDoorWI
set_option linter.unusedVariables false
set_option linter.unusedSimpArgs false
namespace Go.Proofs.YtfdkdloldjfnjaaGreatDoor
open Go.RowKit
set_option maxRecDepth 100000

set_option maxHeartbeats 16000000 in
theorem field_p (z0 z1 z2 z3 z4 z5 : Int) (x y z xy yz s3 p r s4 : Rat) (h1 : Hid (∀ X, Calls Tryz.prog 42 #[.int .i16 z0, .int .i16 z1] X (SmallPost x X))) (h2 : Hid (∀ X, Calls Tryz.prog 42 #[.int .i16 z2, .int .i16 z3] X (SmallPost y X))) (h3 : Hid (∀ X, Calls Tryz.prog 42 #[.int .i16 z4, .int .i16 z5] X (SmallPost z X)))
    (hx : Hid (Sm x)) (e1 : Hid (x + y = xy ∧ y + x = xy ∧ Sm xy)) (e2 : Hid (xy - y = x)) (e3 : Hid (y + z = yz ∧ Sm yz)) (e4 : Hid (xy + z = s3 ∧ x + yz = s3 ∧ Sm s3)) (e5 : Hid (x * y = p ∧ y * x = p ∧ Sm p)) (e6 : Hid (x * z = r ∧ Sm r)) (e7 : Hid (p + r = s4 ∧ x * yz = s4 ∧ Sm s4)) (e8 : Hid (y ≠ 0 ∧ p / y = x)) (hl : (((nat y.num.natAbs).length : Int) == 0) = false)
    (w : World) (he : Env w) :
    Calls Tryz.prog 7 #[.agg #[.int .i16 z0, .int .i16 z1, .int .i16 z2, .int .i16 z3, .int .i16 z4, .int .i16 z5]] w fun e w' => e = .returned (.bool true) ∧ Below w.heap.size w w' := by
  have HE0 := Lib.hid he
  obtain ⟨W, hW⟩ : ∃ W, W = w.alloc (.cells #[.int .i16 z0, .int .i16 z1, .int .i16 z2, .int .i16 z3, .int .i16 z4, .int .i16 z5] 47) := ⟨_, rfl⟩
  have HB0 := Lib.hid (show Below w.heap.size w W by subst hW; exact (Below.refl _ _).alloc (Nat.le_refl _) _)
  have HS0 := Lib.hid (show SixC w.heap.size z0 z1 z2 z3 z4 z5 W by subst hW; exact six_row _ _ _ _ _ _ _)
  have hwW : w.heap.size ≤ W.heap.size := HB0.out.size
  clear he
  go_enter Tryz.func7, Tryz.ntmps7
  go_wp2_with (fail)
  rw [← hW]
  clear hW
  refine rgF _ _ _ w.heap.size z0 z1 z2 z3 z4 z5 x y z (by simp) (by simp [Act.eval]) HS0.out (fun d v c b w h => (show _ from h)) h1.out h2.out h3.out ?_
  intro w1 bx by_ bz v1 v2 v3 hb f1 f2 f3 hd
  obtain ⟨ge1, ge2, ge3, ne12, ne13, ne23⟩ := hd
  obtain ⟨A1, c1, B1, d1, rfl, k1⟩ := f1.open
  obtain ⟨A2, c2, B2, d2, rfl, k2⟩ := f2.open
  obtain ⟨A3, c3, B3, d3, rfl, k3⟩ := f3.open
  have HXx := Lib.hid k1
  have HXy := Lib.hid k2
  have HXz := Lib.hid k3
  have HB := Lib.hid (below_join HB0.out hb hwW)
  have HE := Lib.hid (HE0.out.on HB.out)
  clear hb f1 f2 f3 k1 k2 k3 h1 h2 h3 HS0
  simp only [wpF15, wpF16, wpF17, wpF4, wpF9, wpF14, sqF]
  obtain ⟨px_10, rx_10, ux_10⟩ := HXx.out.cells
  obtain ⟨py_10, ry_10, uy_10⟩ := HXy.out.cells
  go_wp2_with (fail)
  clear px_10 rx_10 ux_10 py_10 ry_10 uy_10
  go_at_call 24
  refine (v_AddTo HE.out HXx.out.rv HXy.out.rv e1.out.1 e1.out.2.2).mono ?_
  rintro e w11 ⟨v11, rfl, hv11, hb11⟩
  obtain ⟨A11, c11, B11, d11, rfl⟩ := hv11.open
  replace HXx := Lib.hid (HXx.out.on hb11)
  replace HXy := Lib.hid (HXy.out.on hb11)
  replace HXz := Lib.hid (HXz.out.on hb11)
  replace HE := Lib.hid (HE.out.on hb11)
  replace HB := Lib.hid (below_join HB.out hb11 HB.out.size)
  clear hb11
  obtain ⟨W11, hW11⟩ : ∃ W, W = w11.alloc (.cells #[.bool (qneg xy), (.slice A11 (nat xy.num.natAbs).length c11), (.slice B11 (nat xy.den).length d11)] 25) := ⟨_, rfl⟩
  have hbW11 : Below w11.heap.size w11 W11 := by subst hW11; exact (Below.refl _ _).alloc (Nat.le_refl _) _
  have HXxy := Lib.hid (show Bq W11 w11.heap.size xy (.slice A11 (nat xy.num.natAbs).length c11) (.slice B11 (nat xy.den).length d11) by subst hW11; exact Bq.new hv11)
  clear hv11
  obtain ⟨py_11, ry_11, uy_11⟩ := HXy.out.cellsA
  obtain ⟨px_11, rx_11, ux_11⟩ := HXx.out.cellsA
  go_wp2_with (fail)
  clear py_11 ry_11 uy_11 px_11 rx_11 ux_11
  rw [← hW11]
  clear hW11
  replace HXx := Lib.hid (HXx.out.on hbW11)
  replace HXy := Lib.hid (HXy.out.on hbW11)
  replace HXz := Lib.hid (HXz.out.on hbW11)
  replace HE := Lib.hid (HE.out.on hbW11)
  replace HB := Lib.hid (below_join HB.out hbW11 HB.out.size)
  clear hbW11
  go_at_call 24
  refine (v_AddTo HE.out HXy.out.rv HXx.out.rv e1.out.2.1 e1.out.2.2).mono ?_
  rintro e w12 ⟨v12, rfl, hv12, hb12⟩
  obtain ⟨A12, c12, B12, d12, rfl⟩ := hv12.open
  replace HXx := Lib.hid (HXx.out.on hb12)
  replace HXy := Lib.hid (HXy.out.on hb12)
  replace HXz := Lib.hid (HXz.out.on hb12)
  replace HXxy := Lib.hid (HXxy.out.on hb12)
  replace HE := Lib.hid (HE.out.on hb12)
  replace HB := Lib.hid (below_join HB.out hb12 HB.out.size)
  clear hb12
  obtain ⟨W12, hW12⟩ : ∃ W, W = w12.alloc (.cells #[.bool (qneg xy), (.slice A12 (nat xy.num.natAbs).length c12), (.slice B12 (nat xy.den).length d12)] 25) := ⟨_, rfl⟩
  have hbW12 : Below w12.heap.size w12 W12 := by subst hW12; exact (Below.refl _ _).alloc (Nat.le_refl _) _
  have HXyx := Lib.hid (show Bq W12 w12.heap.size xy (.slice A12 (nat xy.num.natAbs).length c12) (.slice B12 (nat xy.den).length d12) by subst hW12; exact Bq.new hv12)
  clear hv12
  obtain ⟨pxy_12, rxy_12, uxy_12⟩ := HXxy.out.cellsA
  go_wp2_with (fail)
  clear pxy_12 rxy_12 uxy_12
  rw [← hW12]
  clear hW12
  replace HXx := Lib.hid (HXx.out.on hbW12)
  replace HXy := Lib.hid (HXy.out.on hbW12)
  replace HXz := Lib.hid (HXz.out.on hbW12)
  replace HXxy := Lib.hid (HXxy.out.on hbW12)
  replace HE := Lib.hid (HE.out.on hbW12)
  replace HB := Lib.hid (below_join HB.out hbW12 HB.out.size)
  clear hbW12
  go_at_call 43
  refine (c_equal HXxy.out.rv HXyx.out.rv).mono ?_
  rintro e w13 ⟨rfl, hb13⟩
  replace HXx := Lib.hid (HXx.out.on hb13)
  replace HXy := Lib.hid (HXy.out.on hb13)
  replace HXz := Lib.hid (HXz.out.on hb13)
  replace HXxy := Lib.hid (HXxy.out.on hb13)
  replace HXyx := Lib.hid (HXyx.out.on hb13)
  replace HE := Lib.hid (HE.out.on hb13)
  replace HB := Lib.hid (below_join HB.out hb13 HB.out.size)
  clear hb13
  obtain ⟨pxy_13, rxy_13, uxy_13⟩ := HXxy.out.cells
  obtain ⟨py_13, ry_13, uy_13⟩ := HXy.out.cells
  go_wp2_with (fail)
  clear pxy_13 rxy_13 uxy_13 py_13 ry_13 uy_13
  go_at_call 25
  refine (v_SubTo HE.out HXxy.out.rv HXy.out.rv e2.out hx.out).mono ?_
  rintro e w14 ⟨v14, rfl, hv14, hb14⟩
  obtain ⟨A14, c14, B14, d14, rfl⟩ := hv14.open
  replace HXx := Lib.hid (HXx.out.on hb14)
  replace HXy := Lib.hid (HXy.out.on hb14)
  replace HXz := Lib.hid (HXz.out.on hb14)
  replace HXxy := Lib.hid (HXxy.out.on hb14)
  replace HXyx := Lib.hid (HXyx.out.on hb14)
  replace HE := Lib.hid (HE.out.on hb14)
  replace HB := Lib.hid (below_join HB.out hb14 HB.out.size)
  clear hb14
  have lt_x_back : bx < w14.heap.size := HXx.out.1.lt
  have lt_y_back : by_ < w14.heap.size := HXy.out.1.lt
  have lt_z_back : bz < w14.heap.size := HXz.out.1.lt
  have lt_xy_back : w11.heap.size < w14.heap.size := HXxy.out.1.lt
  have lt_yx_back : w12.heap.size < w14.heap.size := HXyx.out.1.lt
  have ge_back : w.heap.size ≤ w14.heap.size := HB.out.size
  obtain ⟨W14, hW14⟩ : ∃ W, W = w14.alloc (.cells #[.bool (qneg x), (.slice A14 (nat x.num.natAbs).length c14), (.slice B14 (nat x.den).length d14)] 25) := ⟨_, rfl⟩
  have hbW14 : Below w14.heap.size w14 W14 := by subst hW14; exact (Below.refl _ _).alloc (Nat.le_refl _) _
  have HXback := Lib.hid (show Bq W14 w14.heap.size x (.slice A14 (nat x.num.natAbs).length c14) (.slice B14 (nat x.den).length d14) by subst hW14; exact Bq.new hv14)
  clear hv14
  obtain ⟨px_14, rx_14, ux_14⟩ := HXx.out.cellsA
  go_wp2_with (fail)
  clear px_14 rx_14 ux_14
  rw [← hW14]
  clear hW14
  replace HXx := Lib.hid (HXx.out.on hbW14)
  replace HXy := Lib.hid (HXy.out.on hbW14)
  replace HXz := Lib.hid (HXz.out.on hbW14)
  replace HXxy := Lib.hid (HXxy.out.on hbW14)
  replace HXyx := Lib.hid (HXyx.out.on hbW14)
  replace HE := Lib.hid (HE.out.on hbW14)
  replace HB := Lib.hid (below_join HB.out hbW14 HB.out.size)
  clear hbW14
  go_at_call 43
  refine (c_equal HXback.out.rv HXx.out.rv).mono ?_
  rintro e w15 ⟨rfl, hb15⟩
  replace HXx := Lib.hid (HXx.out.on hb15)
  replace HXy := Lib.hid (HXy.out.on hb15)
  replace HXz := Lib.hid (HXz.out.on hb15)
  replace HXxy := Lib.hid (HXxy.out.on hb15)
  replace HXyx := Lib.hid (HXyx.out.on hb15)
  replace HXback := Lib.hid (HXback.out.on hb15)
  replace HE := Lib.hid (HE.out.on hb15)
  replace HB := Lib.hid (below_join HB.out hb15 HB.out.size)
  clear hb15
  obtain ⟨py_15, ry_15, uy_15⟩ := HXy.out.cells
  obtain ⟨pz_15, rz_15, uz_15⟩ := HXz.out.cells
  go_wp2_with (fail)
  clear py_15 ry_15 uy_15 pz_15 rz_15 uz_15
  go_at_call 24
  refine (v_AddTo HE.out HXy.out.rv HXz.out.rv e3.out.1 e3.out.2).mono ?_
  rintro e w16 ⟨v16, rfl, hv16, hb16⟩
  obtain ⟨A16, c16, B16, d16, rfl⟩ := hv16.open
  replace HXx := Lib.hid (HXx.out.on hb16)
  replace HXy := Lib.hid (HXy.out.on hb16)
  replace HXz := Lib.hid (HXz.out.on hb16)
  replace HXxy := Lib.hid (HXxy.out.on hb16)
  replace HXyx := Lib.hid (HXyx.out.on hb16)
  replace HXback := Lib.hid (HXback.out.on hb16)
  replace HE := Lib.hid (HE.out.on hb16)
  replace HB := Lib.hid (below_join HB.out hb16 HB.out.size)
  clear hb16
  have lt_back_yz : w14.heap.size < w16.heap.size := HXback.out.1.lt
  obtain ⟨W16, hW16⟩ : ∃ W, W = w16.alloc (.cells #[.bool (qneg yz), (.slice A16 (nat yz.num.natAbs).length c16), (.slice B16 (nat yz.den).length d16)] 25) := ⟨_, rfl⟩
  have hbW16 : Below w16.heap.size w16 W16 := by subst hW16; exact (Below.refl _ _).alloc (Nat.le_refl _) _
  have HXyz := Lib.hid (show Bq W16 w16.heap.size yz (.slice A16 (nat yz.num.natAbs).length c16) (.slice B16 (nat yz.den).length d16) by subst hW16; exact Bq.new hv16)
  clear hv16
  obtain ⟨pxy_16, rxy_16, uxy_16⟩ := HXxy.out.cellsA
  obtain ⟨pz_16, rz_16, uz_16⟩ := HXz.out.cellsA
  go_wp2_with (fail)
  clear pxy_16 rxy_16 uxy_16 pz_16 rz_16 uz_16
  rw [← hW16]
  clear hW16
  replace HXx := Lib.hid (HXx.out.on hbW16)
  replace HXy := Lib.hid (HXy.out.on hbW16)
  replace HXz := Lib.hid (HXz.out.on hbW16)
  replace HXxy := Lib.hid (HXxy.out.on hbW16)
  replace HXyx := Lib.hid (HXyx.out.on hbW16)
  replace HXback := Lib.hid (HXback.out.on hbW16)
  replace HE := Lib.hid (HE.out.on hbW16)
  replace HB := Lib.hid (below_join HB.out hbW16 HB.out.size)
  clear hbW16
  go_at_call 24
  refine (v_AddTo HE.out HXxy.out.rv HXz.out.rv e4.out.1 e4.out.2.2).mono ?_
  rintro e w17 ⟨v17, rfl, hv17, hb17⟩
  obtain ⟨A17, c17, B17, d17, rfl⟩ := hv17.open
  replace HXx := Lib.hid (HXx.out.on hb17)
  replace HXy := Lib.hid (HXy.out.on hb17)
  replace HXz := Lib.hid (HXz.out.on hb17)
  replace HXxy := Lib.hid (HXxy.out.on hb17)
  replace HXyx := Lib.hid (HXyx.out.on hb17)
  replace HXback := Lib.hid (HXback.out.on hb17)
  replace HXyz := Lib.hid (HXyz.out.on hb17)
  replace HE := Lib.hid (HE.out.on hb17)
  replace HB := Lib.hid (below_join HB.out hb17 HB.out.size)
  clear hb17
  have lt_x_a : bx < w17.heap.size := HXx.out.1.lt
  have lt_y_a : by_ < w17.heap.size := HXy.out.1.lt
  have lt_z_a : bz < w17.heap.size := HXz.out.1.lt
  have lt_xy_a : w11.heap.size < w17.heap.size := HXxy.out.1.lt
  have lt_yx_a : w12.heap.size < w17.heap.size := HXyx.out.1.lt
  have lt_back_a : w14.heap.size < w17.heap.size := HXback.out.1.lt
  have lt_yz_a : w16.heap.size < w17.heap.size := HXyz.out.1.lt
  have ge_a : w.heap.size ≤ w17.heap.size := HB.out.size
  obtain ⟨W17, hW17⟩ : ∃ W, W = w17.alloc (.cells #[.bool (qneg s3), (.slice A17 (nat s3.num.natAbs).length c17), (.slice B17 (nat s3.den).length d17)] 25) := ⟨_, rfl⟩
  have hbW17 : Below w17.heap.size w17 W17 := by subst hW17; exact (Below.refl _ _).alloc (Nat.le_refl _) _
  have HXa := Lib.hid (show Bq W17 w17.heap.size s3 (.slice A17 (nat s3.num.natAbs).length c17) (.slice B17 (nat s3.den).length d17) by subst hW17; exact Bq.new hv17)
  clear hv17
  obtain ⟨px_17, rx_17, ux_17⟩ := HXx.out.cellsA
  obtain ⟨pyz_17, ryz_17, uyz_17⟩ := HXyz.out.cellsA
  go_wp2_with (fail)
  clear px_17 rx_17 ux_17 pyz_17 ryz_17 uyz_17
  rw [← hW17]
  clear hW17
  replace HXx := Lib.hid (HXx.out.on hbW17)
  replace HXy := Lib.hid (HXy.out.on hbW17)
  replace HXz := Lib.hid (HXz.out.on hbW17)
  replace HXxy := Lib.hid (HXxy.out.on hbW17)
  replace HXyx := Lib.hid (HXyx.out.on hbW17)
  replace HXback := Lib.hid (HXback.out.on hbW17)
  replace HXyz := Lib.hid (HXyz.out.on hbW17)
  replace HE := Lib.hid (HE.out.on hbW17)
  replace HB := Lib.hid (below_join HB.out hbW17 HB.out.size)
  clear hbW17
  go_at_call 24
  refine (v_AddTo HE.out HXx.out.rv HXyz.out.rv e4.out.2.1 e4.out.2.2).mono ?_
  rintro e w18 ⟨v18, rfl, hv18, hb18⟩
  obtain ⟨A18, c18, B18, d18, rfl⟩ := hv18.open
  replace HXx := Lib.hid (HXx.out.on hb18)
  replace HXy := Lib.hid (HXy.out.on hb18)
  replace HXz := Lib.hid (HXz.out.on hb18)
  replace HXxy := Lib.hid (HXxy.out.on hb18)
  replace HXyx := Lib.hid (HXyx.out.on hb18)
  replace HXback := Lib.hid (HXback.out.on hb18)
  replace HXyz := Lib.hid (HXyz.out.on hb18)
  replace HXa := Lib.hid (HXa.out.on hb18)
  replace HE := Lib.hid (HE.out.on hb18)
  replace HB := Lib.hid (below_join HB.out hb18 HB.out.size)
  clear hb18
  have lt_x_b : bx < w18.heap.size := HXx.out.1.lt
  have lt_y_b : by_ < w18.heap.size := HXy.out.1.lt
  have lt_z_b : bz < w18.heap.size := HXz.out.1.lt
  have lt_xy_b : w11.heap.size < w18.heap.size := HXxy.out.1.lt
  have lt_yx_b : w12.heap.size < w18.heap.size := HXyx.out.1.lt
  have lt_back_b : w14.heap.size < w18.heap.size := HXback.out.1.lt
  have lt_yz_b : w16.heap.size < w18.heap.size := HXyz.out.1.lt
  have lt_a_b : w17.heap.size < w18.heap.size := HXa.out.1.lt
  have ge_b : w.heap.size ≤ w18.heap.size := HB.out.size
  obtain ⟨W18, hW18⟩ : ∃ W, W = w18.alloc (.cells #[.bool (qneg s3), (.slice A18 (nat s3.num.natAbs).length c18), (.slice B18 (nat s3.den).length d18)] 25) := ⟨_, rfl⟩
  have hbW18 : Below w18.heap.size w18 W18 := by subst hW18; exact (Below.refl _ _).alloc (Nat.le_refl _) _
  have HXb := Lib.hid (show Bq W18 w18.heap.size s3 (.slice A18 (nat s3.num.natAbs).length c18) (.slice B18 (nat s3.den).length d18) by subst hW18; exact Bq.new hv18)
  clear hv18
  obtain ⟨pa_18, ra_18, ua_18⟩ := HXa.out.cellsA
  go_wp2_with (fail)
  clear pa_18 ra_18 ua_18
  rw [← hW18]
  clear hW18
  replace HXx := Lib.hid (HXx.out.on hbW18)
  replace HXy := Lib.hid (HXy.out.on hbW18)
  replace HXz := Lib.hid (HXz.out.on hbW18)
  replace HXxy := Lib.hid (HXxy.out.on hbW18)
  replace HXyx := Lib.hid (HXyx.out.on hbW18)
  replace HXback := Lib.hid (HXback.out.on hbW18)
  replace HXyz := Lib.hid (HXyz.out.on hbW18)
  replace HXa := Lib.hid (HXa.out.on hbW18)
  replace HE := Lib.hid (HE.out.on hbW18)
  replace HB := Lib.hid (below_join HB.out hbW18 HB.out.size)
  clear hbW18
  go_at_call 43
  refine (c_equal HXa.out.rv HXb.out.rv).mono ?_
  rintro e w19 ⟨rfl, hb19⟩
  replace HXx := Lib.hid (HXx.out.on hb19)
  replace HXy := Lib.hid (HXy.out.on hb19)
  replace HXz := Lib.hid (HXz.out.on hb19)
  replace HXxy := Lib.hid (HXxy.out.on hb19)
  replace HXyx := Lib.hid (HXyx.out.on hb19)
  replace HXback := Lib.hid (HXback.out.on hb19)
  replace HXyz := Lib.hid (HXyz.out.on hb19)
  replace HXa := Lib.hid (HXa.out.on hb19)
  replace HXb := Lib.hid (HXb.out.on hb19)
  replace HE := Lib.hid (HE.out.on hb19)
  replace HB := Lib.hid (below_join HB.out hb19 HB.out.size)
  clear hb19
  obtain ⟨px_19, rx_19, ux_19⟩ := HXx.out.cells
  obtain ⟨py_19, ry_19, uy_19⟩ := HXy.out.cells
  go_wp2_with (fail)
  clear px_19 rx_19 ux_19 py_19 ry_19 uy_19
  go_at_call 26
  refine (v_MulTo HE.out HXx.out.rv HXy.out.rv e5.out.1 e5.out.2.2).mono ?_
  rintro e w20 ⟨v20, rfl, hv20, hb20⟩
  obtain ⟨A20, c20, B20, d20, rfl⟩ := hv20.open
  replace HXx := Lib.hid (HXx.out.on hb20)
  replace HXy := Lib.hid (HXy.out.on hb20)
  replace HXz := Lib.hid (HXz.out.on hb20)
  replace HXxy := Lib.hid (HXxy.out.on hb20)
  replace HXyx := Lib.hid (HXyx.out.on hb20)
  replace HXback := Lib.hid (HXback.out.on hb20)
  replace HXyz := Lib.hid (HXyz.out.on hb20)
  replace HXa := Lib.hid (HXa.out.on hb20)
  replace HXb := Lib.hid (HXb.out.on hb20)
  replace HE := Lib.hid (HE.out.on hb20)
  replace HB := Lib.hid (below_join HB.out hb20 HB.out.size)
  clear hb20
  have lt_back_p : w14.heap.size < w20.heap.size := HXback.out.1.lt
  have lt_a_p : w17.heap.size < w20.heap.size := HXa.out.1.lt
  have lt_b_p : w18.heap.size < w20.heap.size := HXb.out.1.lt
  obtain ⟨W20, hW20⟩ : ∃ W, W = w20.alloc (.cells #[.bool (qneg p), (.slice A20 (nat p.num.natAbs).length c20), (.slice B20 (nat p.den).length d20)] 25) := ⟨_, rfl⟩
  have hbW20 : Below w20.heap.size w20 W20 := by subst hW20; exact (Below.refl _ _).alloc (Nat.le_refl _) _
  have HXp := Lib.hid (show Bq W20 w20.heap.size p (.slice A20 (nat p.num.natAbs).length c20) (.slice B20 (nat p.den).length d20) by subst hW20; exact Bq.new hv20)
  clear hv20
  obtain ⟨py_20, ry_20, uy_20⟩ := HXy.out.cellsA
  obtain ⟨px_20, rx_20, ux_20⟩ := HXx.out.cellsA
  go_wp2_with (fail)
  clear py_20 ry_20 uy_20 px_20 rx_20 ux_20
  rw [← hW20]
  clear hW20
  replace HXx := Lib.hid (HXx.out.on hbW20)
  replace HXy := Lib.hid (HXy.out.on hbW20)
  replace HXz := Lib.hid (HXz.out.on hbW20)
  replace HXxy := Lib.hid (HXxy.out.on hbW20)
  replace HXyx := Lib.hid (HXyx.out.on hbW20)
  replace HXback := Lib.hid (HXback.out.on hbW20)
  replace HXyz := Lib.hid (HXyz.out.on hbW20)
  replace HXa := Lib.hid (HXa.out.on hbW20)
  replace HXb := Lib.hid (HXb.out.on hbW20)
  replace HE := Lib.hid (HE.out.on hbW20)
  replace HB := Lib.hid (below_join HB.out hbW20 HB.out.size)
  clear hbW20
  go_at_call 26
  refine (v_MulTo HE.out HXy.out.rv HXx.out.rv e5.out.2.1 e5.out.2.2).mono ?_
  rintro e w21 ⟨v21, rfl, hv21, hb21⟩
  obtain ⟨A21, c21, B21, d21, rfl⟩ := hv21.open
  replace HXx := Lib.hid (HXx.out.on hb21)
  replace HXy := Lib.hid (HXy.out.on hb21)
  replace HXz := Lib.hid (HXz.out.on hb21)
  replace HXxy := Lib.hid (HXxy.out.on hb21)
  replace HXyx := Lib.hid (HXyx.out.on hb21)
  replace HXback := Lib.hid (HXback.out.on hb21)
  replace HXyz := Lib.hid (HXyz.out.on hb21)
  replace HXa := Lib.hid (HXa.out.on hb21)
  replace HXb := Lib.hid (HXb.out.on hb21)
  replace HXp := Lib.hid (HXp.out.on hb21)
  replace HE := Lib.hid (HE.out.on hb21)
  replace HB := Lib.hid (below_join HB.out hb21 HB.out.size)
  clear hb21
  have lt_back_q : w14.heap.size < w21.heap.size := HXback.out.1.lt
  have lt_a_q : w17.heap.size < w21.heap.size := HXa.out.1.lt
  have lt_b_q : w18.heap.size < w21.heap.size := HXb.out.1.lt
  obtain ⟨W21, hW21⟩ : ∃ W, W = w21.alloc (.cells #[.bool (qneg p), (.slice A21 (nat p.num.natAbs).length c21), (.slice B21 (nat p.den).length d21)] 25) := ⟨_, rfl⟩
  have hbW21 : Below w21.heap.size w21 W21 := by subst hW21; exact (Below.refl _ _).alloc (Nat.le_refl _) _
  have HXq := Lib.hid (show Bq W21 w21.heap.size p (.slice A21 (nat p.num.natAbs).length c21) (.slice B21 (nat p.den).length d21) by subst hW21; exact Bq.new hv21)
  clear hv21
  obtain ⟨pp_21, rp_21, up_21⟩ := HXp.out.cellsA
  go_wp2_with (fail)
  clear pp_21 rp_21 up_21
  rw [← hW21]
  clear hW21
  replace HXx := Lib.hid (HXx.out.on hbW21)
  replace HXy := Lib.hid (HXy.out.on hbW21)
  replace HXz := Lib.hid (HXz.out.on hbW21)
  replace HXxy := Lib.hid (HXxy.out.on hbW21)
  replace HXyx := Lib.hid (HXyx.out.on hbW21)
  replace HXback := Lib.hid (HXback.out.on hbW21)
  replace HXyz := Lib.hid (HXyz.out.on hbW21)
  replace HXa := Lib.hid (HXa.out.on hbW21)
  replace HXb := Lib.hid (HXb.out.on hbW21)
  replace HXp := Lib.hid (HXp.out.on hbW21)
  replace HE := Lib.hid (HE.out.on hbW21)
  replace HB := Lib.hid (below_join HB.out hbW21 HB.out.size)
  clear hbW21
  go_at_call 43
  refine (c_equal HXp.out.rv HXq.out.rv).mono ?_
  rintro e w22 ⟨rfl, hb22⟩
  replace HXx := Lib.hid (HXx.out.on hb22)
  replace HXy := Lib.hid (HXy.out.on hb22)
  replace HXz := Lib.hid (HXz.out.on hb22)
  replace HXxy := Lib.hid (HXxy.out.on hb22)
  replace HXyx := Lib.hid (HXyx.out.on hb22)
  replace HXback := Lib.hid (HXback.out.on hb22)
  replace HXyz := Lib.hid (HXyz.out.on hb22)
  replace HXa := Lib.hid (HXa.out.on hb22)
  replace HXb := Lib.hid (HXb.out.on hb22)
  replace HXp := Lib.hid (HXp.out.on hb22)
  replace HXq := Lib.hid (HXq.out.on hb22)
  replace HE := Lib.hid (HE.out.on hb22)
  replace HB := Lib.hid (below_join HB.out hb22 HB.out.size)
  clear hb22
  obtain ⟨px_22, rx_22, ux_22⟩ := HXx.out.cells
  obtain ⟨pz_22, rz_22, uz_22⟩ := HXz.out.cells
  go_wp2_with (fail)
  clear px_22 rx_22 ux_22 pz_22 rz_22 uz_22
  go_at_call 26
  refine (v_MulTo HE.out HXx.out.rv HXz.out.rv e6.out.1 e6.out.2).mono ?_
  rintro e w23 ⟨v23, rfl, hv23, hb23⟩
  obtain ⟨A23, c23, B23, d23, rfl⟩ := hv23.open
  replace HXx := Lib.hid (HXx.out.on hb23)
  replace HXy := Lib.hid (HXy.out.on hb23)
  replace HXz := Lib.hid (HXz.out.on hb23)
  replace HXxy := Lib.hid (HXxy.out.on hb23)
  replace HXyx := Lib.hid (HXyx.out.on hb23)
  replace HXback := Lib.hid (HXback.out.on hb23)
  replace HXyz := Lib.hid (HXyz.out.on hb23)
  replace HXa := Lib.hid (HXa.out.on hb23)
  replace HXb := Lib.hid (HXb.out.on hb23)
  replace HXp := Lib.hid (HXp.out.on hb23)
  replace HXq := Lib.hid (HXq.out.on hb23)
  replace HE := Lib.hid (HE.out.on hb23)
  replace HB := Lib.hid (below_join HB.out hb23 HB.out.size)
  clear hb23
  have lt_back_r : w14.heap.size < w23.heap.size := HXback.out.1.lt
  have lt_a_r : w17.heap.size < w23.heap.size := HXa.out.1.lt
  have lt_b_r : w18.heap.size < w23.heap.size := HXb.out.1.lt
  obtain ⟨W23, hW23⟩ : ∃ W, W = w23.alloc (.cells #[.bool (qneg r), (.slice A23 (nat r.num.natAbs).length c23), (.slice B23 (nat r.den).length d23)] 25) := ⟨_, rfl⟩
  have hbW23 : Below w23.heap.size w23 W23 := by subst hW23; exact (Below.refl _ _).alloc (Nat.le_refl _) _
  have HXr := Lib.hid (show Bq W23 w23.heap.size r (.slice A23 (nat r.num.natAbs).length c23) (.slice B23 (nat r.den).length d23) by subst hW23; exact Bq.new hv23)
  clear hv23
  obtain ⟨pp_23, rp_23, up_23⟩ := HXp.out.cellsA
  go_wp2_with (fail)
  clear pp_23 rp_23 up_23
  rw [← hW23]
  clear hW23
  replace HXx := Lib.hid (HXx.out.on hbW23)
  replace HXy := Lib.hid (HXy.out.on hbW23)
  replace HXz := Lib.hid (HXz.out.on hbW23)
  replace HXxy := Lib.hid (HXxy.out.on hbW23)
  replace HXyx := Lib.hid (HXyx.out.on hbW23)
  replace HXback := Lib.hid (HXback.out.on hbW23)
  replace HXyz := Lib.hid (HXyz.out.on hbW23)
  replace HXa := Lib.hid (HXa.out.on hbW23)
  replace HXb := Lib.hid (HXb.out.on hbW23)
  replace HXp := Lib.hid (HXp.out.on hbW23)
  replace HXq := Lib.hid (HXq.out.on hbW23)
  replace HE := Lib.hid (HE.out.on hbW23)
  replace HB := Lib.hid (below_join HB.out hbW23 HB.out.size)
  clear hbW23
  go_at_call 24
  refine (v_AddTo HE.out HXp.out.rv HXr.out.rv e7.out.1 e7.out.2.2).mono ?_
  rintro e w24 ⟨v24, rfl, hv24, hb24⟩
  obtain ⟨A24, c24, B24, d24, rfl⟩ := hv24.open
  replace HXx := Lib.hid (HXx.out.on hb24)
  replace HXy := Lib.hid (HXy.out.on hb24)
  replace HXz := Lib.hid (HXz.out.on hb24)
  replace HXxy := Lib.hid (HXxy.out.on hb24)
  replace HXyx := Lib.hid (HXyx.out.on hb24)
  replace HXback := Lib.hid (HXback.out.on hb24)
  replace HXyz := Lib.hid (HXyz.out.on hb24)
  replace HXa := Lib.hid (HXa.out.on hb24)
  replace HXb := Lib.hid (HXb.out.on hb24)
  replace HXp := Lib.hid (HXp.out.on hb24)
  replace HXq := Lib.hid (HXq.out.on hb24)
  replace HXr := Lib.hid (HXr.out.on hb24)
  replace HE := Lib.hid (HE.out.on hb24)
  replace HB := Lib.hid (below_join HB.out hb24 HB.out.size)
  clear hb24
  obtain ⟨W24, hW24⟩ : ∃ W, W = ((w24.setCell ⟨w17.heap.size, 0, none⟩ (.bool (qneg s4))).setCell ⟨w17.heap.size, 1, none⟩ (.slice A24 (nat s4.num.natAbs).length c24)).setCell ⟨w17.heap.size, 2, none⟩ (.slice B24 (nat s4.den).length d24) := ⟨_, rfl⟩
  have HYx := Lib.hid (show Bq W24 bx x (.slice A1 (nat x.num.natAbs).length c1) (.slice B1 (nat x.den).length d1) by subst hW24; exact HXx.out.storeO HXa.out.1 (by omega) _ _ _)
  have HYy := Lib.hid (show Bq W24 by_ y (.slice A2 (nat y.num.natAbs).length c2) (.slice B2 (nat y.den).length d2) by subst hW24; exact HXy.out.storeO HXa.out.1 (by omega) _ _ _)
  have HYz := Lib.hid (show Bq W24 bz z (.slice A3 (nat z.num.natAbs).length c3) (.slice B3 (nat z.den).length d3) by subst hW24; exact HXz.out.storeO HXa.out.1 (by omega) _ _ _)
  have HYxy := Lib.hid (show Bq W24 w11.heap.size xy (.slice A11 (nat xy.num.natAbs).length c11) (.slice B11 (nat xy.den).length d11) by subst hW24; exact HXxy.out.storeO HXa.out.1 (by omega) _ _ _)
  have HYyx := Lib.hid (show Bq W24 w12.heap.size xy (.slice A12 (nat xy.num.natAbs).length c12) (.slice B12 (nat xy.den).length d12) by subst hW24; exact HXyx.out.storeO HXa.out.1 (by omega) _ _ _)
  have HYback := Lib.hid (show Bq W24 w14.heap.size x (.slice A14 (nat x.num.natAbs).length c14) (.slice B14 (nat x.den).length d14) by subst hW24; exact HXback.out.storeO HXa.out.1 (by omega) _ _ _)
  have HYyz := Lib.hid (show Bq W24 w16.heap.size yz (.slice A16 (nat yz.num.natAbs).length c16) (.slice B16 (nat yz.den).length d16) by subst hW24; exact HXyz.out.storeO HXa.out.1 (by omega) _ _ _)
  have HYb := Lib.hid (show Bq W24 w18.heap.size s3 (.slice A18 (nat s3.num.natAbs).length c18) (.slice B18 (nat s3.den).length d18) by subst hW24; exact HXb.out.storeO HXa.out.1 (by omega) _ _ _)
  have HYp := Lib.hid (show Bq W24 w20.heap.size p (.slice A20 (nat p.num.natAbs).length c20) (.slice B20 (nat p.den).length d20) by subst hW24; exact HXp.out.storeO HXa.out.1 (by omega) _ _ _)
  have HYq := Lib.hid (show Bq W24 w21.heap.size p (.slice A21 (nat p.num.natAbs).length c21) (.slice B21 (nat p.den).length d21) by subst hW24; exact HXq.out.storeO HXa.out.1 (by omega) _ _ _)
  have HYr := Lib.hid (show Bq W24 w23.heap.size r (.slice A23 (nat r.num.natAbs).length c23) (.slice B23 (nat r.den).length d23) by subst hW24; exact HXr.out.storeO HXa.out.1 (by omega) _ _ _)
  have HYa := Lib.hid (show Bq W24 w17.heap.size s4 (.slice A24 (nat s4.num.natAbs).length c24) (.slice B24 (nat s4.den).length d24) by subst hW24; exact Bq.storeS hv24 HXa.out.1)
  have HBn := Lib.hid (show Below w.heap.size w W24 by subst hW24; exact below_store3 HB.out (by omega) _ _ _)
  obtain ⟨px_24, rx_24, ux_24⟩ := HXx.out.cells
  obtain ⟨pyz_24, ryz_24, uyz_24⟩ := HXyz.out.cells
  have ssx_24 := cells_store3 HXx.out.cells (show bx ≠ w17.heap.size by omega) (.bool (qneg s4)) (.slice A24 (nat s4.num.natAbs).length c24) (.slice B24 (nat s4.den).length d24)
  obtain ⟨spx_24, srx_24, sux_24⟩ := ssx_24
  have ssyz_24 := cells_store3 HXyz.out.cells (show w16.heap.size ≠ w17.heap.size by omega) (.bool (qneg s4)) (.slice A24 (nat s4.num.natAbs).length c24) (.slice B24 (nat s4.den).length d24)
  obtain ⟨spyz_24, sryz_24, suyz_24⟩ := ssyz_24
  obtain ⟨zc0, zc1, zc2⟩ := HXa.out.cells
  obtain ⟨zf0, zf1, zf2⟩ := HXa.out.1.frozen
  go_wp2_with (fail)
  clear px_24 rx_24 ux_24 pyz_24 ryz_24 uyz_24 spx_24 srx_24 sux_24 spyz_24 sryz_24 suyz_24 zc0 zc1 zc2 zf0 zf1 zf2
  rw [← hW24]
  clear hW24
  clear HXx
  have HXx := HYx
  clear HYx
  clear HXy
  have HXy := HYy
  clear HYy
  clear HXz
  have HXz := HYz
  clear HYz
  clear HXxy
  have HXxy := HYxy
  clear HYxy
  clear HXyx
  have HXyx := HYyx
  clear HYyx
  clear HXback
  have HXback := HYback
  clear HYback
  clear HXyz
  have HXyz := HYyz
  clear HYyz
  clear HXa
  have HXa := HYa
  clear HYa
  clear HXb
  have HXb := HYb
  clear HYb
  clear HXp
  have HXp := HYp
  clear HYp
  clear HXq
  have HXq := HYq
  clear HYq
  clear HXr
  have HXr := HYr
  clear HYr
  clear HB
  have HB := HBn
  clear HBn
  clear HE
  have HE := Lib.hid (HE0.out.on HB.out)
  go_at_call 26
  refine (v_MulTo HE.out HXx.out.rv HXyz.out.rv e7.out.2.1 e7.out.2.2).mono ?_
  rintro e w25 ⟨v25, rfl, hv25, hb25⟩
  obtain ⟨A25, c25, B25, d25, rfl⟩ := hv25.open
  replace HXx := Lib.hid (HXx.out.on hb25)
  replace HXy := Lib.hid (HXy.out.on hb25)
  replace HXz := Lib.hid (HXz.out.on hb25)
  replace HXxy := Lib.hid (HXxy.out.on hb25)
  replace HXyx := Lib.hid (HXyx.out.on hb25)
  replace HXback := Lib.hid (HXback.out.on hb25)
  replace HXyz := Lib.hid (HXyz.out.on hb25)
  replace HXa := Lib.hid (HXa.out.on hb25)
  replace HXb := Lib.hid (HXb.out.on hb25)
  replace HXp := Lib.hid (HXp.out.on hb25)
  replace HXq := Lib.hid (HXq.out.on hb25)
  replace HXr := Lib.hid (HXr.out.on hb25)
  replace HE := Lib.hid (HE.out.on hb25)
  replace HB := Lib.hid (below_join HB.out hb25 HB.out.size)
  clear hb25
  obtain ⟨W25, hW25⟩ : ∃ W, W = ((w25.setCell ⟨w18.heap.size, 0, none⟩ (.bool (qneg s4))).setCell ⟨w18.heap.size, 1, none⟩ (.slice A25 (nat s4.num.natAbs).length c25)).setCell ⟨w18.heap.size, 2, none⟩ (.slice B25 (nat s4.den).length d25) := ⟨_, rfl⟩
  have HYx := Lib.hid (show Bq W25 bx x (.slice A1 (nat x.num.natAbs).length c1) (.slice B1 (nat x.den).length d1) by subst hW25; exact HXx.out.storeO HXb.out.1 (by omega) _ _ _)
  have HYy := Lib.hid (show Bq W25 by_ y (.slice A2 (nat y.num.natAbs).length c2) (.slice B2 (nat y.den).length d2) by subst hW25; exact HXy.out.storeO HXb.out.1 (by omega) _ _ _)
  have HYz := Lib.hid (show Bq W25 bz z (.slice A3 (nat z.num.natAbs).length c3) (.slice B3 (nat z.den).length d3) by subst hW25; exact HXz.out.storeO HXb.out.1 (by omega) _ _ _)
  have HYxy := Lib.hid (show Bq W25 w11.heap.size xy (.slice A11 (nat xy.num.natAbs).length c11) (.slice B11 (nat xy.den).length d11) by subst hW25; exact HXxy.out.storeO HXb.out.1 (by omega) _ _ _)
  have HYyx := Lib.hid (show Bq W25 w12.heap.size xy (.slice A12 (nat xy.num.natAbs).length c12) (.slice B12 (nat xy.den).length d12) by subst hW25; exact HXyx.out.storeO HXb.out.1 (by omega) _ _ _)
  have HYback := Lib.hid (show Bq W25 w14.heap.size x (.slice A14 (nat x.num.natAbs).length c14) (.slice B14 (nat x.den).length d14) by subst hW25; exact HXback.out.storeO HXb.out.1 (by omega) _ _ _)
  have HYyz := Lib.hid (show Bq W25 w16.heap.size yz (.slice A16 (nat yz.num.natAbs).length c16) (.slice B16 (nat yz.den).length d16) by subst hW25; exact HXyz.out.storeO HXb.out.1 (by omega) _ _ _)
  have HYa := Lib.hid (show Bq W25 w17.heap.size s4 (.slice A24 (nat s4.num.natAbs).length c24) (.slice B24 (nat s4.den).length d24) by subst hW25; exact HXa.out.storeO HXb.out.1 (by omega) _ _ _)
  have HYp := Lib.hid (show Bq W25 w20.heap.size p (.slice A20 (nat p.num.natAbs).length c20) (.slice B20 (nat p.den).length d20) by subst hW25; exact HXp.out.storeO HXb.out.1 (by omega) _ _ _)
  have HYq := Lib.hid (show Bq W25 w21.heap.size p (.slice A21 (nat p.num.natAbs).length c21) (.slice B21 (nat p.den).length d21) by subst hW25; exact HXq.out.storeO HXb.out.1 (by omega) _ _ _)
  have HYr := Lib.hid (show Bq W25 w23.heap.size r (.slice A23 (nat r.num.natAbs).length c23) (.slice B23 (nat r.den).length d23) by subst hW25; exact HXr.out.storeO HXb.out.1 (by omega) _ _ _)
  have HYb := Lib.hid (show Bq W25 w18.heap.size s4 (.slice A25 (nat s4.num.natAbs).length c25) (.slice B25 (nat s4.den).length d25) by subst hW25; exact Bq.storeS hv25 HXb.out.1)
  have HBn := Lib.hid (show Below w.heap.size w W25 by subst hW25; exact below_store3 HB.out (by omega) _ _ _)
  obtain ⟨pa_25, ra_25, ua_25⟩ := HXa.out.cells
  obtain ⟨pb_25, rb_25, ub_25⟩ := HXb.out.cells
  have ssa_25 := cells_store3 HXa.out.cells (show w17.heap.size ≠ w18.heap.size by omega) (.bool (qneg s4)) (.slice A25 (nat s4.num.natAbs).length c25) (.slice B25 (nat s4.den).length d25)
  obtain ⟨spa_25, sra_25, sua_25⟩ := ssa_25
  obtain ⟨zc0, zc1, zc2⟩ := HXb.out.cells
  obtain ⟨zf0, zf1, zf2⟩ := HXb.out.1.frozen
  go_wp2_with (fail)
  clear pa_25 ra_25 ua_25 pb_25 rb_25 ub_25 spa_25 sra_25 sua_25 zc0 zc1 zc2 zf0 zf1 zf2
  rw [← hW25]
  clear hW25
  clear HXx
  have HXx := HYx
  clear HYx
  clear HXy
  have HXy := HYy
  clear HYy
  clear HXz
  have HXz := HYz
  clear HYz
  clear HXxy
  have HXxy := HYxy
  clear HYxy
  clear HXyx
  have HXyx := HYyx
  clear HYyx
  clear HXback
  have HXback := HYback
  clear HYback
  clear HXyz
  have HXyz := HYyz
  clear HYyz
  clear HXa
  have HXa := HYa
  clear HYa
  clear HXb
  have HXb := HYb
  clear HYb
  clear HXp
  have HXp := HYp
  clear HYp
  clear HXq
  have HXq := HYq
  clear HYq
  clear HXr
  have HXr := HYr
  clear HYr
  clear HB
  have HB := HBn
  clear HBn
  clear HE
  have HE := Lib.hid (HE0.out.on HB.out)
  go_at_call 43
  refine (c_equal HXa.out.rv HXb.out.rv).mono ?_
  rintro e w26 ⟨rfl, hb26⟩
  replace HXx := Lib.hid (HXx.out.on hb26)
  replace HXy := Lib.hid (HXy.out.on hb26)
  replace HXz := Lib.hid (HXz.out.on hb26)
  replace HXxy := Lib.hid (HXxy.out.on hb26)
  replace HXyx := Lib.hid (HXyx.out.on hb26)
  replace HXback := Lib.hid (HXback.out.on hb26)
  replace HXyz := Lib.hid (HXyz.out.on hb26)
  replace HXa := Lib.hid (HXa.out.on hb26)
  replace HXb := Lib.hid (HXb.out.on hb26)
  replace HXp := Lib.hid (HXp.out.on hb26)
  replace HXq := Lib.hid (HXq.out.on hb26)
  replace HXr := Lib.hid (HXr.out.on hb26)
  replace HE := Lib.hid (HE.out.on hb26)
  replace HB := Lib.hid (below_join HB.out hb26 HB.out.size)
  clear hb26
  obtain ⟨pp_26, rp_26, up_26⟩ := HXp.out.cells
  obtain ⟨py_26, ry_26, uy_26⟩ := HXy.out.cells
  go_wp2_with (fail)
  clear pp_26 rp_26 up_26 py_26 ry_26 uy_26
  go_at_call 27
  refine (v_DivTo HE.out HXp.out.rv HXy.out.rv e8.out.1 e8.out.2 hx.out).mono ?_
  rintro e w27 ⟨v27, rfl, hv27, hb27⟩
  obtain ⟨A27, c27, B27, d27, rfl⟩ := hv27.open
  replace HXx := Lib.hid (HXx.out.on hb27)
  replace HXy := Lib.hid (HXy.out.on hb27)
  replace HXz := Lib.hid (HXz.out.on hb27)
  replace HXxy := Lib.hid (HXxy.out.on hb27)
  replace HXyx := Lib.hid (HXyx.out.on hb27)
  replace HXback := Lib.hid (HXback.out.on hb27)
  replace HXyz := Lib.hid (HXyz.out.on hb27)
  replace HXa := Lib.hid (HXa.out.on hb27)
  replace HXb := Lib.hid (HXb.out.on hb27)
  replace HXp := Lib.hid (HXp.out.on hb27)
  replace HXq := Lib.hid (HXq.out.on hb27)
  replace HXr := Lib.hid (HXr.out.on hb27)
  replace HE := Lib.hid (HE.out.on hb27)
  replace HB := Lib.hid (below_join HB.out hb27 HB.out.size)
  clear hb27
  obtain ⟨W27, hW27⟩ : ∃ W, W = ((w27.setCell ⟨w14.heap.size, 0, none⟩ (.bool (qneg x))).setCell ⟨w14.heap.size, 1, none⟩ (.slice A27 (nat x.num.natAbs).length c27)).setCell ⟨w14.heap.size, 2, none⟩ (.slice B27 (nat x.den).length d27) := ⟨_, rfl⟩
  have HYx := Lib.hid (show Bq W27 bx x (.slice A1 (nat x.num.natAbs).length c1) (.slice B1 (nat x.den).length d1) by subst hW27; exact HXx.out.storeO HXback.out.1 (by omega) _ _ _)
  have HYy := Lib.hid (show Bq W27 by_ y (.slice A2 (nat y.num.natAbs).length c2) (.slice B2 (nat y.den).length d2) by subst hW27; exact HXy.out.storeO HXback.out.1 (by omega) _ _ _)
  have HYz := Lib.hid (show Bq W27 bz z (.slice A3 (nat z.num.natAbs).length c3) (.slice B3 (nat z.den).length d3) by subst hW27; exact HXz.out.storeO HXback.out.1 (by omega) _ _ _)
  have HYxy := Lib.hid (show Bq W27 w11.heap.size xy (.slice A11 (nat xy.num.natAbs).length c11) (.slice B11 (nat xy.den).length d11) by subst hW27; exact HXxy.out.storeO HXback.out.1 (by omega) _ _ _)
  have HYyx := Lib.hid (show Bq W27 w12.heap.size xy (.slice A12 (nat xy.num.natAbs).length c12) (.slice B12 (nat xy.den).length d12) by subst hW27; exact HXyx.out.storeO HXback.out.1 (by omega) _ _ _)
  have HYyz := Lib.hid (show Bq W27 w16.heap.size yz (.slice A16 (nat yz.num.natAbs).length c16) (.slice B16 (nat yz.den).length d16) by subst hW27; exact HXyz.out.storeO HXback.out.1 (by omega) _ _ _)
  have HYa := Lib.hid (show Bq W27 w17.heap.size s4 (.slice A24 (nat s4.num.natAbs).length c24) (.slice B24 (nat s4.den).length d24) by subst hW27; exact HXa.out.storeO HXback.out.1 (by omega) _ _ _)
  have HYb := Lib.hid (show Bq W27 w18.heap.size s4 (.slice A25 (nat s4.num.natAbs).length c25) (.slice B25 (nat s4.den).length d25) by subst hW27; exact HXb.out.storeO HXback.out.1 (by omega) _ _ _)
  have HYp := Lib.hid (show Bq W27 w20.heap.size p (.slice A20 (nat p.num.natAbs).length c20) (.slice B20 (nat p.den).length d20) by subst hW27; exact HXp.out.storeO HXback.out.1 (by omega) _ _ _)
  have HYq := Lib.hid (show Bq W27 w21.heap.size p (.slice A21 (nat p.num.natAbs).length c21) (.slice B21 (nat p.den).length d21) by subst hW27; exact HXq.out.storeO HXback.out.1 (by omega) _ _ _)
  have HYr := Lib.hid (show Bq W27 w23.heap.size r (.slice A23 (nat r.num.natAbs).length c23) (.slice B23 (nat r.den).length d23) by subst hW27; exact HXr.out.storeO HXback.out.1 (by omega) _ _ _)
  have HYback := Lib.hid (show Bq W27 w14.heap.size x (.slice A27 (nat x.num.natAbs).length c27) (.slice B27 (nat x.den).length d27) by subst hW27; exact Bq.storeS hv27 HXback.out.1)
  have HBn := Lib.hid (show Below w.heap.size w W27 by subst hW27; exact below_store3 HB.out (by omega) _ _ _)
  obtain ⟨pback_27, rback_27, uback_27⟩ := HXback.out.cells
  obtain ⟨px_27, rx_27, ux_27⟩ := HXx.out.cells
  obtain ⟨py_27, ry_27, uy_27⟩ := HXy.out.cells
  have ssx_27 := cells_store3 HXx.out.cells (show bx ≠ w14.heap.size by omega) (.bool (qneg x)) (.slice A27 (nat x.num.natAbs).length c27) (.slice B27 (nat x.den).length d27)
  obtain ⟨spx_27, srx_27, sux_27⟩ := ssx_27
  have ssy_27 := cells_store3 HXy.out.cells (show by_ ≠ w14.heap.size by omega) (.bool (qneg x)) (.slice A27 (nat x.num.natAbs).length c27) (.slice B27 (nat x.den).length d27)
  obtain ⟨spy_27, sry_27, suy_27⟩ := ssy_27
  obtain ⟨zc0, zc1, zc2⟩ := HXback.out.cells
  obtain ⟨zf0, zf1, zf2⟩ := HXback.out.1.frozen
  go_wp2_with (fail)
  clear pback_27 rback_27 uback_27 px_27 rx_27 ux_27 py_27 ry_27 uy_27 spx_27 srx_27 sux_27 spy_27 sry_27 suy_27 zc0 zc1 zc2 zf0 zf1 zf2
  rw [← hW27]
  clear hW27
  clear HXx
  have HXx := HYx
  clear HYx
  clear HXy
  have HXy := HYy
  clear HYy
  clear HXz
  have HXz := HYz
  clear HYz
  clear HXxy
  have HXxy := HYxy
  clear HYxy
  clear HXyx
  have HXyx := HYyx
  clear HYyx
  clear HXback
  have HXback := HYback
  clear HYback
  clear HXyz
  have HXyz := HYyz
  clear HYyz
  clear HXa
  have HXa := HYa
  clear HYa
  clear HXb
  have HXb := HYb
  clear HYb
  clear HXp
  have HXp := HYp
  clear HYp
  clear HXq
  have HXq := HYq
  clear HYq
  clear HXr
  have HXr := HYr
  clear HYr
  clear HB
  have HB := HBn
  clear HBn
  clear HE
  have HE := Lib.hid (HE0.out.on HB.out)
  go_at_call 43
  refine (c_equal HXback.out.rv HXx.out.rv).mono ?_
  rintro e w28 ⟨rfl, hb28⟩
  replace HXx := Lib.hid (HXx.out.on hb28)
  replace HXy := Lib.hid (HXy.out.on hb28)
  replace HXz := Lib.hid (HXz.out.on hb28)
  replace HXxy := Lib.hid (HXxy.out.on hb28)
  replace HXyx := Lib.hid (HXyx.out.on hb28)
  replace HXback := Lib.hid (HXback.out.on hb28)
  replace HXyz := Lib.hid (HXyz.out.on hb28)
  replace HXa := Lib.hid (HXa.out.on hb28)
  replace HXb := Lib.hid (HXb.out.on hb28)
  replace HXp := Lib.hid (HXp.out.on hb28)
  replace HXq := Lib.hid (HXq.out.on hb28)
  replace HXr := Lib.hid (HXr.out.on hb28)
  replace HE := Lib.hid (HE.out.on hb28)
  replace HB := Lib.hid (below_join HB.out hb28 HB.out.size)
  clear hb28
  go_wp2_with (fail)
  go_at_call 23
  refine (c_works _ HE.out).mono ?_
  rintro e w29 ⟨rfl, hb29⟩
  replace HXx := Lib.hid (HXx.out.on hb29)
  replace HXy := Lib.hid (HXy.out.on hb29)
  replace HXz := Lib.hid (HXz.out.on hb29)
  replace HXxy := Lib.hid (HXxy.out.on hb29)
  replace HXyx := Lib.hid (HXyx.out.on hb29)
  replace HXback := Lib.hid (HXback.out.on hb29)
  replace HXyz := Lib.hid (HXyz.out.on hb29)
  replace HXa := Lib.hid (HXa.out.on hb29)
  replace HXb := Lib.hid (HXb.out.on hb29)
  replace HXp := Lib.hid (HXp.out.on hb29)
  replace HXq := Lib.hid (HXq.out.on hb29)
  replace HXr := Lib.hid (HXr.out.on hb29)
  replace HE := Lib.hid (HE.out.on hb29)
  replace HB := Lib.hid (below_join HB.out hb29 HB.out.size)
  clear hb29
  go_wp2_with (fail)
  go_ret
  exact ⟨rfl, HB.out⟩
end Go.Proofs.YtfdkdloldjfnjaaGreatDoor
