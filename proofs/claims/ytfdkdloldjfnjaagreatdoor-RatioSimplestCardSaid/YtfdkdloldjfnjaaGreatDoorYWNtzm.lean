/-
  DERIVED. Several texts in one.
-/
import Derived.Test.YtfdkdloldjfnjaaGreatDoorYWBm
import Derived.Test.YtfdkdloldjfnjaaGreatDoorWF
set_option linter.unusedVariables false
set_option linter.unusedSimpArgs false

/- DERIVED. The law RatioSimplest. (Written by gen/genWN.py.) -/
namespace Go.Proofs.YtfdkdloldjfnjaaGreatDoor
open Go.RowKit
set_option maxRecDepth 100000

set_option maxHeartbeats 16000000 in
theorem simp_tz (z0 z1 z2 z3 z4 z5 a0 b0 c0 d0 : Int) (y0 : -32768 ≤ z0) (y1 : z0 ≤ 32767) (y2 : -32768 ≤ z1) (y3 : z1 ≤ 32767) (y4 : -32768 ≤ z2) (y5 : z2 ≤ 32767) (y6 : -32768 ≤ z3) (y7 : z3 ≤ 32767) (ha0 : z0.tmod 300 = a0) (hb0 : 1 + (bits .and .i64 z1 1023).tmod 60 = b0) (hc0 : z2.tmod 300 = c0) (hd0 : 1 + (bits .and .i64 z3 1023).tmod 60 = d0)
    (qa0 : -299 ≤ a0) (qa1 : a0 ≤ 299) (qb0 : 1 ≤ b0) (qb1 : b0 ≤ 60) (qc0 : -299 ≤ c0) (qc1 : c0 ≤ 299) (qd0 : 1 ≤ d0) (qd1 : d0 ≤ 60) (hsw : c0 * b0 < a0 * d0)
    (p q z : Rat) (h1 : Hid (∀ X, Calls Tryz.prog 14 #[.int .i64 c0, .int .i64 d0] X (RatPost p X))) (h2 : Hid (∀ X, Calls Tryz.prog 14 #[.int .i64 a0, .int .i64 b0] X (RatPost q X))) (h3 : Hid (∀ X v u, Env X → Rv X v p → Rv X u q → Calls Tryz.prog 38 #[v, u] X (RatPost z X)))
    (k : Nat) (k0 : 0 < k) (k1 : (k : Int) ≤ 60) (hop : Hid (∀ X v, Rv X v z → ∃ A c b' o' c', v = .agg #[.bool false, .slice A 0 c, .slice (some ⟨b', o', none⟩) 1 c'] ∧ Lm X b' o' k))
    (hlo : c0 * (k : Int) ≤ 0 * d0) (hhi : 0 * b0 ≤ a0 * (k : Int)) (hfl : Hid (∀ j : Int, 1 ≤ j → j < (k : Int) → (a0 * j / b0) * d0 < c0 * j))
    (w : World) (he : Env w) :
    Calls Tryz.prog 9 #[.agg #[.int .i16 z0, .int .i16 z1, .int .i16 z2, .int .i16 z3, .int .i16 z4, .int .i16 z5]] w fun e w' => e = .returned (.bool true) ∧ Below w.heap.size w w' := by
  have HE0 := Lib.hid he
  obtain ⟨W, hW⟩ : ∃ W, W = w.alloc (.cells #[.int .i16 z0, .int .i16 z1, .int .i16 z2, .int .i16 z3, .int .i16 z4, .int .i16 z5] 47) := ⟨_, rfl⟩
  have HB0 := Lib.hid (show Below w.heap.size w W by subst hW; exact (Below.refl _ _).alloc (Nat.le_refl _) _)
  have HS0 := Lib.hid (show SixC w.heap.size z0 z1 z2 z3 z4 z5 W by subst hW; exact six_row _ _ _ _ _ _ _)
  have HLO := Lib.hid (And.intro hlo hhi)
  obtain ⟨ad, had⟩ : ∃ z, a0 * d0 = z := ⟨_, rfl⟩
  obtain ⟨cb, hcb⟩ : ∃ z, c0 * b0 = z := ⟨_, rfl⟩
  have hadb := mul_bnd (x := a0) (y := d0) 299 60 (by omega) (by omega) (by omega) (by omega)
  have hcbb := mul_bnd (x := c0) (y := b0) 299 60 (by omega) (by omega) (by omega) (by omega)
  rw [had] at hadb hsw
  rw [hcb] at hcbb hsw
  obtain ⟨i1, i2⟩ := hadb
  obtain ⟨i3, i4⟩ := hcbb
  have hwb : IntKind.i64.wrap (1 + (bits .and .i64 z1 1023).tmod 60) = b0 := by rw [hb0]; exact IntWalk.i64_in _ (by omega)
  have hwd : IntKind.i64.wrap (1 + (bits .and .i64 z3 1023).tmod 60) = d0 := by rw [hd0]; exact IntWalk.i64_in _ (by omega)
  have HX0 := Lib.hid hb0
  have HX1 := Lib.hid hd0
  clear he hlo hhi hb0 hd0
  obtain ⟨-, s0, s1, s2, s3, -, -⟩ := HS0.out
  go_enter Tryz.func9, Tryz.ntmps9
  go_wp2_with (fail)
  rw [← hW]
  clear hW
  go_quiet (fail)
  clear s0 s1 s2 s3
  go_wp2_with (fail)
  go_at_call 14
  refine (h1.out _).mono ?_
  rintro e w1 ⟨v1, rfl, hv1, hb1⟩
  obtain ⟨A1, c1, B1, d1, rfl⟩ := hv1.open
  replace hb1 := Below.undrewN hb1
  obtain ⟨U1, hU1⟩ : ∃ W, W = w1.alloc (.cells #[.bool (qneg p), .slice A1 (nat p.num.natAbs).length c1, .slice B1 (nat p.den).length d1] 25) := ⟨_, rfl⟩
  have bU1 : Below w1.heap.size w1 U1 := by subst hU1; exact (Below.refl _ _).alloc (Nat.le_refl _) _
  have HXlo := Lib.hid (show Bq U1 w1.heap.size p (.slice A1 (nat p.num.natAbs).length c1) (.slice B1 (nat p.den).length d1) by subst hU1; exact Bq.new hv1)
  have HB1 := Lib.hid (below_join (below_join HB0.out hb1 HB0.out.size) bU1 (Nat.le_trans HB0.out.size hb1.size))
  clear hv1 hb1 bU1
  go_wp2_with (fail)
  rw [← hU1]
  clear hU1
  go_at_call 14
  refine (h2.out _).mono ?_
  rintro e w2 ⟨v2, rfl, hv2, hb2⟩
  obtain ⟨A2, c2, B2, d2, rfl⟩ := hv2.open
  obtain ⟨U2, hU2⟩ : ∃ W, W = w2.alloc (.cells #[.bool (qneg q), .slice A2 (nat q.num.natAbs).length c2, .slice B2 (nat q.den).length d2] 25) := ⟨_, rfl⟩
  have bU2 : Below w2.heap.size w2 U2 := by subst hU2; exact (Below.refl _ _).alloc (Nat.le_refl _) _
  have HXhi := Lib.hid (show Bq U2 w2.heap.size q (.slice A2 (nat q.num.natAbs).length c2) (.slice B2 (nat q.den).length d2) by subst hU2; exact Bq.new hv2)
  have HB2 := Lib.hid (below_join (below_join HB1.out hb2 HB1.out.size) bU2 (Nat.le_trans HB1.out.size hb2.size))
  replace HXlo := Lib.hid ((HXlo.out.on hb2).on bU2)
  clear hv2 hb2 bU2
  obtain ⟨x0, x1, x2⟩ := HXlo.out.cells
  rw [hU2] at x0 x1 x2
  go_wp2_with (fail)
  rw [← hU2]
  clear hU2
  clear x0 x1 x2
  have HE2 := Lib.hid (HE0.out.on HB2.out)
  go_at_call 38
  refine (h3.out _ _ _ HE2.out HXlo.out.rv HXhi.out.rv).mono ?_
  rintro e w3 ⟨v3, rfl, hv3, hb3⟩
  have HR3 := Lib.hid hv3
  obtain ⟨An, cn, bd, od, cd, rfl, hld⟩ := hop.out _ _ hv3
  obtain ⟨U3, hU3⟩ : ∃ W, W = w3.alloc (.cells #[.bool false, .slice An 0 cn, .slice (some ⟨bd, od, none⟩) 1 cd] 25) := ⟨_, rfl⟩
  have bU3 : Below w3.heap.size w3 U3 := by subst hU3; exact (Below.refl _ _).alloc (Nat.le_refl _) _
  have HY3 := Lib.hid (show Rt U3 w3.heap.size false (.slice An 0 cn) (.slice (some ⟨bd, od, none⟩) 1 cd) by subst hU3; exact rt_new _ _ _ _ _ rfl)
  have HV3 := Lib.hid (HR3.out.on bU3)
  have HB3 := Lib.hid (below_join (below_join HB2.out hb3 HB2.out.size) bU3 (Nat.le_trans HB2.out.size hb3.size))
  have HE3 := Lib.hid (HE0.out.on HB3.out)
  have HLd3 := Lib.hid (hld.on bU3)
  clear hv3 hb3 bU3 hld HR3
  go_wp2_with (fail)
  rw [← hU3]
  clear hU3
  go_at_call 18
  refine (v_Valid HE3.out HV3.out).mono ?_
  rintro e w4 ⟨rfl, b4⟩
  have HY4 := Lib.hid (HY3.out.on b4 HY3.out.lt)
  have HB4 := Lib.hid (below_join HB3.out b4 HB3.out.size)
  obtain ⟨-, ld⟩ := HLd3.out.on b4
  clear b4
  obtain ⟨y0, y1, y2⟩ := HY4.out.cells
  have r1 := mul_bnd (x := c0) (y := (k : Int)) 299 60 (by omega) (by omega) (by omega) (by omega)
  have r2 := mul_bnd (x := a0) (y := (k : Int)) 299 60 (by omega) (by omega) (by omega) (by omega)
  obtain ⟨ak, hak⟩ : ∃ z, c0 * (k : Int) = z := ⟨_, rfl⟩
  obtain ⟨ck, hck⟩ : ∃ z, a0 * (k : Int) = z := ⟨_, rfl⟩
  obtain ⟨l1, l2⟩ := HLO.out
  simp only [Int.zero_mul, hak, hck] at l1 l2 r1 r2
  obtain ⟨r11, r12⟩ := r1
  obtain ⟨r21, r22⟩ := r2
  go_wp2_with (fail)
  go_quiet (fail)
  go_wp2_with (fail)
  clear y0 y1 y2 ld
  go_loopw [15] (fun i wr => ∃ (j : Int) (m : Nat), i = .int .i64 j ∧ 1 ≤ j ∧ j ≤ 60 ∧ wr = w4.drewN m) (fun i _ => ((k : Int) - intOf i).toNat)
  case atStart => exact ⟨1, _, rfl, by omega, by omega, rfl⟩
  case round =>
    obtain ⟨j, m0, rfl, j0, j1, rfl⟩ := hrel
    by_cases hj : j < (k : Int)
    · have hF := hfl.out j j0 hj
      have u1 := mul_bnd (x := a0) (y := j) 299 60 (by omega) (by omega) (by omega) (by omega)
      have u2 := mul_bnd (x := c0) (y := j) 299 60 (by omega) (by omega) (by omega) (by omega)
      have u3 := Int.natAbs_ediv_le_natAbs (a0 * j) b0
      obtain ⟨cj, hcj⟩ : ∃ z, a0 * j = z := ⟨_, rfl⟩
      obtain ⟨aj, haj⟩ : ∃ z, c0 * j = z := ⟨_, rfl⟩
      obtain ⟨f, hf⟩ : ∃ z, cj / b0 = z := ⟨_, rfl⟩
      rw [hcj] at u1 u3 hF
      rw [haj] at u2 hF
      rw [hf] at u3 hF
      have u4 := mul_bnd (x := f) (y := d0) 17940 60 (by omega) (by omega) (by omega) (by omega)
      obtain ⟨fb, hfb⟩ : ∃ z, f * d0 = z := ⟨_, rfl⟩
      rw [hfb] at u4 hF
      obtain ⟨u11, u12⟩ := u1
      obtain ⟨u21, u22⟩ := u2
      obtain ⟨u41, u42⟩ := u4
      have u31 : -17940 ≤ f := by omega
      have u32 : f ≤ 17940 := by omega
      clear u3
      have HC := Lib.hid (c_floor cj b0 (by omega) (by omega) (by omega) (by omega) (w4.drewN m0))
      rw [hf] at HC
      go_wp2_with (fail)
      go_at_call 45
      refine HC.out.mono ?_
      rintro e wf ⟨rfl, rfl⟩
      go_wp2_with (fail)
      go_roundw
      case rel => exact ⟨j + 1, m0, rfl, by omega, by omega, rfl⟩
      case measure => simp only [intOf]; omega
    · go_wp2_with (fail)
      go_at_call 23
      refine (c_works _ (HE0.out.on (below_drewN HB4.out m0))).mono ?_
      rintro e wz ⟨rfl, bz⟩
      go_wp2_with (fail)
      go_ret
      exact ⟨rfl, below_join (below_drewN HB4.out m0) bz HB4.out.size⟩
end Go.Proofs.YtfdkdloldjfnjaaGreatDoor

/- DERIVED. The law RatioSimplest. (Written by gen/genWN.py.) -/
namespace Go.Proofs.YtfdkdloldjfnjaaGreatDoor
open Go.RowKit
set_option maxRecDepth 100000

set_option maxHeartbeats 16000000 in
theorem simp_tp (z0 z1 z2 z3 z4 z5 a0 b0 c0 d0 : Int) (y0 : -32768 ≤ z0) (y1 : z0 ≤ 32767) (y2 : -32768 ≤ z1) (y3 : z1 ≤ 32767) (y4 : -32768 ≤ z2) (y5 : z2 ≤ 32767) (y6 : -32768 ≤ z3) (y7 : z3 ≤ 32767) (ha0 : z0.tmod 300 = a0) (hb0 : 1 + (bits .and .i64 z1 1023).tmod 60 = b0) (hc0 : z2.tmod 300 = c0) (hd0 : 1 + (bits .and .i64 z3 1023).tmod 60 = d0)
    (qa0 : -299 ≤ a0) (qa1 : a0 ≤ 299) (qb0 : 1 ≤ b0) (qb1 : b0 ≤ 60) (qc0 : -299 ≤ c0) (qc1 : c0 ≤ 299) (qd0 : 1 ≤ d0) (qd1 : d0 ≤ 60) (hsw : c0 * b0 < a0 * d0)
    (p q z : Rat) (h1 : Hid (∀ X, Calls Tryz.prog 14 #[.int .i64 c0, .int .i64 d0] X (RatPost p X))) (h2 : Hid (∀ X, Calls Tryz.prog 14 #[.int .i64 a0, .int .i64 b0] X (RatPost q X))) (h3 : Hid (∀ X v u, Env X → Rv X v p → Rv X u q → Calls Tryz.prog 38 #[v, u] X (RatPost z X)))
    (P k : Nat) (P0 : 0 < P) (P1 : (P : Int) ≤ 299) (k0 : 0 < k) (k1 : (k : Int) ≤ 60) (hop : Hid (∀ X v, Rv X v z → ∃ b o c b' o' c', v = .agg #[.bool false, .slice (some ⟨b, o, none⟩) 1 c, .slice (some ⟨b', o', none⟩) 1 c'] ∧ Lm X b o P ∧ Lm X b' o' k))
    (hlo : c0 * (k : Int) ≤ (P : Int) * d0) (hhi : (P : Int) * b0 ≤ a0 * (k : Int)) (hfl : Hid (∀ j : Int, 1 ≤ j → j < (k : Int) → (a0 * j / b0) * d0 < c0 * j)) (hnx : Hid (((P : Int) - 1) * d0 < c0 * (k : Int) ∨ a0 * (k : Int) < ((P : Int) - 1) * b0))
    (w : World) (he : Env w) :
    Calls Tryz.prog 9 #[.agg #[.int .i16 z0, .int .i16 z1, .int .i16 z2, .int .i16 z3, .int .i16 z4, .int .i16 z5]] w fun e w' => e = .returned (.bool true) ∧ Below w.heap.size w w' := by
  have HE0 := Lib.hid he
  obtain ⟨W, hW⟩ : ∃ W, W = w.alloc (.cells #[.int .i16 z0, .int .i16 z1, .int .i16 z2, .int .i16 z3, .int .i16 z4, .int .i16 z5] 47) := ⟨_, rfl⟩
  have HB0 := Lib.hid (show Below w.heap.size w W by subst hW; exact (Below.refl _ _).alloc (Nat.le_refl _) _)
  have HS0 := Lib.hid (show SixC w.heap.size z0 z1 z2 z3 z4 z5 W by subst hW; exact six_row _ _ _ _ _ _ _)
  have HLO := Lib.hid (And.intro hlo hhi)
  obtain ⟨ad, had⟩ : ∃ z, a0 * d0 = z := ⟨_, rfl⟩
  obtain ⟨cb, hcb⟩ : ∃ z, c0 * b0 = z := ⟨_, rfl⟩
  have hadb := mul_bnd (x := a0) (y := d0) 299 60 (by omega) (by omega) (by omega) (by omega)
  have hcbb := mul_bnd (x := c0) (y := b0) 299 60 (by omega) (by omega) (by omega) (by omega)
  rw [had] at hadb hsw
  rw [hcb] at hcbb hsw
  obtain ⟨i1, i2⟩ := hadb
  obtain ⟨i3, i4⟩ := hcbb
  have hwb : IntKind.i64.wrap (1 + (bits .and .i64 z1 1023).tmod 60) = b0 := by rw [hb0]; exact IntWalk.i64_in _ (by omega)
  have hwd : IntKind.i64.wrap (1 + (bits .and .i64 z3 1023).tmod 60) = d0 := by rw [hd0]; exact IntWalk.i64_in _ (by omega)
  have HX0 := Lib.hid hb0
  have HX1 := Lib.hid hd0
  clear he hlo hhi hb0 hd0
  obtain ⟨-, s0, s1, s2, s3, -, -⟩ := HS0.out
  go_enter Tryz.func9, Tryz.ntmps9
  go_wp2_with (fail)
  rw [← hW]
  clear hW
  go_quiet (fail)
  clear s0 s1 s2 s3
  go_wp2_with (fail)
  go_at_call 14
  refine (h1.out _).mono ?_
  rintro e w1 ⟨v1, rfl, hv1, hb1⟩
  obtain ⟨A1, c1, B1, d1, rfl⟩ := hv1.open
  replace hb1 := Below.undrewN hb1
  obtain ⟨U1, hU1⟩ : ∃ W, W = w1.alloc (.cells #[.bool (qneg p), .slice A1 (nat p.num.natAbs).length c1, .slice B1 (nat p.den).length d1] 25) := ⟨_, rfl⟩
  have bU1 : Below w1.heap.size w1 U1 := by subst hU1; exact (Below.refl _ _).alloc (Nat.le_refl _) _
  have HXlo := Lib.hid (show Bq U1 w1.heap.size p (.slice A1 (nat p.num.natAbs).length c1) (.slice B1 (nat p.den).length d1) by subst hU1; exact Bq.new hv1)
  have HB1 := Lib.hid (below_join (below_join HB0.out hb1 HB0.out.size) bU1 (Nat.le_trans HB0.out.size hb1.size))
  clear hv1 hb1 bU1
  go_wp2_with (fail)
  rw [← hU1]
  clear hU1
  go_at_call 14
  refine (h2.out _).mono ?_
  rintro e w2 ⟨v2, rfl, hv2, hb2⟩
  obtain ⟨A2, c2, B2, d2, rfl⟩ := hv2.open
  obtain ⟨U2, hU2⟩ : ∃ W, W = w2.alloc (.cells #[.bool (qneg q), .slice A2 (nat q.num.natAbs).length c2, .slice B2 (nat q.den).length d2] 25) := ⟨_, rfl⟩
  have bU2 : Below w2.heap.size w2 U2 := by subst hU2; exact (Below.refl _ _).alloc (Nat.le_refl _) _
  have HXhi := Lib.hid (show Bq U2 w2.heap.size q (.slice A2 (nat q.num.natAbs).length c2) (.slice B2 (nat q.den).length d2) by subst hU2; exact Bq.new hv2)
  have HB2 := Lib.hid (below_join (below_join HB1.out hb2 HB1.out.size) bU2 (Nat.le_trans HB1.out.size hb2.size))
  replace HXlo := Lib.hid ((HXlo.out.on hb2).on bU2)
  clear hv2 hb2 bU2
  obtain ⟨x0, x1, x2⟩ := HXlo.out.cells
  rw [hU2] at x0 x1 x2
  go_wp2_with (fail)
  rw [← hU2]
  clear hU2
  clear x0 x1 x2
  have HE2 := Lib.hid (HE0.out.on HB2.out)
  go_at_call 38
  refine (h3.out _ _ _ HE2.out HXlo.out.rv HXhi.out.rv).mono ?_
  rintro e w3 ⟨v3, rfl, hv3, hb3⟩
  have HR3 := Lib.hid hv3
  obtain ⟨bn, on, cn, bd, od, cd, rfl, hln, hld⟩ := hop.out _ _ hv3
  obtain ⟨U3, hU3⟩ : ∃ W, W = w3.alloc (.cells #[.bool false, .slice (some ⟨bn, on, none⟩) 1 cn, .slice (some ⟨bd, od, none⟩) 1 cd] 25) := ⟨_, rfl⟩
  have bU3 : Below w3.heap.size w3 U3 := by subst hU3; exact (Below.refl _ _).alloc (Nat.le_refl _) _
  have HY3 := Lib.hid (show Rt U3 w3.heap.size false (.slice (some ⟨bn, on, none⟩) 1 cn) (.slice (some ⟨bd, od, none⟩) 1 cd) by subst hU3; exact rt_new _ _ _ _ _ rfl)
  have HV3 := Lib.hid (HR3.out.on bU3)
  have HB3 := Lib.hid (below_join (below_join HB2.out hb3 HB2.out.size) bU3 (Nat.le_trans HB2.out.size hb3.size))
  have HE3 := Lib.hid (HE0.out.on HB3.out)
  have HLn3 := Lib.hid (hln.on bU3)
  have HLd3 := Lib.hid (hld.on bU3)
  clear hv3 hb3 bU3 hld hln HR3
  go_wp2_with (fail)
  rw [← hU3]
  clear hU3
  go_at_call 18
  refine (v_Valid HE3.out HV3.out).mono ?_
  rintro e w4 ⟨rfl, b4⟩
  have HY4 := Lib.hid (HY3.out.on b4 HY3.out.lt)
  have HB4 := Lib.hid (below_join HB3.out b4 HB3.out.size)
  obtain ⟨-, ln⟩ := HLn3.out.on b4
  obtain ⟨-, ld⟩ := HLd3.out.on b4
  clear b4
  obtain ⟨y0, y1, y2⟩ := HY4.out.cells
  have r1 := mul_bnd (x := c0) (y := (k : Int)) 299 60 (by omega) (by omega) (by omega) (by omega)
  have r2 := mul_bnd (x := a0) (y := (k : Int)) 299 60 (by omega) (by omega) (by omega) (by omega)
  have r3 := mul_bnd (x := (P : Int)) (y := d0) 299 60 (by omega) (by omega) (by omega) (by omega)
  have r4 := mul_bnd (x := (P : Int)) (y := b0) 299 60 (by omega) (by omega) (by omega) (by omega)
  obtain ⟨nb, hnb⟩ : ∃ z, (P : Int) * d0 = z := ⟨_, rfl⟩
  obtain ⟨nd, hnd⟩ : ∃ z, (P : Int) * b0 = z := ⟨_, rfl⟩
  obtain ⟨ak, hak⟩ : ∃ z, c0 * (k : Int) = z := ⟨_, rfl⟩
  obtain ⟨ck, hck⟩ : ∃ z, a0 * (k : Int) = z := ⟨_, rfl⟩
  obtain ⟨l1, l2⟩ := HLO.out
  simp only [hnb, hnd, hak, hck] at l1 l2 r1 r2 r3 r4
  obtain ⟨r11, r12⟩ := r1
  obtain ⟨r21, r22⟩ := r2
  obtain ⟨r31, r32⟩ := r3
  obtain ⟨r41, r42⟩ := r4
  go_wp2_with (fail)
  go_quiet (fail)
  go_wp2_with (fail)
  clear y0 y1 y2 ld ln
  go_loopw [15] (fun i wr => ∃ (j : Int) (m : Nat), i = .int .i64 j ∧ 1 ≤ j ∧ j ≤ 60 ∧ wr = w4.drewN m) (fun i _ => ((k : Int) - intOf i).toNat)
  case atStart => exact ⟨1, _, rfl, by omega, by omega, rfl⟩
  case round =>
    obtain ⟨j, m0, rfl, j0, j1, rfl⟩ := hrel
    by_cases hj : j < (k : Int)
    · have hF := hfl.out j j0 hj
      have u1 := mul_bnd (x := a0) (y := j) 299 60 (by omega) (by omega) (by omega) (by omega)
      have u2 := mul_bnd (x := c0) (y := j) 299 60 (by omega) (by omega) (by omega) (by omega)
      have u3 := Int.natAbs_ediv_le_natAbs (a0 * j) b0
      obtain ⟨cj, hcj⟩ : ∃ z, a0 * j = z := ⟨_, rfl⟩
      obtain ⟨aj, haj⟩ : ∃ z, c0 * j = z := ⟨_, rfl⟩
      obtain ⟨f, hf⟩ : ∃ z, cj / b0 = z := ⟨_, rfl⟩
      rw [hcj] at u1 u3 hF
      rw [haj] at u2 hF
      rw [hf] at u3 hF
      have u4 := mul_bnd (x := f) (y := d0) 17940 60 (by omega) (by omega) (by omega) (by omega)
      obtain ⟨fb, hfb⟩ : ∃ z, f * d0 = z := ⟨_, rfl⟩
      rw [hfb] at u4 hF
      obtain ⟨u11, u12⟩ := u1
      obtain ⟨u21, u22⟩ := u2
      obtain ⟨u41, u42⟩ := u4
      have u31 : -17940 ≤ f := by omega
      have u32 : f ≤ 17940 := by omega
      clear u3
      have HC := Lib.hid (c_floor cj b0 (by omega) (by omega) (by omega) (by omega) (w4.drewN m0))
      rw [hf] at HC
      go_wp2_with (fail)
      go_at_call 45
      refine HC.out.mono ?_
      rintro e wf ⟨rfl, rfl⟩
      go_wp2_with (fail)
      go_roundw
      case rel => exact ⟨j + 1, m0, rfl, by omega, by omega, rfl⟩
      case measure => simp only [intOf]; omega
    · obtain ⟨m, hm⟩ : ∃ z, (P : Int) - 1 = z := ⟨_, rfl⟩
      have hnx' := hnx.out
      rw [hm] at hnx'
      have v1 := mul_bnd (x := m) (y := d0) 300 60 (by omega) (by omega) (by omega) (by omega)
      have v2 := mul_bnd (x := m) (y := b0) 300 60 (by omega) (by omega) (by omega) (by omega)
      obtain ⟨mb, hmb⟩ : ∃ z, m * d0 = z := ⟨_, rfl⟩
      obtain ⟨md, hmd⟩ : ∃ z, m * b0 = z := ⟨_, rfl⟩
      rw [hmb] at v1 hnx'
      rw [hmd] at v2 hnx'
      rw [hak, hck] at hnx'
      obtain ⟨v11, v12⟩ := v1
      obtain ⟨v21, v22⟩ := v2
      have v3 : -301 ≤ m := by omega
      have v4 : m ≤ 301 := by omega
      have hn0 : ((P : Int) == 0) = false := by rw [beq_eq_false_iff_ne]; omega
      by_cases hx : mb < ak
      · go_wp2_with (fail)
        go_at_call 23
        refine (c_works _ (HE0.out.on (below_drewN HB4.out m0))).mono ?_
        rintro e wz ⟨rfl, bz⟩
        go_wp2_with (fail)
        go_ret
        exact ⟨rfl, below_join (below_drewN HB4.out m0) bz HB4.out.size⟩
      · have hy : ck < md := by omega
        go_wp2_with (fail)
        go_at_call 23
        refine (c_works _ (HE0.out.on (below_drewN HB4.out m0))).mono ?_
        rintro e wz ⟨rfl, bz⟩
        go_wp2_with (fail)
        go_ret
        exact ⟨rfl, below_join (below_drewN HB4.out m0) bz HB4.out.size⟩
end Go.Proofs.YtfdkdloldjfnjaaGreatDoor

/- DERIVED. The law RatioSimplest. (Written by gen/genWN.py.) -/
namespace Go.Proofs.YtfdkdloldjfnjaaGreatDoor
open Go.RowKit
set_option maxRecDepth 100000

set_option maxHeartbeats 16000000 in
theorem simp_tm (z0 z1 z2 z3 z4 z5 a0 b0 c0 d0 : Int) (y0 : -32768 ≤ z0) (y1 : z0 ≤ 32767) (y2 : -32768 ≤ z1) (y3 : z1 ≤ 32767) (y4 : -32768 ≤ z2) (y5 : z2 ≤ 32767) (y6 : -32768 ≤ z3) (y7 : z3 ≤ 32767) (ha0 : z0.tmod 300 = a0) (hb0 : 1 + (bits .and .i64 z1 1023).tmod 60 = b0) (hc0 : z2.tmod 300 = c0) (hd0 : 1 + (bits .and .i64 z3 1023).tmod 60 = d0)
    (qa0 : -299 ≤ a0) (qa1 : a0 ≤ 299) (qb0 : 1 ≤ b0) (qb1 : b0 ≤ 60) (qc0 : -299 ≤ c0) (qc1 : c0 ≤ 299) (qd0 : 1 ≤ d0) (qd1 : d0 ≤ 60) (hsw : c0 * b0 < a0 * d0)
    (p q z : Rat) (h1 : Hid (∀ X, Calls Tryz.prog 14 #[.int .i64 c0, .int .i64 d0] X (RatPost p X))) (h2 : Hid (∀ X, Calls Tryz.prog 14 #[.int .i64 a0, .int .i64 b0] X (RatPost q X))) (h3 : Hid (∀ X v u, Env X → Rv X v p → Rv X u q → Calls Tryz.prog 38 #[v, u] X (RatPost z X)))
    (P k : Nat) (P0 : 0 < P) (P1 : (P : Int) ≤ 299) (k0 : 0 < k) (k1 : (k : Int) ≤ 60) (n : Int) (hn : -(P : Int) = n) (hop : Hid (∀ X v, Rv X v z → ∃ b o c b' o' c', v = .agg #[.bool true, .slice (some ⟨b, o, none⟩) 1 c, .slice (some ⟨b', o', none⟩) 1 c'] ∧ Lm X b o P ∧ Lm X b' o' k))
    (hlo : c0 * (k : Int) ≤ n * d0) (hhi : n * b0 ≤ a0 * (k : Int)) (hfl : Hid (∀ j : Int, 1 ≤ j → j < (k : Int) → (a0 * j / b0) * d0 < c0 * j)) (hnx : Hid ((n + 1) * d0 < c0 * (k : Int) ∨ a0 * (k : Int) < (n + 1) * b0))
    (w : World) (he : Env w) :
    Calls Tryz.prog 9 #[.agg #[.int .i16 z0, .int .i16 z1, .int .i16 z2, .int .i16 z3, .int .i16 z4, .int .i16 z5]] w fun e w' => e = .returned (.bool true) ∧ Below w.heap.size w w' := by
  have HE0 := Lib.hid he
  obtain ⟨W, hW⟩ : ∃ W, W = w.alloc (.cells #[.int .i16 z0, .int .i16 z1, .int .i16 z2, .int .i16 z3, .int .i16 z4, .int .i16 z5] 47) := ⟨_, rfl⟩
  have HB0 := Lib.hid (show Below w.heap.size w W by subst hW; exact (Below.refl _ _).alloc (Nat.le_refl _) _)
  have HS0 := Lib.hid (show SixC w.heap.size z0 z1 z2 z3 z4 z5 W by subst hW; exact six_row _ _ _ _ _ _ _)
  have HLO := Lib.hid (And.intro hlo hhi)
  obtain ⟨ad, had⟩ : ∃ z, a0 * d0 = z := ⟨_, rfl⟩
  obtain ⟨cb, hcb⟩ : ∃ z, c0 * b0 = z := ⟨_, rfl⟩
  have hadb := mul_bnd (x := a0) (y := d0) 299 60 (by omega) (by omega) (by omega) (by omega)
  have hcbb := mul_bnd (x := c0) (y := b0) 299 60 (by omega) (by omega) (by omega) (by omega)
  rw [had] at hadb hsw
  rw [hcb] at hcbb hsw
  obtain ⟨i1, i2⟩ := hadb
  obtain ⟨i3, i4⟩ := hcbb
  have hwb : IntKind.i64.wrap (1 + (bits .and .i64 z1 1023).tmod 60) = b0 := by rw [hb0]; exact IntWalk.i64_in _ (by omega)
  have hwd : IntKind.i64.wrap (1 + (bits .and .i64 z3 1023).tmod 60) = d0 := by rw [hd0]; exact IntWalk.i64_in _ (by omega)
  have HX0 := Lib.hid hb0
  have HX1 := Lib.hid hd0
  clear he hlo hhi hb0 hd0
  obtain ⟨-, s0, s1, s2, s3, -, -⟩ := HS0.out
  go_enter Tryz.func9, Tryz.ntmps9
  go_wp2_with (fail)
  rw [← hW]
  clear hW
  go_quiet (fail)
  clear s0 s1 s2 s3
  go_wp2_with (fail)
  go_at_call 14
  refine (h1.out _).mono ?_
  rintro e w1 ⟨v1, rfl, hv1, hb1⟩
  obtain ⟨A1, c1, B1, d1, rfl⟩ := hv1.open
  replace hb1 := Below.undrewN hb1
  obtain ⟨U1, hU1⟩ : ∃ W, W = w1.alloc (.cells #[.bool (qneg p), .slice A1 (nat p.num.natAbs).length c1, .slice B1 (nat p.den).length d1] 25) := ⟨_, rfl⟩
  have bU1 : Below w1.heap.size w1 U1 := by subst hU1; exact (Below.refl _ _).alloc (Nat.le_refl _) _
  have HXlo := Lib.hid (show Bq U1 w1.heap.size p (.slice A1 (nat p.num.natAbs).length c1) (.slice B1 (nat p.den).length d1) by subst hU1; exact Bq.new hv1)
  have HB1 := Lib.hid (below_join (below_join HB0.out hb1 HB0.out.size) bU1 (Nat.le_trans HB0.out.size hb1.size))
  clear hv1 hb1 bU1
  go_wp2_with (fail)
  rw [← hU1]
  clear hU1
  go_at_call 14
  refine (h2.out _).mono ?_
  rintro e w2 ⟨v2, rfl, hv2, hb2⟩
  obtain ⟨A2, c2, B2, d2, rfl⟩ := hv2.open
  obtain ⟨U2, hU2⟩ : ∃ W, W = w2.alloc (.cells #[.bool (qneg q), .slice A2 (nat q.num.natAbs).length c2, .slice B2 (nat q.den).length d2] 25) := ⟨_, rfl⟩
  have bU2 : Below w2.heap.size w2 U2 := by subst hU2; exact (Below.refl _ _).alloc (Nat.le_refl _) _
  have HXhi := Lib.hid (show Bq U2 w2.heap.size q (.slice A2 (nat q.num.natAbs).length c2) (.slice B2 (nat q.den).length d2) by subst hU2; exact Bq.new hv2)
  have HB2 := Lib.hid (below_join (below_join HB1.out hb2 HB1.out.size) bU2 (Nat.le_trans HB1.out.size hb2.size))
  replace HXlo := Lib.hid ((HXlo.out.on hb2).on bU2)
  clear hv2 hb2 bU2
  obtain ⟨x0, x1, x2⟩ := HXlo.out.cells
  rw [hU2] at x0 x1 x2
  go_wp2_with (fail)
  rw [← hU2]
  clear hU2
  clear x0 x1 x2
  have HE2 := Lib.hid (HE0.out.on HB2.out)
  go_at_call 38
  refine (h3.out _ _ _ HE2.out HXlo.out.rv HXhi.out.rv).mono ?_
  rintro e w3 ⟨v3, rfl, hv3, hb3⟩
  have HR3 := Lib.hid hv3
  obtain ⟨bn, on, cn, bd, od, cd, rfl, hln, hld⟩ := hop.out _ _ hv3
  obtain ⟨U3, hU3⟩ : ∃ W, W = w3.alloc (.cells #[.bool true, .slice (some ⟨bn, on, none⟩) 1 cn, .slice (some ⟨bd, od, none⟩) 1 cd] 25) := ⟨_, rfl⟩
  have bU3 : Below w3.heap.size w3 U3 := by subst hU3; exact (Below.refl _ _).alloc (Nat.le_refl _) _
  have HY3 := Lib.hid (show Rt U3 w3.heap.size true (.slice (some ⟨bn, on, none⟩) 1 cn) (.slice (some ⟨bd, od, none⟩) 1 cd) by subst hU3; exact rt_new _ _ _ _ _ rfl)
  have HV3 := Lib.hid (HR3.out.on bU3)
  have HB3 := Lib.hid (below_join (below_join HB2.out hb3 HB2.out.size) bU3 (Nat.le_trans HB2.out.size hb3.size))
  have HE3 := Lib.hid (HE0.out.on HB3.out)
  have HLn3 := Lib.hid (hln.on bU3)
  have HLd3 := Lib.hid (hld.on bU3)
  clear hv3 hb3 bU3 hld hln HR3
  go_wp2_with (fail)
  rw [← hU3]
  clear hU3
  go_at_call 18
  refine (v_Valid HE3.out HV3.out).mono ?_
  rintro e w4 ⟨rfl, b4⟩
  have HY4 := Lib.hid (HY3.out.on b4 HY3.out.lt)
  have HB4 := Lib.hid (below_join HB3.out b4 HB3.out.size)
  obtain ⟨-, ln⟩ := HLn3.out.on b4
  obtain ⟨-, ld⟩ := HLd3.out.on b4
  clear b4
  obtain ⟨y0, y1, y2⟩ := HY4.out.cells
  have r1 := mul_bnd (x := c0) (y := (k : Int)) 299 60 (by omega) (by omega) (by omega) (by omega)
  have r2 := mul_bnd (x := a0) (y := (k : Int)) 299 60 (by omega) (by omega) (by omega) (by omega)
  have r3 := mul_bnd (x := n) (y := d0) 299 60 (by omega) (by omega) (by omega) (by omega)
  have r4 := mul_bnd (x := n) (y := b0) 299 60 (by omega) (by omega) (by omega) (by omega)
  obtain ⟨nb, hnb⟩ : ∃ z, n * d0 = z := ⟨_, rfl⟩
  obtain ⟨nd, hnd⟩ : ∃ z, n * b0 = z := ⟨_, rfl⟩
  obtain ⟨ak, hak⟩ : ∃ z, c0 * (k : Int) = z := ⟨_, rfl⟩
  obtain ⟨ck, hck⟩ : ∃ z, a0 * (k : Int) = z := ⟨_, rfl⟩
  obtain ⟨l1, l2⟩ := HLO.out
  simp only [hnb, hnd, hak, hck] at l1 l2 r1 r2 r3 r4
  obtain ⟨r11, r12⟩ := r1
  obtain ⟨r21, r22⟩ := r2
  obtain ⟨r31, r32⟩ := r3
  obtain ⟨r41, r42⟩ := r4
  go_wp2_with (fail)
  go_quiet (fail)
  go_wp2_with (fail)
  clear y0 y1 y2 ld ln
  go_loopw [15] (fun i wr => ∃ (j : Int) (m : Nat), i = .int .i64 j ∧ 1 ≤ j ∧ j ≤ 60 ∧ wr = w4.drewN m) (fun i _ => ((k : Int) - intOf i).toNat)
  case atStart => exact ⟨1, _, rfl, by omega, by omega, rfl⟩
  case round =>
    obtain ⟨j, m0, rfl, j0, j1, rfl⟩ := hrel
    by_cases hj : j < (k : Int)
    · have hF := hfl.out j j0 hj
      have u1 := mul_bnd (x := a0) (y := j) 299 60 (by omega) (by omega) (by omega) (by omega)
      have u2 := mul_bnd (x := c0) (y := j) 299 60 (by omega) (by omega) (by omega) (by omega)
      have u3 := Int.natAbs_ediv_le_natAbs (a0 * j) b0
      obtain ⟨cj, hcj⟩ : ∃ z, a0 * j = z := ⟨_, rfl⟩
      obtain ⟨aj, haj⟩ : ∃ z, c0 * j = z := ⟨_, rfl⟩
      obtain ⟨f, hf⟩ : ∃ z, cj / b0 = z := ⟨_, rfl⟩
      rw [hcj] at u1 u3 hF
      rw [haj] at u2 hF
      rw [hf] at u3 hF
      have u4 := mul_bnd (x := f) (y := d0) 17940 60 (by omega) (by omega) (by omega) (by omega)
      obtain ⟨fb, hfb⟩ : ∃ z, f * d0 = z := ⟨_, rfl⟩
      rw [hfb] at u4 hF
      obtain ⟨u11, u12⟩ := u1
      obtain ⟨u21, u22⟩ := u2
      obtain ⟨u41, u42⟩ := u4
      have u31 : -17940 ≤ f := by omega
      have u32 : f ≤ 17940 := by omega
      clear u3
      have HC := Lib.hid (c_floor cj b0 (by omega) (by omega) (by omega) (by omega) (w4.drewN m0))
      rw [hf] at HC
      go_wp2_with (fail)
      go_at_call 45
      refine HC.out.mono ?_
      rintro e wf ⟨rfl, rfl⟩
      go_wp2_with (fail)
      go_roundw
      case rel => exact ⟨j + 1, m0, rfl, by omega, by omega, rfl⟩
      case measure => simp only [intOf]; omega
    · obtain ⟨m, hm⟩ : ∃ z, n + 1 = z := ⟨_, rfl⟩
      have hnx' := hnx.out
      rw [hm] at hnx'
      have v1 := mul_bnd (x := m) (y := d0) 300 60 (by omega) (by omega) (by omega) (by omega)
      have v2 := mul_bnd (x := m) (y := b0) 300 60 (by omega) (by omega) (by omega) (by omega)
      obtain ⟨mb, hmb⟩ : ∃ z, m * d0 = z := ⟨_, rfl⟩
      obtain ⟨md, hmd⟩ : ∃ z, m * b0 = z := ⟨_, rfl⟩
      rw [hmb] at v1 hnx'
      rw [hmd] at v2 hnx'
      rw [hak, hck] at hnx'
      obtain ⟨v11, v12⟩ := v1
      obtain ⟨v21, v22⟩ := v2
      have v3 : -301 ≤ m := by omega
      have v4 : m ≤ 301 := by omega
      have hn0 : (n == 0) = false := by rw [beq_eq_false_iff_ne]; omega
      by_cases hx : mb < ak
      · go_wp2_with (fail)
        go_at_call 23
        refine (c_works _ (HE0.out.on (below_drewN HB4.out m0))).mono ?_
        rintro e wz ⟨rfl, bz⟩
        go_wp2_with (fail)
        go_ret
        exact ⟨rfl, below_join (below_drewN HB4.out m0) bz HB4.out.size⟩
      · have hy : ck < md := by omega
        go_wp2_with (fail)
        go_at_call 23
        refine (c_works _ (HE0.out.on (below_drewN HB4.out m0))).mono ?_
        rintro e wz ⟨rfl, bz⟩
        go_wp2_with (fail)
        go_ret
        exact ⟨rfl, below_join (below_drewN HB4.out m0) bz HB4.out.size⟩
end Go.Proofs.YtfdkdloldjfnjaaGreatDoor
