/-
  DERIVED. Several texts in one.
-/
import Derived.Test.YtfdkdloldjfnjaaGreatDoorYWBm
set_option linter.unusedVariables false
set_option linter.unusedSimpArgs false

/- DERIVED. The law RatioNearest. (Written by gen/genWD.py.) -/
namespace Go.Proofs.YtfdkdloldjfnjaaGreatDoor
open Go.RowKit
set_option maxRecDepth 100000

set_option maxHeartbeats 16000000 in
theorem near_zz (n den r : Int) (n0 : -32768 ≤ n) (n1 : n ≤ 32767) (g0 : 0 ≤ den) (g1 : den ≤ 255) (hr : den % 40 = r) (_r0 : 0 ≤ r) (_r1 : r ≤ 39)
    (x y : Rat) (h1 : Hid (∀ X, Calls Tryz.prog 42 #[.int .i16 n, .int .i16 0] X (SmallPost x X))) (h2 : Hid (∀ X v, Env X → Rv X v x → Calls Tryz.prog 40 #[v, .int .i64 (1 + r)] X (RatPost y X)))
    (q : Nat) (q0 : 0 < q) (q1 : (q : Int) ≤ 40) (q2 : (q : Int) ≤ 1 + r) (hop : Hid (∀ X v, Rv X v y → ∃ A c b' o' c', v = .agg #[.bool false, .slice A 0 c, .slice (some ⟨b', o', none⟩) 1 c'] ∧ Lm X b' o' q))
    (hlaw : Hid (∀ (k i : Int), 1 ≤ k → k ≤ 1 + r → 0 ≤ i → i ≤ 1 → NearR n 1 0 (q : Int) k (n * k / 1) i)) (w : World) (he : Env w) :
    Calls Tryz.prog 10 #[.int .i16 n, .int .i16 0, .int .u8 den] w fun e w' => e = .returned (.bool true) ∧ Below w.heap.size w w' := by
  have HE0 := Lib.hid he
  clear he
  go_enter Tryz.func10, Tryz.ntmps10
  go_wp2_with (fail)
  go_at_call 42
  refine (h1.out _).mono ?_
  rintro e w1 ⟨v1, rfl, hv1, hb1⟩
  obtain ⟨A1, c1, B1, e1, rfl⟩ := hv1.open
  obtain ⟨W1, hW1⟩ : ∃ W, W = w1.alloc (.cells #[.bool (qneg x), .slice A1 (nat x.num.natAbs).length c1, .slice B1 (nat x.den).length e1] 25) := ⟨_, rfl⟩
  have bW1 : Below w1.heap.size w1 W1 := by subst hW1; exact (Below.refl _ _).alloc (Nat.le_refl _) _
  have HX := Lib.hid (show Bq W1 w1.heap.size x (.slice A1 (nat x.num.natAbs).length c1) (.slice B1 (nat x.den).length e1) by subst hW1; exact Bq.new hv1)
  have HB1 := Lib.hid (below_join hb1 bW1 hb1.size)
  have HE1 := Lib.hid (HE0.out.on HB1.out)
  clear hv1 hb1 bW1
  go_wp2_with (fail)
  rw [← hW1]
  clear hW1
  go_at_call 40
  refine (h2.out _ _ HE1.out HX.out.rv).mono ?_
  rintro e w2 ⟨v2, rfl, hv2, hb2⟩
  have HR2 := Lib.hid hv2
  obtain ⟨An, cn, bd, od, cd, rfl, hld⟩ := hop.out _ _ hv2
  obtain ⟨W2, hW2⟩ : ∃ W, W = w2.alloc (.cells #[.bool false, .slice An 0 cn, .slice (some ⟨bd, od, none⟩) 1 cd] 25) := ⟨_, rfl⟩
  have bW2 : Below w2.heap.size w2 W2 := by subst hW2; exact (Below.refl _ _).alloc (Nat.le_refl _) _
  have HY2 := Lib.hid (show Rt W2 w2.heap.size false (.slice An 0 cn) (.slice (some ⟨bd, od, none⟩) 1 cd) by subst hW2; exact rt_new _ _ _ _ _ rfl)
  have HV2 := Lib.hid (HR2.out.on bW2)
  have HB2 := Lib.hid (below_join (below_join HB1.out hb2 HB1.out.size) bW2 (Nat.le_trans HB1.out.size hb2.size))
  have HE2 := Lib.hid (HE0.out.on HB2.out)
  have HLd2 := Lib.hid (hld.on bW2)
  clear hv2 hb2 bW2 hld HR2
  go_wp2_with (fail)
  rw [← hW2]
  clear hW2
  go_at_call 18
  refine (v_Valid HE2.out HV2.out).mono ?_
  rintro e w3 ⟨rfl, b3⟩
  have HY3 := Lib.hid (HY2.out.on b3 HY2.out.lt)
  have HB3 := Lib.hid (below_join HB2.out b3 HB2.out.size)
  have HE3 := Lib.hid (HE0.out.on HB3.out)
  obtain ⟨-, ld⟩ := HLd2.out.on b3
  clear b3
  obtain ⟨y0, y1, y2⟩ := HY3.out.cells
  go_wp2_with (fail)
  go_quiet (fail)
  go_wp2_with (fail)
  clear y0 y1 y2 ld
  go_loopw [15] (fun i wr => ∃ (k : Int) (m : Nat), i = .int .i64 k ∧ 1 ≤ k ∧ k ≤ 2 + r ∧ wr = w3.drewN m) (fun i _ => (2 + r - intOf i).toNat)
  case atStart => exact ⟨1, _, rfl, by omega, by omega, rfl⟩
  case round =>
    obtain ⟨k, m0, rfl, k0, k1, rfl⟩ := hrel
    by_cases hk : k ≤ 1 + r
    · go_wp2_with (fail)
      go_loopw [16] (fun i wr => ∃ (j : Int) (m' : Nat), i = .int .i64 j ∧ 0 ≤ j ∧ j ≤ 2 ∧ wr = w3.drewN m') (fun i _ => (2 - intOf i).toNat)
      case atStart => exact ⟨0, _, rfl, by omega, by omega, rfl⟩
      case round =>
        obtain ⟨j, m', rfl, j0, j1, rfl⟩ := hrel
        by_cases hj : j < 2
        · obtain ⟨⟨e1, e2⟩, ⟨e3, e4⟩, ⟨e5, e6⟩, ⟨e7, e8⟩, ⟨e9, e10⟩, ⟨e11, e12⟩, ⟨e13, e14⟩, ⟨e15, e16⟩, ⟨e17, e18⟩, hlo, hat⟩ := hlaw.out k j k0 hk j0 (by omega)
          obtain ⟨ak, hak⟩ : ∃ z, n * k = z := ⟨_, rfl⟩
          obtain ⟨m, hm⟩ : ∃ z, ak + j = z := ⟨_, rfl⟩
          obtain ⟨aq, haq⟩ : ∃ z, n * (q : Int) = z := ⟨_, rfl⟩
          obtain ⟨t1, ht1⟩ : ∃ z, -aq = z := ⟨_, rfl⟩
          obtain ⟨u, hu⟩ : ∃ z, t1 * k = z := ⟨_, rfl⟩
          obtain ⟨t2, ht2⟩ : ∃ z, m - ak = z := ⟨_, rfl⟩
          obtain ⟨v, hv⟩ : ∃ z, t2 * (q : Int) = z := ⟨_, rfl⟩
          obtain ⟨mq, hmq⟩ : ∃ z, m * (q : Int) = z := ⟨_, rfl⟩
          simp only [Int.mul_one, Int.ediv_one, Int.zero_mul, Int.zero_sub, hak, hm, haq, ht1, hu, ht2, hv, hmq] at e1 e2 e3 e4 e5 e6 e7 e8 e9 e10 e11 e12 e13 e14 e15 e16 e17 e18 hlo hat
          have HC := Lib.hid (c_floor ak 1 (by omega) (by omega) (by omega) (by omega) (w3.drewN m'))
          have t11 : -50000000000 ≤ t1 := by omega
          have t12 : t1 ≤ 50000000000 := by omega
          have t21 : -50000000000 ≤ t2 := by omega
          have t22 : t2 ≤ 50000000000 := by omega
          have m1 : -1400000 ≤ m := by omega
          have m2 : m ≤ 1400000 := by omega
          rw [Int.ediv_one] at HC
          have HCMP := Lib.hid (And.intro hlo hat)
          clear hlo hat
          go_wp2_with (fail)
          go_at_call 45
          refine HC.out.mono ?_
          rintro e wf ⟨rfl, rfl⟩
          obtain ⟨hlo, hat⟩ := HCMP.out
          go_wp2_with (fail)
          · go_roundw
            case rel => exact ⟨j + 1, m', rfl, by omega, by omega, rfl⟩
            case measure => simp only [intOf]; omega
          · go_roundw
            case rel => exact ⟨j + 1, m', rfl, by omega, by omega, rfl⟩
            case measure => simp only [intOf]; omega
        · go_wp2_with (fail)
          go_roundw
          case rel => exact ⟨k + 1, m', rfl, by omega, by omega, rfl⟩
          case measure => simp only [intOf]; omega
    · go_wp2_with (fail)
      go_at_call 23
      refine (c_works _ (HE0.out.on (below_drewN HB3.out m0))).mono ?_
      rintro e wz ⟨rfl, bz⟩
      go_wp2_with (fail)
      go_ret
      exact ⟨rfl, below_join (below_drewN HB3.out m0) bz HB3.out.size⟩
end Go.Proofs.YtfdkdloldjfnjaaGreatDoor

/- DERIVED. The law RatioNearest. (Written by gen/genWD.py.) -/
namespace Go.Proofs.YtfdkdloldjfnjaaGreatDoor
open Go.RowKit
set_option maxRecDepth 100000

set_option maxHeartbeats 16000000 in
theorem near_zp (n den r : Int) (n0 : -32768 ≤ n) (n1 : n ≤ 32767) (g0 : 0 ≤ den) (g1 : den ≤ 255) (hr : den % 40 = r) (_r0 : 0 ≤ r) (_r1 : r ≤ 39)
    (x y : Rat) (h1 : Hid (∀ X, Calls Tryz.prog 42 #[.int .i16 n, .int .i16 0] X (SmallPost x X))) (h2 : Hid (∀ X v, Env X → Rv X v x → Calls Tryz.prog 40 #[v, .int .i64 (1 + r)] X (RatPost y X)))
    (P q : Nat) (P0 : 0 < P) (_P1 : (P : Int) ≤ 1310760) (q0 : 0 < q) (q1 : (q : Int) ≤ 40) (q2 : (q : Int) ≤ 1 + r) (hop : Hid (∀ X v, Rv X v y → ∃ b o c b' o' c', v = .agg #[.bool false, .slice (some ⟨b, o, none⟩) 1 c, .slice (some ⟨b', o', none⟩) 1 c'] ∧ Lm X b o P ∧ Lm X b' o' q))
    (hlaw : Hid (∀ (k i : Int), 1 ≤ k → k ≤ 1 + r → 0 ≤ i → i ≤ 1 → NearR n 1 (P : Int) (q : Int) k (n * k / 1) i)) (w : World) (he : Env w) :
    Calls Tryz.prog 10 #[.int .i16 n, .int .i16 0, .int .u8 den] w fun e w' => e = .returned (.bool true) ∧ Below w.heap.size w w' := by
  have HE0 := Lib.hid he
  clear he
  go_enter Tryz.func10, Tryz.ntmps10
  go_wp2_with (fail)
  go_at_call 42
  refine (h1.out _).mono ?_
  rintro e w1 ⟨v1, rfl, hv1, hb1⟩
  obtain ⟨A1, c1, B1, e1, rfl⟩ := hv1.open
  obtain ⟨W1, hW1⟩ : ∃ W, W = w1.alloc (.cells #[.bool (qneg x), .slice A1 (nat x.num.natAbs).length c1, .slice B1 (nat x.den).length e1] 25) := ⟨_, rfl⟩
  have bW1 : Below w1.heap.size w1 W1 := by subst hW1; exact (Below.refl _ _).alloc (Nat.le_refl _) _
  have HX := Lib.hid (show Bq W1 w1.heap.size x (.slice A1 (nat x.num.natAbs).length c1) (.slice B1 (nat x.den).length e1) by subst hW1; exact Bq.new hv1)
  have HB1 := Lib.hid (below_join hb1 bW1 hb1.size)
  have HE1 := Lib.hid (HE0.out.on HB1.out)
  clear hv1 hb1 bW1
  go_wp2_with (fail)
  rw [← hW1]
  clear hW1
  go_at_call 40
  refine (h2.out _ _ HE1.out HX.out.rv).mono ?_
  rintro e w2 ⟨v2, rfl, hv2, hb2⟩
  have HR2 := Lib.hid hv2
  obtain ⟨bn, on, cn, bd, od, cd, rfl, hln, hld⟩ := hop.out _ _ hv2
  obtain ⟨W2, hW2⟩ : ∃ W, W = w2.alloc (.cells #[.bool false, .slice (some ⟨bn, on, none⟩) 1 cn, .slice (some ⟨bd, od, none⟩) 1 cd] 25) := ⟨_, rfl⟩
  have bW2 : Below w2.heap.size w2 W2 := by subst hW2; exact (Below.refl _ _).alloc (Nat.le_refl _) _
  have HY2 := Lib.hid (show Rt W2 w2.heap.size false (.slice (some ⟨bn, on, none⟩) 1 cn) (.slice (some ⟨bd, od, none⟩) 1 cd) by subst hW2; exact rt_new _ _ _ _ _ rfl)
  have HV2 := Lib.hid (HR2.out.on bW2)
  have HB2 := Lib.hid (below_join (below_join HB1.out hb2 HB1.out.size) bW2 (Nat.le_trans HB1.out.size hb2.size))
  have HE2 := Lib.hid (HE0.out.on HB2.out)
  have HLn2 := Lib.hid (hln.on bW2)
  have HLd2 := Lib.hid (hld.on bW2)
  clear hv2 hb2 bW2 hld hln HR2
  go_wp2_with (fail)
  rw [← hW2]
  clear hW2
  go_at_call 18
  refine (v_Valid HE2.out HV2.out).mono ?_
  rintro e w3 ⟨rfl, b3⟩
  have HY3 := Lib.hid (HY2.out.on b3 HY2.out.lt)
  have HB3 := Lib.hid (below_join HB2.out b3 HB2.out.size)
  have HE3 := Lib.hid (HE0.out.on HB3.out)
  obtain ⟨-, ln⟩ := HLn2.out.on b3
  obtain ⟨-, ld⟩ := HLd2.out.on b3
  clear b3
  obtain ⟨y0, y1, y2⟩ := HY3.out.cells
  go_wp2_with (fail)
  go_quiet (fail)
  go_wp2_with (fail)
  clear y0 y1 y2 ld ln
  go_loopw [15] (fun i wr => ∃ (k : Int) (m : Nat), i = .int .i64 k ∧ 1 ≤ k ∧ k ≤ 2 + r ∧ wr = w3.drewN m) (fun i _ => (2 + r - intOf i).toNat)
  case atStart => exact ⟨1, _, rfl, by omega, by omega, rfl⟩
  case round =>
    obtain ⟨k, m0, rfl, k0, k1, rfl⟩ := hrel
    by_cases hk : k ≤ 1 + r
    · go_wp2_with (fail)
      go_loopw [16] (fun i wr => ∃ (j : Int) (m' : Nat), i = .int .i64 j ∧ 0 ≤ j ∧ j ≤ 2 ∧ wr = w3.drewN m') (fun i _ => (2 - intOf i).toNat)
      case atStart => exact ⟨0, _, rfl, by omega, by omega, rfl⟩
      case round =>
        obtain ⟨j, m', rfl, j0, j1, rfl⟩ := hrel
        by_cases hj : j < 2
        · obtain ⟨⟨e1, e2⟩, ⟨e3, e4⟩, ⟨e5, e6⟩, ⟨e7, e8⟩, ⟨e9, e10⟩, ⟨e11, e12⟩, ⟨e13, e14⟩, ⟨e15, e16⟩, ⟨e17, e18⟩, hlo, hat⟩ := hlaw.out k j k0 hk j0 (by omega)
          obtain ⟨ak, hak⟩ : ∃ z, n * k = z := ⟨_, rfl⟩
          obtain ⟨m, hm⟩ : ∃ z, ak + j = z := ⟨_, rfl⟩
          obtain ⟨aq, haq⟩ : ∃ z, n * (q : Int) = z := ⟨_, rfl⟩
          obtain ⟨t1, ht1⟩ : ∃ z, (P : Int) - aq = z := ⟨_, rfl⟩
          obtain ⟨u, hu⟩ : ∃ z, t1 * k = z := ⟨_, rfl⟩
          obtain ⟨t2, ht2⟩ : ∃ z, m - ak = z := ⟨_, rfl⟩
          obtain ⟨v, hv⟩ : ∃ z, t2 * (q : Int) = z := ⟨_, rfl⟩
          obtain ⟨mq, hmq⟩ : ∃ z, m * (q : Int) = z := ⟨_, rfl⟩
          obtain ⟨pk, hpk⟩ : ∃ z, (P : Int) * k = z := ⟨_, rfl⟩
          simp only [Int.mul_one, Int.ediv_one, hak, hm, haq, ht1, hu, ht2, hv, hmq, hpk] at e1 e2 e3 e4 e5 e6 e7 e8 e9 e10 e11 e12 e13 e14 e15 e16 e17 e18 hlo hat
          have HC := Lib.hid (c_floor ak 1 (by omega) (by omega) (by omega) (by omega) (w3.drewN m'))
          have t11 : -50000000000 ≤ t1 := by omega
          have t12 : t1 ≤ 50000000000 := by omega
          have t21 : -50000000000 ≤ t2 := by omega
          have t22 : t2 ≤ 50000000000 := by omega
          have m1 : -1400000 ≤ m := by omega
          have m2 : m ≤ 1400000 := by omega
          rw [Int.ediv_one] at HC
          have HCMP := Lib.hid (And.intro hlo hat)
          clear hlo hat
          go_wp2_with (fail)
          go_at_call 45
          refine HC.out.mono ?_
          rintro e wf ⟨rfl, rfl⟩
          obtain ⟨hlo, hat⟩ := HCMP.out
          go_wp2_with (fail)
          · go_roundw
            case rel => exact ⟨j + 1, m', rfl, by omega, by omega, rfl⟩
            case measure => simp only [intOf]; omega
          · go_roundw
            case rel => exact ⟨j + 1, m', rfl, by omega, by omega, rfl⟩
            case measure => simp only [intOf]; omega
        · go_wp2_with (fail)
          go_roundw
          case rel => exact ⟨k + 1, m', rfl, by omega, by omega, rfl⟩
          case measure => simp only [intOf]; omega
    · go_wp2_with (fail)
      go_at_call 23
      refine (c_works _ (HE0.out.on (below_drewN HB3.out m0))).mono ?_
      rintro e wz ⟨rfl, bz⟩
      go_wp2_with (fail)
      go_ret
      exact ⟨rfl, below_join (below_drewN HB3.out m0) bz HB3.out.size⟩
end Go.Proofs.YtfdkdloldjfnjaaGreatDoor

/- DERIVED. The law RatioNearest. (Written by gen/genWD.py.) -/
namespace Go.Proofs.YtfdkdloldjfnjaaGreatDoor
open Go.RowKit
set_option maxRecDepth 100000

set_option maxHeartbeats 16000000 in
theorem near_zm (n den r : Int) (n0 : -32768 ≤ n) (n1 : n ≤ 32767) (g0 : 0 ≤ den) (g1 : den ≤ 255) (hr : den % 40 = r) (_r0 : 0 ≤ r) (_r1 : r ≤ 39)
    (x y : Rat) (h1 : Hid (∀ X, Calls Tryz.prog 42 #[.int .i16 n, .int .i16 0] X (SmallPost x X))) (h2 : Hid (∀ X v, Env X → Rv X v x → Calls Tryz.prog 40 #[v, .int .i64 (1 + r)] X (RatPost y X)))
    (P q : Nat) (P0 : 0 < P) (_P1 : (P : Int) ≤ 1310760) (q0 : 0 < q) (q1 : (q : Int) ≤ 40) (q2 : (q : Int) ≤ 1 + r) (hop : Hid (∀ X v, Rv X v y → ∃ b o c b' o' c', v = .agg #[.bool true, .slice (some ⟨b, o, none⟩) 1 c, .slice (some ⟨b', o', none⟩) 1 c'] ∧ Lm X b o P ∧ Lm X b' o' q))
    (p : Int) (hp : -(P : Int) = p) (hlaw : Hid (∀ (k i : Int), 1 ≤ k → k ≤ 1 + r → 0 ≤ i → i ≤ 1 → NearR n 1 p (q : Int) k (n * k / 1) i)) (w : World) (he : Env w) :
    Calls Tryz.prog 10 #[.int .i16 n, .int .i16 0, .int .u8 den] w fun e w' => e = .returned (.bool true) ∧ Below w.heap.size w w' := by
  have HE0 := Lib.hid he
  clear he
  go_enter Tryz.func10, Tryz.ntmps10
  go_wp2_with (fail)
  go_at_call 42
  refine (h1.out _).mono ?_
  rintro e w1 ⟨v1, rfl, hv1, hb1⟩
  obtain ⟨A1, c1, B1, e1, rfl⟩ := hv1.open
  obtain ⟨W1, hW1⟩ : ∃ W, W = w1.alloc (.cells #[.bool (qneg x), .slice A1 (nat x.num.natAbs).length c1, .slice B1 (nat x.den).length e1] 25) := ⟨_, rfl⟩
  have bW1 : Below w1.heap.size w1 W1 := by subst hW1; exact (Below.refl _ _).alloc (Nat.le_refl _) _
  have HX := Lib.hid (show Bq W1 w1.heap.size x (.slice A1 (nat x.num.natAbs).length c1) (.slice B1 (nat x.den).length e1) by subst hW1; exact Bq.new hv1)
  have HB1 := Lib.hid (below_join hb1 bW1 hb1.size)
  have HE1 := Lib.hid (HE0.out.on HB1.out)
  clear hv1 hb1 bW1
  go_wp2_with (fail)
  rw [← hW1]
  clear hW1
  go_at_call 40
  refine (h2.out _ _ HE1.out HX.out.rv).mono ?_
  rintro e w2 ⟨v2, rfl, hv2, hb2⟩
  have HR2 := Lib.hid hv2
  obtain ⟨bn, on, cn, bd, od, cd, rfl, hln, hld⟩ := hop.out _ _ hv2
  obtain ⟨W2, hW2⟩ : ∃ W, W = w2.alloc (.cells #[.bool true, .slice (some ⟨bn, on, none⟩) 1 cn, .slice (some ⟨bd, od, none⟩) 1 cd] 25) := ⟨_, rfl⟩
  have bW2 : Below w2.heap.size w2 W2 := by subst hW2; exact (Below.refl _ _).alloc (Nat.le_refl _) _
  have HY2 := Lib.hid (show Rt W2 w2.heap.size true (.slice (some ⟨bn, on, none⟩) 1 cn) (.slice (some ⟨bd, od, none⟩) 1 cd) by subst hW2; exact rt_new _ _ _ _ _ rfl)
  have HV2 := Lib.hid (HR2.out.on bW2)
  have HB2 := Lib.hid (below_join (below_join HB1.out hb2 HB1.out.size) bW2 (Nat.le_trans HB1.out.size hb2.size))
  have HE2 := Lib.hid (HE0.out.on HB2.out)
  have HLn2 := Lib.hid (hln.on bW2)
  have HLd2 := Lib.hid (hld.on bW2)
  clear hv2 hb2 bW2 hld hln HR2
  go_wp2_with (fail)
  rw [← hW2]
  clear hW2
  go_at_call 18
  refine (v_Valid HE2.out HV2.out).mono ?_
  rintro e w3 ⟨rfl, b3⟩
  have HY3 := Lib.hid (HY2.out.on b3 HY2.out.lt)
  have HB3 := Lib.hid (below_join HB2.out b3 HB2.out.size)
  have HE3 := Lib.hid (HE0.out.on HB3.out)
  obtain ⟨-, ln⟩ := HLn2.out.on b3
  obtain ⟨-, ld⟩ := HLd2.out.on b3
  clear b3
  obtain ⟨y0, y1, y2⟩ := HY3.out.cells
  go_wp2_with (fail)
  go_quiet (fail)
  go_wp2_with (fail)
  clear y0 y1 y2 ld ln
  go_loopw [15] (fun i wr => ∃ (k : Int) (m : Nat), i = .int .i64 k ∧ 1 ≤ k ∧ k ≤ 2 + r ∧ wr = w3.drewN m) (fun i _ => (2 + r - intOf i).toNat)
  case atStart => exact ⟨1, _, rfl, by omega, by omega, rfl⟩
  case round =>
    obtain ⟨k, m0, rfl, k0, k1, rfl⟩ := hrel
    by_cases hk : k ≤ 1 + r
    · go_wp2_with (fail)
      go_loopw [16] (fun i wr => ∃ (j : Int) (m' : Nat), i = .int .i64 j ∧ 0 ≤ j ∧ j ≤ 2 ∧ wr = w3.drewN m') (fun i _ => (2 - intOf i).toNat)
      case atStart => exact ⟨0, _, rfl, by omega, by omega, rfl⟩
      case round =>
        obtain ⟨j, m', rfl, j0, j1, rfl⟩ := hrel
        by_cases hj : j < 2
        · obtain ⟨⟨e1, e2⟩, ⟨e3, e4⟩, ⟨e5, e6⟩, ⟨e7, e8⟩, ⟨e9, e10⟩, ⟨e11, e12⟩, ⟨e13, e14⟩, ⟨e15, e16⟩, ⟨e17, e18⟩, hlo, hat⟩ := hlaw.out k j k0 hk j0 (by omega)
          obtain ⟨ak, hak⟩ : ∃ z, n * k = z := ⟨_, rfl⟩
          obtain ⟨m, hm⟩ : ∃ z, ak + j = z := ⟨_, rfl⟩
          obtain ⟨aq, haq⟩ : ∃ z, n * (q : Int) = z := ⟨_, rfl⟩
          obtain ⟨t1, ht1⟩ : ∃ z, p - aq = z := ⟨_, rfl⟩
          obtain ⟨u, hu⟩ : ∃ z, t1 * k = z := ⟨_, rfl⟩
          obtain ⟨t2, ht2⟩ : ∃ z, m - ak = z := ⟨_, rfl⟩
          obtain ⟨v, hv⟩ : ∃ z, t2 * (q : Int) = z := ⟨_, rfl⟩
          obtain ⟨mq, hmq⟩ : ∃ z, m * (q : Int) = z := ⟨_, rfl⟩
          obtain ⟨pk, hpk⟩ : ∃ z, p * k = z := ⟨_, rfl⟩
          simp only [Int.mul_one, Int.ediv_one, hak, hm, haq, ht1, hu, ht2, hv, hmq, hpk] at e1 e2 e3 e4 e5 e6 e7 e8 e9 e10 e11 e12 e13 e14 e15 e16 e17 e18 hlo hat
          have HC := Lib.hid (c_floor ak 1 (by omega) (by omega) (by omega) (by omega) (w3.drewN m'))
          have t11 : -50000000000 ≤ t1 := by omega
          have t12 : t1 ≤ 50000000000 := by omega
          have t21 : -50000000000 ≤ t2 := by omega
          have t22 : t2 ≤ 50000000000 := by omega
          have m1 : -1400000 ≤ m := by omega
          have m2 : m ≤ 1400000 := by omega
          rw [Int.ediv_one] at HC
          have HCMP := Lib.hid (And.intro hlo hat)
          clear hlo hat
          go_wp2_with (fail)
          go_at_call 45
          refine HC.out.mono ?_
          rintro e wf ⟨rfl, rfl⟩
          obtain ⟨hlo, hat⟩ := HCMP.out
          go_wp2_with (fail)
          · go_roundw
            case rel => exact ⟨j + 1, m', rfl, by omega, by omega, rfl⟩
            case measure => simp only [intOf]; omega
          · go_roundw
            case rel => exact ⟨j + 1, m', rfl, by omega, by omega, rfl⟩
            case measure => simp only [intOf]; omega
        · go_wp2_with (fail)
          go_roundw
          case rel => exact ⟨k + 1, m', rfl, by omega, by omega, rfl⟩
          case measure => simp only [intOf]; omega
    · go_wp2_with (fail)
      go_at_call 23
      refine (c_works _ (HE0.out.on (below_drewN HB3.out m0))).mono ?_
      rintro e wz ⟨rfl, bz⟩
      go_wp2_with (fail)
      go_ret
      exact ⟨rfl, below_join (below_drewN HB3.out m0) bz HB3.out.size⟩
end Go.Proofs.YtfdkdloldjfnjaaGreatDoor
