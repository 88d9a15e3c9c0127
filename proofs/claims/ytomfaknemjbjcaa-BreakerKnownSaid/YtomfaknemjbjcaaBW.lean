/-
  DERIVED. slices.Clone of loads; the law's own; the law BreakerCourses.
-/
import Derived.Test.YtomfaknemjbjcaaBV
import Derived.Test.YtomfaknemjbjcaaBR
import Derived.Lib.SliceRun
import Derived.Deep.RegionHeld3
namespace Go.Proofs.Ytomfaknemjbjcaa
open Go.RowKit
set_option maxRecDepth 100000

/-- Loads as cells. -/
def ints (l : List Int) : List Value := l.map fun x => .int .i64 x
theorem int_info : (Try.prog.info? 3).map (fun i => (i.zero, i.size, i.bytes)) = some (some (.int .i64 0), 1, 8) := by kernel_rfl
theorem own_intSl {w : World} {base : Nat} {v : Value} {l : List Int} (h : w.ownsRow base 3 1 v l.length (ints l)) : IntSl w v l := by
  have hc := h
  obtain ⟨k1, ⟨rfl, k2⟩ | ⟨g, cap, cur, rfl, k3, k4, k5, k6, k7, k8⟩⟩ := h
  · have : l = [] := List.eq_nil_of_length_eq_zero k2
    subst this
    exact IntSl.nil _
  · refine ⟨some ⟨g, 0, none⟩, cap, rfl, k5, k6, (by intro h; cases h), fun _ => ⟨g, 0, rfl, (Array.getElem?_eq_some_iff.1 k4).1, fun j x hj => ?_⟩⟩
    have hj' := (List.getElem?_eq_some_iff.1 hj).1
    rw [Nat.zero_add]
    refine (hc.cellAt j (by omega)).trans ?_
    unfold ints
    rw [List.getElem?_map, hj]; rfl
set_option maxHeartbeats 2000000 in
theorem c_Clone (l : List Int) (hm : l.length ≤ 100000) (v : Value) (w : World) (h : IntSl w v l) : Calls Try.prog 34 #[v] w fun e w' => ∃ v', e = .returned v' ∧ w'.ownsRow w.heap.size 3 1 v' l.length (ints l) ∧ Below w.heap.size w w' := by
  obtain ⟨A, c, rfl, h2, h3, h5, h4⟩ := h
  have H3 := Lib.hid h3
  have H4 := Lib.hid h4
  clear h3 h4
  obtain ⟨i0, hi0, hz0, hz1, hz2⟩ := info_parts int_info
  have q22 : ∀ (w : World) (a : Option Addr) (n c n' c' : Nat), (binOp .eql 26 (.slice a n c) (.slice none n' c')).run Try.prog w = .ok (.bool a.isNone) w := fun w a n c n' c' => Lib.run_eql_slice_nil w _ _ a n c n' c' Try.underlying26
  cases A with
  | none =>
    have hl : l = [] := List.eq_nil_of_length_eq_zero (by have := h5 rfl; omega)
    subst hl
    go_enter Try.func34, Try.ntmps34
    go_wp2
    go_ret
    exact ⟨_, rfl, World.ownsRow_nil _ _ _ _, Below.refl _ _⟩
  | some ad =>
    clear h5
    go_enter Try.func34, Try.ntmps34
    go_wp2_with (at_builtin; refine wpList_append_own _ rfl _ _ 26 rfl w.heap.size 3 i0 (.int .i64 0) 1 8 Try.underlying26 hi0 hz0 hz1 hz2 rfl (by omega) _ _ _ rfl (World.ownsRow_made w #[] 0 (Nat.le_refl _) (Nat.zero_le _) (by simp)) ad l.length c (ints l) rfl ?qc1 ?qc2 ?qc3 ?qc4 ?qc5 ?qc6 ?_)
    case qc1 => simp [ints]
    case qc2 =>
      intro j u hj
      unfold ints at hj
      rw [List.getElem?_map] at hj
      obtain ⟨x, hx1, rfl⟩ := Option.map_eq_some_iff.1 hj
      obtain ⟨b, o, e, hlt, hc⟩ := H4.out (by have := (List.getElem?_eq_some_iff.1 hx1).1; omega)
      injection e with e
      subst e
      have e : (⟨b, o, none⟩ : Addr).add j = ⟨b, o + j, none⟩ := by unfold Addr.add; split <;> simp_all
      rw [e]
      exact (World.cell?_alloc_lt w _ ⟨b, o + j, none⟩ hlt).trans (hc j x hx1)
    case qc3 => intro u hu; obtain ⟨x, -, rfl⟩ := List.mem_map.1 hu; rfl
    case qc4 => unfold maxLen; omega
    case qc5 => omega
    case qc6 => simp
    intro v' w1 hown hgrow hnil
    have HO := Lib.hid (show w1.ownsRow w.heap.size 3 1 v' l.length (ints l) by simpa using hown)
    have HB := Lib.hid (((Below.refl w.heap.size w).alloc (Nat.le_refl _) _).grown hgrow (by simp) (by intro k hk; simp [Value.ownBlock] at hk; omega))
    clear hown hgrow hnil
    go_wp2
    go_ret
    exact ⟨_, rfl, HO.out, HB.out⟩
theorem IntSl.take {w : World} {A : Option Addr} {c n : Nat} {l : List Int} (h : IntSl w (.slice A n c) l) (m : Nat) (hm : m ≤ n) : IntSl w (.slice A m c) (l.take m) := by
  obtain ⟨A', c', e, h2, h3, h5, h4⟩ := h
  injection e with e1 e2 e3
  subst e1 e2 e3
  have hl : (l.take m).length = m := by rw [List.length_take]; omega
  refine ⟨A, c, by rw [hl], by rw [hl]; omega, h3, h5, fun h0 => ?_⟩
  rw [hl] at h0
  obtain ⟨b, o, e, hlt, hc⟩ := h4 (by omega)
  refine ⟨b, o, e, hlt, fun j x hj => hc j x ?_⟩
  have hj' := (List.getElem?_eq_some_iff.1 hj).1
  rw [hl] at hj'
  rwa [List.getElem?_take_of_lt hj'] at hj
/-- own's answer. -/
def ownL (l : List Int) : List Int := l.take (if 1000 < l.length then 1001 else 40)
theorem ownL_len (l : List Int) : (ownL l).length ≤ 1001 := by
  unfold ownL; rw [List.length_take]; split <;> omega
set_option maxHeartbeats 4000000 in
theorem c_own (l : List Int) (v : Value) (w : World) (h : IntSl w v l) : Calls Try.prog 10 #[v] w fun e w' => ∃ v', e = .returned v' ∧ w'.ownsRow w.heap.size 3 1 v' (ownL l).length (ints (ownL l)) ∧ Below w.heap.size w w' := by
  have H := Lib.hid h
  obtain ⟨A, c, rfl, h2, h3⟩ := h.shape
  obtain ⟨m, hm⟩ : ∃ m, m = min l.length (if 1000 < l.length then 1001 else 40) := ⟨_, rfl⟩
  have hml : m ≤ l.length := by omega
  have HC := Lib.hid (fun (X : World) (hX : Below w.heap.size w X) => c_Clone (l.take m) (by rw [List.length_take]; split at hm <;> omega) (.slice A m c) X ((H.out.take m hml).on hX (Nat.le_refl _)))
  have HE := Lib.hid (show l.take m = ownL l by
    unfold ownL
    rw [hm]
    rcases Nat.le_total l.length (if 1000 < l.length then 1001 else 40) with g | g
    · rw [Nat.min_eq_left g, List.take_of_length_le (Nat.le_refl _), List.take_of_length_le g]
    · rw [Nat.min_eq_right g])
  unfold maxLen at h3
  by_cases hl : 1000 < l.length
  · rw [if_pos hl] at hm
    have hl' : (1000 : Int) < ((l.length : Nat) : Int) := by omega
    have hmi : min ((l.length : Nat) : Int) 1001 = (m : Int) := by omega
    have hmc : m ≤ c := by omega
    clear h hm
    go_enter Try.func10, Try.ntmps10
    go_wp2_with (fail)
    go_at_call 34
    refine (HC.out _ (Below.refl _ _)).mono ?_
    rintro e w1 ⟨v', rfl, ho, hb⟩
    rw [HE.out] at ho
    have HO := Lib.hid ho
    have HB := Lib.hid hb
    clear ho hb
    go_wp2_with (fail)
    go_ret
    exact ⟨_, rfl, HO.out, HB.out⟩
  · rw [if_neg hl] at hm
    have hl' : ((l.length : Nat) : Int) ≤ 1000 := by omega
    have hmi : min ((l.length : Nat) : Int) 40 = (m : Int) := by omega
    have hmc : m ≤ c := by omega
    clear h hm
    go_enter Try.func10, Try.ntmps10
    go_wp2_with (fail)
    go_at_call 34
    refine (HC.out _ (Below.refl _ _)).mono ?_
    rintro e w1 ⟨v', rfl, ho, hb⟩
    rw [HE.out] at ho
    have HO := Lib.hid ho
    have HB := Lib.hid hb
    clear ho hb
    go_wp2_with (fail)
    go_ret
    exact ⟨_, rfl, HO.out, HB.out⟩
theorem ownL_idem (l : List Int) : ownL (ownL l) = ownL l := by
  unfold ownL
  rw [List.length_take]
  by_cases h : 1000 < l.length
  · rw [if_pos h, if_pos (by omega), List.take_take, Nat.min_self]
  · rw [if_neg h, if_neg (by omega), List.take_take, Nat.min_self]
set_option maxHeartbeats 16000000 in
theorem row_BreakerCourses (w : World) (f L S F : Int) (x : Int × Bool) (p : Int) (v : Value) (l : List Int) (hv : IntSl w v l) :
    Calls Try.prog 3 #[bkV f L S F, stV x, .int .i64 p, v] w fun e w' => e = .returned (.bool true) ∧ Below w.heap.size w w' := by
  obtain ⟨q, t⟩ := x
  obtain ⟨m, hm⟩ : ∃ m, m = ownL l := ⟨_, rfl⟩
  obtain ⟨⟨⟨y1, y2⟩, r1⟩, h1⟩ : ∃ z, z = nxt L S F q t p := ⟨_, rfl⟩
  obtain ⟨r2, h2⟩ : ∃ z, z = fltS L S F q t m := ⟨_, rfl⟩
  obtain ⟨cs, h3⟩ : ∃ z, z = if r2 = 0 then (q, t) :: crs L S F (q, t) m else [] := ⟨_, rfl⟩
  obtain ⟨⟨y4, r4⟩, h4⟩ : ∃ z, z = tripsP L S F q m := ⟨_, rfl⟩
  obtain ⟨r5, h5⟩ : ∃ z, z = bOk L S F := ⟨_, rfl⟩
  have HV := Lib.hid hv
  have HO1 := Lib.hid (fun (X : World) (hX : Below w.heap.size w X) => c_own l v X (hv.on hX (Nat.le_refl _)))
  have HO2 := Lib.hid (fun (X : World) (u : Value) (hu : IntSl X u m) => by have := c_own m u X hu; rw [hm, ownL_idem, ← hm] at this; exact this)
  rw [← hm] at HO1
  have H1 := Lib.hid (fun (X : World) => c_Next f L S F q p t (y1, y2) r1 h1.symm X)
  have H2 := Lib.hid (fun (X : World) => r_Next f L S F q p t (y1, y2) r1 h1.symm X)
  have H3 := Lib.hid (fun (X : World) (u : Value) (hu : IntSl X u m) => c_Course f L S F q t m u X hu r2 h2.symm cs h3)
  have H4 := Lib.hid (fun (X : World) (u : Value) (hu : IntSl X u m) => r_Course f L S F q t m u X hu r2 h2.symm cs h3)
  have H5 := Lib.hid (fun (X : World) (u : Value) (hu : IntSl X u m) => c_Trips f L S F q m u X hu y4 r4 h4.symm)
  have H6 := Lib.hid (fun (X : World) (u : Value) (hu : IntSl X u m) => r_Trips f L S F q m u X hu y4 r4 h4.symm)
  have H7 := Lib.hid (fun (X : World) => c_Valid f L S F r5 h5.symm X)
  have H8 := Lib.hid (fun (X : World) => r_Valid f L S F r5 h5.symm X)
  have HE := Lib.hid (fun (X : World) (u u' : Value) (hu : StSl X u cs) (hu' : StSl X u' cs) => c_eqStates cs cs true (decide_eq_true rfl) u u' X hu hu')
  have HI := Lib.hid (fun (X : World) (u u' : Value) (hu : IntSl X u m) (hu' : IntSl X u' m) => c_eqInts m m true (decide_eq_true rfl) u u' X hu hu')
  clear h1 h2 h3 h4 h5 hm
  unfold bkV stV at H1 H2 H3 H4
  unfold bkV at H5 H6 H7 H8
  unfold bkV stV
  obtain ⟨A, c, rfl, -, -⟩ := hv.shape
  obtain ⟨W, hW⟩ : ∃ W, W = (w.alloc (.cells #[.int .i64 f, .int .i64 L, .int .i64 S, .int .i64 F] 23)).alloc (.cells #[.int .i64 q, .bool t] 25) := ⟨_, rfl⟩
  have HB0 := Lib.hid (show Below w.heap.size w W by subst hW; exact below_a2 _ _ _)
  have HK0 := Lib.hid (show Bk W w.heap.size f L S F by subst hW; exact old_heap _ (bk_new _ _ _ _ _))
  have HS0 := Lib.hid (show St W (w.heap.size + 1) q t by subst hW; exact row_new4 _ _ _ (by simp))
  have hz0 : w.heap.size + 1 < W.heap.size := block_lt HS0.out
  have g1 := guardSt
  have g2 := neqSt
  clear hv
  go_enter Try.func3, Try.ntmps3
  go_wp2_with (fail)
  rw [← hW]
  clear hW
  go_at_call 10
  refine (HO1.out _ HB0.out).mono ?_
  rintro e w1 ⟨u1, rfl, ho1, b1⟩
  have HU1 := Lib.hid (own_intSl ho1)
  obtain ⟨A1, c1, hu1, -, -⟩ := (own_intSl ho1).shape
  subst hu1
  have HB1 := Lib.hid (below_join HB0.out b1 HB0.out.size)
  have HK1 := Lib.hid (HK0.out.on b1 (by omega))
  have HS1 := Lib.hid (HS0.out.on b1 (by omega))
  have hz1 := Nat.lt_of_lt_of_le hz0 b1.size
  clear ho1 b1
  go_wp2_with (fail)
  go_at_call 10
  refine (HO2.out _ _ HU1.out).mono ?_
  rintro e w2 ⟨u2, rfl, ho2, b2⟩
  have HV2 := Lib.hid (own_intSl ho2)
  obtain ⟨A2, c2, hu2, -, -⟩ := (own_intSl ho2).shape
  subst hu2
  have HB2 := Lib.hid (below_join HB1.out b2 HB1.out.size)
  have HU2 := Lib.hid (HU1.out.on b2 (Nat.le_refl _))
  have HK2 := Lib.hid (HK1.out.on b2 (by omega))
  have HS2 := Lib.hid (HS1.out.on b2 (by omega))
  have hz2 := Nat.lt_of_lt_of_le hz1 b2.size
  clear ho2 b2
  obtain ⟨x0, x1, x2, x3⟩ := HK2.out.cells
  obtain ⟨z0, z1⟩ := HS2.out.cells
  go_wp2_with (fail)
  go_at_call 11
  refine (H1.out _).mono ?_
  rintro e w3 ⟨rfl, b3⟩
  obtain ⟨W3, hW3⟩ : ∃ W3, W3 = w3.alloc (.cells #[.int .i64 y1, .bool y2] 25) := ⟨_, rfl⟩
  have b3' : Below w2.heap.size w2 W3 := by subst hW3; exact b3.alloc b3.size _
  have HB3 := Lib.hid (below_join HB2.out b3' HB2.out.size)
  have HU3 := Lib.hid (HU2.out.on b3' (Nat.le_refl _))
  have HV3 := Lib.hid (HV2.out.on b3' (Nat.le_refl _))
  have HK3 := Lib.hid (HK2.out.on b3' (by omega))
  have HS3 := Lib.hid (HS2.out.on b3' (by omega))
  have HX3 := Lib.hid (show St W3 w3.heap.size y1 y2 by subst hW3; exact st_new _ _ _)
  have hz3 := block_lt HX3.out
  have hz23 := b3.size
  clear b3 b3' x0 x1 x2 x3 z0 z1
  obtain ⟨x0, x1, x2, x3⟩ := HK3.out.cells
  obtain ⟨z0, z1⟩ := HS3.out.cells
  rw [hW3] at x0 x1 x2 x3 z0 z1
  go_wp2_with (fail)
  rw [← hW3]
  clear hW3 x0 x1 x2 x3 z0 z1
  go_at_call 12
  refine (H2.out _).mono ?_
  rintro e w4 ⟨rfl, b4⟩
  obtain ⟨W4, hW4⟩ : ∃ W4, W4 = w4.alloc (.cells #[.int .i64 y1, .bool y2] 25) := ⟨_, rfl⟩
  have b4' : Below W3.heap.size W3 W4 := by subst hW4; exact b4.alloc b4.size _
  have HB4 := Lib.hid (below_join HB3.out b4' HB3.out.size)
  have HU4 := Lib.hid (HU3.out.on b4' (Nat.le_refl _))
  have HV4 := Lib.hid (HV3.out.on b4' (Nat.le_refl _))
  have HK4 := Lib.hid (HK3.out.on b4' (by omega))
  have HS4 := Lib.hid (HS3.out.on b4' (by omega))
  have HX4 := Lib.hid (HX3.out.on b4' hz3)
  have HY4 := Lib.hid (show St W4 w4.heap.size y1 y2 by subst hW4; exact st_new _ _ _)
  have hz4 := block_lt HY4.out
  have hz34 := b4.size
  clear b4 b4'
  obtain ⟨x0, x1, x2, x3⟩ := HK4.out.cells
  obtain ⟨z0, z1⟩ := HS4.out.cells
  rw [hW4] at x0 x1 x2 x3 z0 z1
  go_wp2_with (fail)
  rw [← hW4]
  clear hW4 x0 x1 x2 x3 z0 z1
  go_at_call 13
  refine (H3.out _ _ HU4.out).mono ?_
  rintro e w5 ⟨cv, rfl, hcv, b5⟩
  have HC5 := Lib.hid hcv
  obtain ⟨A5, c5, hu5, -, -⟩ := hcv.shape
  subst hu5
  have HB5 := Lib.hid (below_join HB4.out b5 HB4.out.size)
  have HU5 := Lib.hid (HU4.out.on b5 (Nat.le_refl _))
  have HV5 := Lib.hid (HV4.out.on b5 (Nat.le_refl _))
  have HK5 := Lib.hid (HK4.out.on b5 (by omega))
  have HS5 := Lib.hid (HS4.out.on b5 (by omega))
  have HX5 := Lib.hid (HX4.out.on b5 (by omega))
  have HY5 := Lib.hid (HY4.out.on b5 (by omega))
  have hz5 := Nat.lt_of_lt_of_le hz4 b5.size
  clear hcv b5
  obtain ⟨x0, x1, x2, x3⟩ := HK5.out.cells
  obtain ⟨z0, z1⟩ := HS5.out.cells
  go_wp2_with (fail)
  go_at_call 14
  refine (H4.out _ _ HV5.out).mono ?_
  rintro e w6 ⟨cu, rfl, hcu, b6⟩
  have HC6 := Lib.hid (HC5.out.on b6 (Nat.le_refl _))
  have HD6 := Lib.hid hcu
  obtain ⟨A6, c6, hu6, -, -⟩ := hcu.shape
  subst hu6
  have HB6 := Lib.hid (below_join HB5.out b6 HB5.out.size)
  have HU6 := Lib.hid (HU5.out.on b6 (Nat.le_refl _))
  have HV6 := Lib.hid (HV5.out.on b6 (Nat.le_refl _))
  have HK6 := Lib.hid (HK5.out.on b6 (by omega))
  have HS6 := Lib.hid (HS5.out.on b6 (by omega))
  have HX6 := Lib.hid (HX5.out.on b6 (by omega))
  have HY6 := Lib.hid (HY5.out.on b6 (by omega))
  have hz6 := Nat.lt_of_lt_of_le hz5 b6.size
  clear hcu b6 x0 x1 x2 x3 z0 z1
  obtain ⟨x0, x1, x2, x3⟩ := HK6.out.cells
  obtain ⟨s0, s1⟩ := HX6.out.cells
  obtain ⟨s2, s3⟩ := HY6.out.cells
  have HE6 := Lib.hid (fun (X : World) (hX : Below w6.heap.size w6 X) => HE.out X _ _ (HC6.out.on hX (Nat.le_refl _)) (HD6.out.on hX (Nat.le_refl _)))
  have hzz : w4.heap.size < w6.heap.size := hz6
  go_wp2_with (fail)
  clear x0 x1 x2 x3 s0 s1 s2 s3
  go_region_held3 (fun X => (X.cell? ⟨w.heap.size, 0, none⟩ = some (.int .i64 f) ∧ X.cell? ⟨w.heap.size, 1, none⟩ = some (.int .i64 L) ∧ X.cell? ⟨w.heap.size, 2, none⟩ = some (.int .i64 S) ∧ X.cell? ⟨w.heap.size, 3, none⟩ = some (.int .i64 F)) ∧ (X.cell? ⟨w3.heap.size, 0, none⟩ = some (.int .i64 y1) ∧ X.cell? ⟨w3.heap.size, 1, none⟩ = some (.bool y2)) ∧ X.cell? ⟨w4.heap.size, 0, none⟩ = some (.int .i64 y1) ∧ X.cell? ⟨w4.heap.size, 1, none⟩ = some (.bool y2))
    (first | exact ⟨HK9.out.cells, HX9.out.cells, HY9.out.cells⟩ | exact ⟨HK8.out.cells, HX8.out.cells, HY8.out.cells⟩ | exact ⟨HK7.out.cells, HX7.out.cells, HY7.out.cells⟩ | exact ⟨HK6.out.cells, HX6.out.cells, HY6.out.cells⟩)
    (first
      | (go_at_call 15; (with_reducible refine (HE6.out _ (Below.refl _ _).drew).mono ?_); rintro e w7 ⟨rfl, hd7⟩; have b7 := drew_below (Below.refl w6.heap.size w6).drew hd7; have HB7 := Lib.hid (below_join HB6.out b7 HB6.out.size); have HK7 := Lib.hid (HK6.out.on b7 (by omega)); have HS7 := Lib.hid (HS6.out.on b7 (by omega)); have HX7 := Lib.hid (HX6.out.on b7 (by omega)); have HY7 := Lib.hid (HY6.out.on b7 (by omega)); have HU7 := Lib.hid (HU6.out.on b7 (Nat.le_refl _)); have HV7 := Lib.hid (HV6.out.on b7 (Nat.le_refl _)); have hz7 := Nat.lt_of_lt_of_le hz6 b7.size; clear b7 hd7)
      | (go_at_call 16; (with_reducible refine (H7.out _).mono ?_); rintro e w8 ⟨rfl, b8⟩; have HB8 := Lib.hid (below_join HB7.out b8 HB7.out.size); have HK8 := Lib.hid (HK7.out.on b8 (by omega)); have HS8 := Lib.hid (HS7.out.on b8 (by omega)); have HX8 := Lib.hid (HX7.out.on b8 (by omega)); have HY8 := Lib.hid (HY7.out.on b8 (by omega)); have HU8 := Lib.hid (HU7.out.on b8 (Nat.le_refl _)); have HV8 := Lib.hid (HV7.out.on b8 (Nat.le_refl _)); have hz8 := Nat.lt_of_lt_of_le hz7 b8.size; clear b8)
      | (go_at_call 17; (with_reducible refine (H8.out _).mono ?_); rintro e w9 ⟨rfl, b9⟩; have HB9 := Lib.hid (below_join HB8.out b9 HB8.out.size); have HK9 := Lib.hid (HK8.out.on b9 (by omega)); have HS9 := Lib.hid (HS8.out.on b9 (by omega)); have HX9 := Lib.hid (HX8.out.on b9 (by omega)); have HY9 := Lib.hid (HY8.out.on b9 (by omega)); have HU9 := Lib.hid (HU8.out.on b9 (Nat.le_refl _)); have HV9 := Lib.hid (HV8.out.on b9 (Nat.le_refl _)); have hz9 := Nat.lt_of_lt_of_le hz8 b9.size; clear b9)
      | fail)
  obtain ⟨x0, x1, x2, x3⟩ := HK9.out.cells
  obtain ⟨z0, z1⟩ := HS9.out.cells
  go_wp2_with (fail)
  go_at_call 18
  refine (H5.out _ _ HU9.out).mono ?_
  rintro e w10 ⟨rfl, b10⟩
  have HB10 := Lib.hid (below_join HB9.out b10 HB9.out.size)
  have HK10 := Lib.hid (HK9.out.on b10 (by omega))
  have HS10 := Lib.hid (HS9.out.on b10 (by omega))
  have HU10 := Lib.hid (HU9.out.on b10 (Nat.le_refl _))
  have HV10 := Lib.hid (HV9.out.on b10 (Nat.le_refl _))
  clear b10 x0 x1 x2 x3 z0 z1
  obtain ⟨x0, x1, x2, x3⟩ := HK10.out.cells
  obtain ⟨z0, z1⟩ := HS10.out.cells
  go_wp2_with (fail)
  go_at_call 19
  refine (H6.out _ _ HV10.out).mono ?_
  rintro e w11 ⟨rfl, b11⟩
  have HB11 := Lib.hid (below_join HB10.out b11 HB10.out.size)
  have HU11 := Lib.hid (HU10.out.on b11 (Nat.le_refl _))
  have HV11 := Lib.hid (HV10.out.on b11 (Nat.le_refl _))
  clear b11 x0 x1 x2 x3 z0 z1
  go_wp2_with (fail)
  go_at_call 20
  refine (HI.out _ _ _ HU11.out HV11.out).mono ?_
  rintro e w12 ⟨rfl, hd12⟩
  have HB12 := Lib.hid (drew_below HB11.out hd12)
  clear hd12
  go_wp2_with (fail)
  go_at_call 21
  refine (c_works _).mono ?_
  rintro e w13 ⟨rfl, b13⟩
  have HB13 := Lib.hid (below_join HB12.out b13 HB12.out.size)
  clear b13
  go_wp2_with (fail)
  go_ret
  exact ⟨rfl, HB13.out⟩
end Go.Proofs.Ytomfaknemjbjcaa
