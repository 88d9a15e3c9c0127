/-
  DERIVED. The law FlowChecks (stage 5).
-/
import Derived.Test.YthebdlmjopjdgaaDE
import Derived.Test.YthebdlmjopjdgaaCE
namespace Go.Proofs.Ythebdlmjopjdgaa
open Go.RowKit Go.Shelf
set_option maxRecDepth 100000
set_option linter.unusedSimpArgs false
set_option linter.unusedVariables false

theorem IntSl.cut {w : World} {A : Option Addr} {n c : Nat} {xs : List Int} (h : IntSl w (.slice A n c) xs) (m : Nat) (hm : m ≤ xs.length) : IntSl w (.slice A m c) (xs.take m) := by
  obtain ⟨A', c', e, h1, h2, h3, h4⟩ := h
  injection e with e1 e2 e3
  subst e1 e2 e3
  have hl : (xs.take m).length = m := by rw [List.length_take]; omega
  refine ⟨A, c, by rw [hl], by omega, h2, h3, fun h0 => ?_⟩
  obtain ⟨b, o, e, hlt, hc⟩ := h4 (by omega)
  refine ⟨b, o, e, hlt, fun j x hj => hc j x ?_⟩
  rw [List.getElem?_take] at hj
  split at hj
  · exact hj
  · cases hj
set_option maxHeartbeats 16000000 in
theorem row_FlowChecks (w : World) (N : Int) (L : Value) (l : List (Int × Int × Int)) (hL : PtSl w L l) (s t : Int) (Xv : Value) (xs : List Int) (hX : IntSl w Xv xs) (Sv : Value) (S : List Int) (hS : IntSl w Sv S) :
    Calls Try.prog 3 #[ntV N L, .int .i64 s, .int .i64 t, Xv, Sv] w fun e w' => e = .returned (.bool true) ∧ Below w.heap.size w w' := by
  obtain ⟨A, c, rfl, hc1, hc2⟩ := hL.shape
  obtain ⟨A2, c2, rfl, hd1, hd2⟩ := hX.shape
  obtain ⟨A3, c3, rfl, he1, he2⟩ := hS.shape
  unfold maxLen at hc2 hd2 he2
  obtain ⟨W, hW⟩ : ∃ W, W = w.alloc (.cells #[.int .i64 N, .slice A l.length c] 24) := ⟨_, rfl⟩
  have B0 : Below w.heap.size w W := by subst hW; exact (Below.refl _ _).alloc (Nat.le_refl _) _
  have hzw : W.heap.size = w.heap.size + 1 := by subst hW; simp
  have HB0 := Lib.hid B0
  have HX := Lib.hid (show W.heap[w.heap.size]? = some (.cells #[.int .i64 N, .slice A l.length c] 24 (0, 0)) by subst hW; exact heap_alloc_new _ _)
  have x0 : W.cell? ⟨w.heap.size, 0, none⟩ = some (.int .i64 N) := cell_of HX.out rfl
  have x1 : W.cell? ⟨w.heap.size, 1, none⟩ = some (.slice A l.length c) := cell_of HX.out rfl
  have HOWN := Lib.hid (c_own N (.slice A l.length c) l W (hL.on B0 (Nat.le_refl _)))
  obtain ⟨l2, hl2⟩ : ∃ l2, l2 = l.take 130 := ⟨_, rfl⟩
  rw [← hl2] at HOWN
  have HXS := Lib.hid (hX.on B0 (Nat.le_refl _))
  have HSS := Lib.hid (hS.on B0 (Nat.le_refl _))
  have hX0 := hX
  have hS0 := hS
  unfold ntV at HOWN ⊢
  clear B0 hL hX hS hl2
  rw [hW] at x0 x1
  go_enter Try.func3, Try.ntmps3
  go_wp2_with (fail)
  rw [← hW]
  clear hW x0 x1
  go_at_call 10
  refine HOWN.out.mono ?_
  rintro e w1 ⟨L2, rfl, hpt, hb⟩

  have h1X := (hb.block _ (by omega)).trans HX.out
  have x0 : w1.cell? ⟨w.heap.size, 0, none⟩ = some (.int .i64 N) := cell_of h1X rfl
  have x1 : w1.cell? ⟨w.heap.size, 1, none⟩ = some (.slice A l.length c) := cell_of h1X rfl
  have f0 : w1.frozen? ⟨w.heap.size, 0, none⟩ = false := by simp [World.frozen?, h1X]
  have f1 : w1.frozen? ⟨w.heap.size, 1, none⟩ = false := by simp [World.frozen?, h1X]
  obtain ⟨A4, c4, rfl, -, -⟩ := (hpt w1 (fun _ _ => rfl)).shape
  obtain ⟨V, hV⟩ : ∃ V, V = (w1.setCell ⟨w.heap.size, 0, none⟩ (.int .i64 N)).setCell ⟨w.heap.size, 1, none⟩ (.slice A4 l2.length c4) := ⟨_, rfl⟩
  have HLV := Lib.hid (show V.heap[w.heap.size]? = some (.cells #[.int .i64 N, .slice A4 l2.length c4] 24 (0, 0)) by rw [hV]; exact row_set3 (row_set3 h1X _) _)
  have HBV := Lib.hid (show Below w.heap.size w V by rw [hV]; exact ((below_join HB0.out hb HB0.out.size).setCell (by show w.heap.size ≤ w.heap.size; omega) _).setCell (by show w.heap.size ≤ w.heap.size; omega) _)
  have HPV := Lib.hid (hpt V (fun k hk => by rw [hV, Below.heap_setCell _ ⟨w.heap.size, 1, none⟩ _ k (by show k ≠ w.heap.size; omega), Below.heap_setCell _ ⟨w.heap.size, 0, none⟩ _ k (by show k ≠ w.heap.size; omega)]))
  have HXV := Lib.hid (hX0.on HBV.out (Nat.le_refl _))
  have HSV := Lib.hid (hS0.on HBV.out (Nat.le_refl _))
  clear HOWN hpt hb
  go_wp2_with (fail)
  rw [← hV]
  clear hV x0 x1 f0 f1 h1X
  obtain ⟨x0, x1⟩ : V.cell? ⟨w.heap.size, 0, none⟩ = some (.int .i64 N) ∧ V.cell? ⟨w.heap.size, 1, none⟩ = some (.slice A4 l2.length c4) := ⟨cell_of HLV.out rfl, cell_of HLV.out rfl⟩
  obtain ⟨m2, hm2⟩ : ∃ m, m = min xs.length 130 := ⟨_, rfl⟩
  obtain ⟨m3, hm3⟩ : ∃ m, m = min S.length 130 := ⟨_, rfl⟩
  have e2 : (if (130 : Int) < (xs.length : Int) then (130 : Int) else (xs.length : Int)) = (m2 : Int) := by rw [hm2]; split <;> omega
  have e3 : (if (130 : Int) < (S.length : Int) then (130 : Int) else (S.length : Int)) = (m3 : Int) := by rw [hm3]; split <;> omega
  have hb2 : (m2 : Int) ≤ (c2 : Int) := by omega
  have hb3 : (m3 : Int) ≤ (c3 : Int) := by omega
  have HX2 := Lib.hid (show IntSl V (.slice A2 m2 c2) (xs.take m2) from HXV.out.cut m2 (by omega))
  have HS2 := Lib.hid (show IntSl V (.slice A3 m3 c3) (S.take m3) from HSV.out.cut m3 (by omega))
  have hl2 : (xs.take m2).length = m2 := by rw [List.length_take]; omega
  have hl3 : (S.take m3).length = m3 := by rw [List.length_take]; omega
  have hm2' : m2 ≤ 130 := by omega
  have hm3' : m3 ≤ 130 := by omega
  obtain ⟨ys, hys⟩ : ∃ ys, ys = xs.take m2 := ⟨_, rfl⟩
  obtain ⟨zs, hzs⟩ : ∃ zs, zs = S.take m3 := ⟨_, rfl⟩
  rw [← hys] at HX2 hl2
  rw [← hzs] at HS2 hl3
  clear hm2 hm3 hys hzs
  go_quiet (fail)
  obtain ⟨V0, hV0⟩ : ∃ X, X = V.drewN nq := ⟨_, rfl⟩
  rw [← hV0]
  have HBV0 := Lib.hid (show Below w.heap.size w V0 by rw [hV0]; exact below_drewN HBV.out)
  have HL0 := Lib.hid (show V0.heap[w.heap.size]? = some (.cells #[.int .i64 N, .slice A4 l2.length c4] 24 (0, 0)) by rw [hV0]; exact HLV.out)
  have HP0 := Lib.hid (show PtSl V0 (.slice A4 l2.length c4) l2 by rw [hV0]; exact HPV.out)
  have HX0 := Lib.hid (show IntSl V0 (.slice A2 m2 c2) ys by rw [hV0]; exact HX2.out)
  have HS0 := Lib.hid (show IntSl V0 (.slice A3 m3 c3) zs by rw [hV0]; exact HS2.out)
  have hz0 := at_lt HL0.out
  clear hV0 e2 e3 hb2 hb3 x0 x1
  have HXF := Lib.hid (fun (X : World) (hX : Below V0.heap.size V0 X) => (⟨⟨cell_of ((hX.block _ hz0).trans HL0.out) rfl, cell_of ((hX.block _ hz0).trans HL0.out) rfl⟩, HP0.out.on hX (Nat.le_refl _), HX0.out.on hX (Nat.le_refl _), HS0.out.on hX (Nat.le_refl _)⟩ : (X.cell? ⟨w.heap.size, 0, none⟩ = some (.int .i64 N) ∧ X.cell? ⟨w.heap.size, 1, none⟩ = some (.slice A4 l2.length c4)) ∧ PtSl X (.slice A4 l2.length c4) l2 ∧ IntSl X (.slice A2 m2 c2) ys ∧ IntSl X (.slice A3 m3 c3) zs))
  obtain ⟨⟨y1, r1⟩, hq1⟩ : ∃ q, chkV N l2 s t ys = q := ⟨_, rfl⟩
  obtain ⟨⟨y2, r2⟩, hq2⟩ : ∃ q, acrV N l2 zs = q := ⟨_, rfl⟩
  obtain ⟨r3, hq3⟩ : ∃ q, ntOk N l2 = q := ⟨_, rfl⟩
  have HK1 := Lib.hid (fun (u : Value) (X : World) (hX : PtSl X (.slice A4 l2.length c4) l2) (hU : IntSl X u ys) => c_Check N (.slice A4 l2.length c4) u l2 s t ys X hX hU y1 r1 hq1)
  have HK2 := Lib.hid (fun (u : Value) (X : World) (hX : PtSl X (.slice A4 l2.length c4) l2) (hU : IntSl X u ys) => d_Check N (.slice A4 l2.length c4) u l2 s t ys X hX hU y1 r1 hq1)
  have HA1 := Lib.hid (fun (u : Value) (X : World) (hX : PtSl X (.slice A4 l2.length c4) l2) (hU : IntSl X u zs) => c_Across N (.slice A4 l2.length c4) u l2 zs X hX hU y2 r2 hq2)
  have HA2 := Lib.hid (fun (u : Value) (X : World) (hX : PtSl X (.slice A4 l2.length c4) l2) (hU : IntSl X u zs) => d_Across N (.slice A4 l2.length c4) u l2 zs X hX hU y2 r2 hq2)
  have HV1 := Lib.hid (fun (X : World) (hX : Below V0.heap.size V0 X) => c_Valid N (.slice A4 l2.length c4) l2 X (HXF.out X hX).2.1 r3 hq3)
  have HV2 := Lib.hid (fun (X : World) (hX : Below V0.heap.size V0 X) => d_Valid N (.slice A4 l2.length c4) l2 X (HXF.out X hX).2.1 r3 hq3)
  have HC1 := Lib.hid (fun (X : World) (hX : Below V0.heap.size V0 X) => c_Clone ys (by omega) (.slice A2 m2 c2) X (HXF.out X hX).2.2.1)
  have HC2 := Lib.hid (fun (X : World) (hX : Below V0.heap.size V0 X) => c_Clone zs (by omega) (.slice A3 m3 c3) X (HXF.out X hX).2.2.2)
  have HWK := Lib.hid (fun (X : World) => c_works X)
  have hrr : (r3 == r3) = true := by simp
  unfold ntV at HK1 HK2 HA1 HA2 HV1 HV2
  clear hq1 hq2 hq3
  go_wp2_with (fail)
  go_region_held3 (fun X => X.cell? ⟨w.heap.size, 0, none⟩ = some (.int .i64 N) ∧ X.cell? ⟨w.heap.size, 1, none⟩ = some (.slice A4 l2.length c4))
    (first | exact (HXF.out v2 HBv2.out).1 | exact (HXF.out v1 HBv1.out).1 | exact (HXF.out V0 (Below.refl _ _)).1)
    (first
      | (go_at_call 12; (with_reducible refine (HC1.out V0.drew (Below.refl _ _).drew).mono ?_); rintro e v1 ⟨u1, rfl, hown1, bb0⟩; have HBv1 := Lib.hid (below_join (Below.refl V0.heap.size V0).drew bb0 (Nat.le_refl _)); have HU1 := Lib.hid (own_intSl hown1); clear bb0 hown1)
      | (go_at_call 11; (with_reducible refine (HK1.out _ v1 (HXF.out v1 HBv1.out).2.1 HU1.out).mono ?_); rintro e v2 ⟨rfl, bb0⟩; have HBv2 := Lib.hid (below_join HBv1.out bb0 HBv1.out.size); clear bb0)
      | fail)
  obtain ⟨⟨x0, x1⟩, p0, i0, -⟩ := HXF.out v2 HBv2.out
  go_wp2_with (fail)
  clear x0 x1
  go_at_call 13
  refine (HK2.out _ v2 p0 i0).mono ?_
  rintro e v3 ⟨rfl, bb0⟩
  have HBv3 := Lib.hid (below_join HBv2.out bb0 HBv2.out.size)
  clear bb0 p0 i0
  go_wp2_with (fail)
  go_region_held3 (fun X => X.cell? ⟨w.heap.size, 0, none⟩ = some (.int .i64 N) ∧ X.cell? ⟨w.heap.size, 1, none⟩ = some (.slice A4 l2.length c4))
    (first | exact (HXF.out v5 HBv5.out).1 | exact (HXF.out v4 HBv4.out).1 | exact (HXF.out v3 HBv3.out).1)
    (first
      | (go_at_call 12; (with_reducible refine (HC2.out v3.drew HBv3.out.drew).mono ?_); rintro e v4 ⟨u4, rfl, hown4, bb0⟩; have HBv4 := Lib.hid (below_join HBv3.out.drew bb0 HBv3.out.size); have HU4 := Lib.hid (own_intSl hown4); clear bb0 hown4)
      | (go_at_call 14; (with_reducible refine (HA1.out _ v4 (HXF.out v4 HBv4.out).2.1 HU4.out).mono ?_); rintro e v5 ⟨rfl, bb0⟩; have HBv5 := Lib.hid (below_join HBv4.out bb0 HBv4.out.size); clear bb0)
      | fail)
  obtain ⟨⟨x0, x1⟩, p0, -, i0⟩ := HXF.out v5 HBv5.out
  go_wp2_with (fail)
  clear x0 x1
  go_at_call 15
  refine (HA2.out _ v5 p0 i0).mono ?_
  rintro e v6 ⟨rfl, bb0⟩
  have HBv6 := Lib.hid (below_join HBv5.out bb0 HBv5.out.size)
  clear bb0 p0 i0
  go_wp2_with (fail)
  go_region_held3 (fun X => X.cell? ⟨w.heap.size, 0, none⟩ = some (.int .i64 N) ∧ X.cell? ⟨w.heap.size, 1, none⟩ = some (.slice A4 l2.length c4))
    (first | exact (HXF.out v9 HBv9.out).1 | exact (HXF.out v8 HBv8.out).1 | exact (HXF.out v7 HBv7.out).1 | exact (HXF.out v6 HBv6.out).1)
    (first
      | (go_at_call 16; (with_reducible refine (HV1.out v6.drew HBv6.out.drew).mono ?_); rintro e v7 ⟨rfl, bb0⟩; have HBv7 := Lib.hid (below_join HBv6.out.drew bb0 HBv6.out.size); clear bb0)
      | (go_at_call 17; (with_reducible refine (HV2.out v7 HBv7.out).mono ?_); rintro e v8 ⟨rfl, bb0⟩; have HBv8 := Lib.hid (below_join HBv7.out bb0 HBv7.out.size); clear bb0)
      | (go_at_call 18; (with_reducible refine (HWK.out v8).mono ?_); rintro e v9 ⟨rfl, bb0⟩; have HBv9 := Lib.hid (below_join HBv8.out bb0 HBv8.out.size); clear bb0)
      | fail)
  have HEND := Lib.hid (below_join HBV0.out HBv9.out HBV0.out.size)
  go_wp2_with (fail)
  go_ret
  exact ⟨rfl, HEND.out⟩
end Go.Proofs.Ythebdlmjopjdgaa
