/-
  DERIVED. Simplest of an interval that is not below 0.
-/
import Derived.Test.YtfdkdloldjfnjaaGreatDoorTO
set_option linter.unusedVariables false
set_option linter.unusedSimpArgs false
namespace Go.Proofs.YtfdkdloldjfnjaaGreatDoor
open Go.RowKit Go.Shelf
attribute [local go_sem] Oper.semAt_some
set_option maxRecDepth 100000

set_option maxHeartbeats 2000000 in
theorem c_SimplestP (m1 n1 m2 n2 : Nat) (k1 : (nat m1).length ≤ 32) (k2 : (nat n1).length ≤ 32) (k3 : (nat m2).length ≤ 32) (k4 : (nat n2).length ≤ 32) (p1 : 0 < n1) (p2 : 0 < n2) (x y : Value) (w : World) (ht : Tz w) (hx : Fr w x false m1 n1) (hy : Fr w y false m2 n2)
    (hv1 : validB false (nat m1) (nat n1) = true) (hv2 : validB false (nat m2) (nat n2) = true) (hle : m1 * n2 ≤ m2 * n1) (ho : ¬ (0 : Int) < ordP (sumP false m1 n1 (negP false true m2) m2 n2)) :
    Calls Tryz.prog 38 #[x, y] w (ResPost (some (false, (ev (partsF (n1 + n2) m1 n1 m2 n2)).1, (ev (partsF (n1 + n2) m1 n1 m2 n2)).2)) 0 w) := by
  have hx0 := hx.to0 (by omega) (by omega)
  have hy0 := hy.to0 (by omega) (by omega)
  have HV1 := Lib.hid (fun (X : World) (hX : Below w.heap.size w X) => c_ValidF (hx0.on hX) true hv1 (ht.heap (hX.block _ ht.lt)))
  have HV2 := Lib.hid (fun (X : World) (hX : Below w.heap.size w X) => c_ValidF (hy0.on hX) true hv2 (ht.heap (hX.block _ ht.lt)))
  have HO := Lib.hid (fun (X : World) (hX : Below w.heap.size w X) => c_order false false m1 m2 n1 n2 (by omega) (by omega) (by omega) (by omega) x y X (hx.on hX) (hy.on hX))
  obtain ⟨v1, v2, rfl, h1, h2⟩ := hx
  obtain ⟨u1, u2, rfl, g1, g2⟩ := hy
  obtain ⟨A1, c1, rfl⟩ := h1.shape
  obtain ⟨A2, c2, rfl⟩ := h2.shape
  obtain ⟨A3, c3, rfl⟩ := g1.shape
  obtain ⟨A4, c4, rfl⟩ := g2.shape
  have H1 := Lib.hid h1
  have H2 := Lib.hid h2
  have G1 := Lib.hid g1
  have G2 := Lib.hid g2
  have HLE := Lib.hid hle
  have HOO := Lib.hid ho
  obtain ⟨W, hW⟩ : ∃ W, W = ((w.alloc (.cells #[.bool false, .slice A1 (nat m1).length c1, .slice A2 (nat n1).length c2] 25)).alloc (.cells #[.bool false, .slice A3 (nat m2).length c3, .slice A4 (nat n2).length c4] 25)).alloc (.cells #[.bool false, .slice none 0 0, .slice none 0 0] 25) := ⟨_, rfl⟩
  have S0 : Six w.heap.size false (.slice A1 (nat m1).length c1) (.slice A2 (nat n1).length c2) false (.slice A3 (nat m2).length c3) (.slice A4 (nat n2).length c4) W := by subst hW; exact six_new w _ _ _ _ _ _ _
  have R0 : ResZ (w.heap.size + 2) W := by subst hW; exact resz_new w _ _
  have B0 : Below w.heap.size w W := by subst hW; exact (((Below.refl _ _).alloc (Nat.le_refl _) _).alloc (by simp) _).alloc (by simp; omega) _
  have hz : w.heap.size + 2 < W.heap.size := by subst hW; simp
  have HS0 := Lib.hid S0
  have HR0 := Lib.hid R0
  have HB0 := Lib.hid B0
  clear S0 R0 B0 h1 h2 g1 g2 hle ho hx0 hy0 hv1 hv2 ht
  refine (callsIn_wide (n := 8)).1 ?_
  refine callsIn_of_wp_marks Tryz.func38 rfl trivial ?_ rfl
  simp only [Tryz.ntmps38, List.size_toArray, List.length_cons, List.length_nil, Nat.reduceAdd, Nat.reduceSub, Array.replicate_succ, Array.replicate_zero, List.push_toArray, List.append_toArray, List.nil_append, List.cons_append]
  rw [wpIn_wide]
  go_wp2_with (fail)
  rw [← hW]
  clear hW
  refine (HV1.out _ HB0.out).mono ?_
  rintro e w1 ⟨rfl, hb1⟩
  have hz1 := hb1.size
  have HR1 := Lib.hid (HR0.out.on hb1 hz)
  have HS1 := Lib.hid (HS0.out.on hb1 hz)
  have HB1 := Lib.hid (below_join HB0.out hb1 HB0.out.size)
  obtain ⟨x0, x1, x2, y0, y1, y2⟩ := HS1.out
  clear hb1
  go_wp2_with (fail)
  refine (HV2.out _ HB1.out).mono ?_
  rintro e w2 ⟨rfl, hb2⟩
  have hz2 := hb2.size
  have HR2 := Lib.hid (HR1.out.on hb2 (by omega))
  have HS2 := Lib.hid (HS1.out.on hb2 (by omega))
  have HB2 := Lib.hid (below_join HB1.out hb2 HB1.out.size)
  clear x0 x1 x2 y0 y1 y2 hb2
  obtain ⟨x0, x1, x2, y0, y1, y2⟩ := HS2.out
  go_wp2_with (fail)
  refine (HO.out _ HB2.out).mono ?_
  rintro e w3 ⟨rfl, hb3⟩
  have hz3 := hb3.size
  have HR3 := Lib.hid (HR2.out.on hb3 (by omega))
  have HS3 := Lib.hid (HS2.out.on hb3 (by omega))
  have HB3 := Lib.hid (below_join HB2.out hb3 HB2.out.size)
  have hord := HOO.out
  generalize ordP (sumP false m1 n1 (negP false true m2) m2 n2) = od at hord
  clear x0 x1 x2 y0 y1 y2 hb3
  obtain ⟨x0, x1, x2, y0, y1, y2⟩ := HS3.out
  go_wp2_with (fail)
  refine (c_negation false _).mono ?_
  rintro e w4 ⟨rfl, hw4⟩
  have hb4 : Below w3.heap.size w3 w4 := by subst hw4; exact (Below.refl _ _).alloc (Nat.le_refl _) _
  have HN4 := Lib.hid (show w4.heap[w3.heap.size]? = some (.cells #[.bool false] 4 (0, 0)) by subst hw4; exact row_new4 _ _ _ rfl)
  have hz4 : w3.heap.size < w4.heap.size := by subst hw4; simp
  have HR4 := Lib.hid (HR3.out.on hb4 (by omega))
  have HS4 := Lib.hid (HS3.out.on hb4 (by omega))
  have HB4 := Lib.hid (below_join HB3.out hb4 HB3.out.size)
  clear x0 x1 x2 y0 y1 y2 hb4 hw4
  obtain ⟨x0, x1, x2, y0, y1, y2⟩ := HS4.out
  go_wp2_with (fail)
  refine (c_ends _).mono ?_
  rintro e w5 ⟨xb, xl, rfl, hxb, hxl, hb5⟩
  have hz5 := hb5.size
  have HN5 := Lib.hid ((hb5.block _ hz4).trans HN4.out)
  have HR5 := Lib.hid (HR4.out.on hb5 (by omega))
  have HS5 := Lib.hid (HS4.out.on hb5 (by omega))
  have HB5 := Lib.hid (below_join HB4.out hb5 HB4.out.size)
  obtain ⟨e1, e2, rfl, he1, he2⟩ := hxb
  obtain ⟨e3, e4, rfl, he3, he4⟩ := hxl
  obtain ⟨B1, d1, rfl⟩ := he1.shape
  obtain ⟨B2, d2, rfl⟩ := he2.shape
  obtain ⟨B3, d3, rfl⟩ := he3.shape
  obtain ⟨B4, d4, rfl⟩ := he4.shape
  have HE1 := Lib.hid he1
  have HE2 := Lib.hid he2
  have HE3 := Lib.hid he3
  have HE4 := Lib.hid he4
  clear x0 x1 x2 y0 y1 y2 hb5 he1 he2 he3 he4
  obtain ⟨W6, hW6⟩ : ∃ W6, W6 = (w5.alloc (.cells #[.bool false, .slice B1 (nat 0).length d1, .slice B2 (nat 1).length d2] 25)).alloc (.cells #[.bool false, .slice B3 (nat 1).length d3, .slice B4 (nat 0).length d4] 25) := ⟨_, rfl⟩
  have hb6 : Below w5.heap.size w5 ((w5.alloc (.cells #[.bool false, .slice B1 (nat 0).length d1, .slice B2 (nat 1).length d2] 25)).alloc (.cells #[.bool false, .slice B3 (nat 1).length d3, .slice B4 (nat 0).length d4] 25)) := below_two _ _ _
  have hz6 : w5.heap.size + 2 ≤ W6.heap.size := by subst hW6; simp
  obtain ⟨x0, x1, x2, y0, y1, y2⟩ := HS5.out.on hb6 (by omega)
  have HB7 := Lib.hid (show Rt W6 w5.heap.size false _ _ by subst hW6; exact two_new _ _ _ _ _)
  have HB8 := Lib.hid (show Rt W6 (w5.heap.size + 1) false _ _ by subst hW6; exact rt_new _ _ _ _ _ (by simp))
  rw [← hW6] at hb6
  have HN6 := Lib.hid ((hb6.block _ (by omega)).trans HN5.out)
  have HR6 := Lib.hid (HR5.out.on hb6 (by omega))
  have HB6 := Lib.hid (below_join HB5.out hb6 HB5.out.size)
  have HBB6 := Lib.hid hb6
  clear hb6
  go_wp2_with (fail)
  rw [← hW6]
  clear hW6 x0 x1 x2 y0 y1 y2
  refine (c_parts false false _ _ _ _ _).mono ?_
  rintro e w7 ⟨rfl, hw7⟩
  go_wp2_with (fail)
  have hbw : Below W6.heap.size W6 w7 := by subst hw7; exact below_two _ _ _
  have HBL := Lib.hid (show Rt w7 W6.heap.size false _ _ by subst hw7; exact two_new _ _ _ _ _)
  have HBH := Lib.hid (show Rt w7 (W6.heap.size + 1) false _ _ by subst hw7; exact rt_new _ _ _ _ _ (by simp))
  have hz7 : W6.heap.size + 2 ≤ w7.heap.size := by subst hw7; simp
  have HBW := Lib.hid hbw
  have HB77 := Lib.hid (HB7.out.on hbw (by omega))
  have HB87 := Lib.hid (HB8.out.on hbw (by omega))
  have HN7 := Lib.hid ((hbw.block _ (by omega)).trans HN6.out)
  have HR7 := Lib.hid (HR6.out.on hbw (by omega))
  have HB7w := Lib.hid (below_join HB6.out hbw HB6.out.size)
  try rw [← hw7]
  clear hw7 hbw
  refine (wpIn_wide (n := 8)).1 ?_
  refine wpIn_over (F := Fence.wide) (n := 8) rfl (by omega) (gf := 113) (lb := #[.pointer (some ⟨W6.heap.size, 0, none⟩), .pointer (some ⟨W6.heap.size + 1, 0, none⟩)]) rfl trivial (enters_of Tryz.func113 (by kernel_rfl) rfl)
    (E := OwnStep W6.heap.size (W6.heap.size + 1)) (Kp := KpB w5.heap.size (w5.heap.size + 1)) (ok := fun v t X => Limbs w5.heap.size (w5.heap.size + 1) X v t) (ts := partsF (n1 + n2) m1 n1 m2 n2) (w0 := w7) ?seq (Below.refl _ _) rfl
    (fun X Y k o hE hk ho => hE.same k o hk (.inl ho)) KpB.trans KpB.put (fun v t W l o o' h hl ho => Limbs.put h l o o' hl ho)
    (fun pre X => Pair w5.heap.size (w5.heap.size + 1) W6.heap.size (W6.heap.size + 1) (foldT pre) X ∧ Other w (w.heap.size + 2) w3.heap.size false X ∧ w7.heap.size ≤ X.heap.size) (fun _ _ _ => False)
    (fun pre X Y h hE => ⟨h.1.own hE (by omega) (by omega) (by omega) (by omega), h.2.1.own hE (by omega) (by omega) (by omega) (by omega) (by omega) (by omega), Nat.le_trans h.2.2 hE.size⟩)
    (fun pre X l o o' h hl hx ho => ⟨h.1.put hx ho, h.2.1.put hx ho (by omega), by rw [World.putObj_size]; exact h.2.2⟩) (fun _ _ _ _ _ _ h => h.elim)
    (fun X o h => ⟨h.1.below ((Below.refl X.heap.size X).alloc (Nat.le_refl _) o) (Nat.le_refl _), h.2.1.below ((Below.refl X.heap.size X).alloc (Nat.le_refl _) o) (Nat.le_refl _), Nat.le_trans h.2.2 ((Below.refl X.heap.size X).alloc (Nat.le_refl _) o).size⟩) ?init ?round ?done (fun _ _ _ _ _ _ h => h.elim)
  case seq =>
    intro l J Jx W hB hJ hY hj
    have up : ∀ {v : Value} {t : Nat}, NatSl w (fun i => i < w.heap.size) v (nat t) → Limbs w5.heap.size (w5.heap.size + 1) W v t := fun h => NatSl.below h (below_join HB7w.out hB HB7w.out.size) (fun i hi => ⟨hi, by have := hB.size; omega, by omega, by omega⟩)
    exact c_parts1 7 (by omega) l W6.heap.size (W6.heap.size + 1) w5.heap.size (w5.heap.size + 1) (by omega) (by omega) (by omega) (by omega) (by omega) (n1 + n2) m1 n1 m2 n2 false false _ _ _ _ 32 (by omega) J Jx W (by have := hB.size; omega) (by have := hB.size; omega)
      (HBL.out.on hB (by omega)) (HBH.out.on hB (by omega)) (up H1.out) (up H2.out) (up G1.out) (up G2.out) p1 p2 (Nat.le_refl _) HLE.out k1 k2 k3 k4 hJ hY hj
  case init =>
    have hbb := below_join HBB6.out HBW.out HBB6.out.size
    have up : ∀ {v : Value} {t : Nat}, NatSl w5 (fun i => i < w5.heap.size) v (nat t) → Limbs W6.heap.size (W6.heap.size + 1) w7 v t := fun h => NatSl.below h hbb (fun i hi => ⟨hi, by omega, by omega, by omega⟩)
    exact ⟨⟨_, _, _, _, HB77.out, HB87.out, up HE1.out, up HE2.out, up HE3.out, up HE4.out⟩, ⟨HR7.out, HN7.out, HB7w.out⟩, Nat.le_refl _⟩
  case round =>
    intro l pre v t W K hpre hK
    gi_wp2
    rintro X hl ⟨⟨x1, x2, y1, y2, r1, r2, l1, l2, l3, l4⟩, hoth, hsx⟩ hv
    obtain ⟨bp0, bq0, bp1, bq1, bt⟩ := bounds p1 p2 HLE.out k1 k2 hpre
    obtain ⟨D1, i1, rfl⟩ := l1.shape
    obtain ⟨D2, i2, rfl⟩ := l2.shape
    obtain ⟨D3, i3, rfl⟩ := l3.shape
    obtain ⟨D4, i4, rfl⟩ := l4.shape
    obtain ⟨D5, i5, rfl⟩ := hv.shape
    have HCF := Lib.hid (fun (Y : World) (hY : Below X.heap.size X Y) => c_further false false (foldT pre).p0 (foldT pre).q0 (foldT pre).p1 (foldT pre).q1 t (by omega) (by omega) (by omega) (by omega) (by omega) _ _ _ Y
      (Fr.on ⟨_, _, rfl, l1.any, l2.any⟩ hY) (Fr.on ⟨_, _, rfl, l3.any, l4.any⟩ hY) (NatSl.below hv.any hY (fun i hi => ⟨hi, Nat.lt_of_lt_of_le hi hY.size⟩)))
    have HRA := Lib.hid r1
    have HRB := Lib.hid r2
    have HL3 := Lib.hid l3
    have HL4 := Lib.hid l4
    have HOT := Lib.hid hoth
    have HB0X := Lib.hid (Below.refl X.heap.size X)
    obtain ⟨c10, c11, c12⟩ := r1.cells
    obtain ⟨c20, c21, c22⟩ := r2.cells
    have hfm : Tryz.prog.follows Departure.mixedOrders = true := by kernel_rfl
    have HPRE := Lib.hid hpre
    clear r1 r2 l1 l2 l3 l4 hoth hv hpre bp0 bq0 bp1 bq1 bt
    gi_wp2_with (fail)
    gi_region_with_o (refine ⟨trivial, ?_⟩; gi_at_call 83; refine (CallsIn.inRound l (calls_wide (HCF.out _ HB0X.out.drew))).mono ?_; rintro e wa ⟨q1, q2, rfl, gq1, gq2, hba0⟩; obtain ⟨D6, i6, rfl⟩ := gq1.shape; obtain ⟨D7, i7, rfl⟩ := gq2.shape; have hba := Below.undrew hba0; have HBA := Lib.hid hba; have HQ1 := Lib.hid (show Fs X.heap.size wa _ _ from gq1); have HQ2 := Lib.hid (show Fs X.heap.size wa _ _ from gq2); obtain ⟨k10, k11, k12⟩ := (HRA.out.on hba HRA.out.lt).cells; obtain ⟨k20, k21, k22⟩ := (HRB.out.on hba HRB.out.lt).cells; obtain ⟨f10, f11, f12⟩ := (HRA.out.on hba HRA.out.lt).frozen; obtain ⟨f20, f21, f22⟩ := (HRB.out.on hba HRB.out.lt).frozen; clear gq1 gq2 hba0 hba)
    all_goals gi_wp2
    all_goals (
      have rA := HRA.out.on HBA.out HRA.out.lt
      have rB := HRB.out.on HBA.out HRB.out.lt
      have rB' : ∀ x y z : Value, Rt (((wa.setCell ⟨w5.heap.size, 0, none⟩ x).setCell ⟨w5.heap.size, 1, none⟩ y).setCell ⟨w5.heap.size, 2, none⟩ z) (w5.heap.size + 1) false _ _ := fun x y z => row_keep3 rB (by omega) x y z
      have n3 := HL3.out.below HBA.out (Nat.le_refl _)
      have n4 := HL4.out.below HBA.out (Nat.le_refl _)
      have n1 : Limbs W6.heap.size (W6.heap.size + 1) wa _ _ := Limbs.fs HQ1.out (by omega) (by omega)
      have n2 : Limbs W6.heap.size (W6.heap.size + 1) wa _ _ := Limbs.fs HQ2.out (by omega) (by omega)
      refine ⟨(keeps_below HBA.out (Nat.le_refl _)).trans ((keeps_store wa _ _ _).trans (keeps_store _ _ _ _)), (KpB.of_below HBA.out (Nat.le_refl _)).trans ((kp_store wa (.inl rfl) _ _ _).trans (kp_store _ (.inr rfl) _ _ _)), ?_, ((HOT.out.below HBA.out (Nat.le_refl _)).store (by omega) (by omega) (by omega) _ _ _).store (by omega) (by omega) (by omega) _ _ _, ?_⟩
      · rw [foldT_snoc]
        exact ⟨_, _, _, _, row_keep3 (row_store3 rA _ _ _) (by omega) _ _ _, row_store3 (rB' _ _ _) _ _ _, (n3.store rA _ _ _).store (rB' _ _ _) _ _ _, (n4.store rA _ _ _).store (rB' _ _ _) _ _ _, (n1.store rA _ _ _).store (rB' _ _ _) _ _ _, (n2.store rA _ _ _).store (rB' _ _ _) _ _ _⟩
      · rw [size_store3, size_store3]
        exact Nat.le_trans hsx HBA.out.size)
  case done =>
    rintro D X hD ⟨⟨x1, x2, y1, y2, r1, r2, l1, l2, l3, l4⟩, ⟨hres, hneg, hbx⟩, hsx⟩ hdef
    obtain ⟨D3, i3, rfl⟩ := l3.shape
    obtain ⟨D4, i4, rfl⟩ := l4.shape
    have HDEF := Lib.hid hdef
    have HRES := Lib.hid hres
    have HBX := Lib.hid hbx
    have hDx : D < X.heap.size := (Array.getElem?_eq_some_iff.1 hdef).1
    have hc : X.cell? ⟨w3.heap.size, 0, none⟩ = some (.bool false) := by simp [World.cell?, hneg]
    rw [foldT_all.1] at l3
    rw [foldT_all.2] at l4
    have HL3 := Lib.hid l3
    have HL4 := Lib.hid l4
    obtain ⟨c20, c21, c22⟩ := r2.cells
    rw [foldT_all.1] at c21
    rw [foldT_all.2] at c22
    clear hdef hres hneg hbx r1 r2 l1 l2 l3 l4
    generalize (ev (partsF (n1 + n2) m1 n1 m2 n2)).1 = pp at *
    generalize (ev (partsF (n1 + n2) m1 n1 m2 n2)).2 = qq at *
    go_wp2_with (fail)
    refine (c_negation1 false false pp qq _ w3.heap.size X ⟨_, _, rfl, HL3.out.any, HL4.out.any⟩ hc (by omega)).mono ?_
    rw [show negP false false pp = false by simp [negP]]
    rintro e w9 ⟨r, rfl, ⟨q1, q2, rfl, g1, g2⟩, hb9⟩
    obtain ⟨D5, i5, rfl⟩ := g1.shape
    obtain ⟨D6, i6, rfl⟩ := g2.shape
    have hr9 := HRES.out.on hb9 (Array.getElem?_eq_some_iff.1 HRES.out).1
    obtain ⟨e0, e1, e2⟩ := three_cells hr9
    obtain ⟨f0, f1, f2⟩ := three_frozen hr9
    have HR9 := Lib.hid hr9
    have HG1 := Lib.hid g1
    have HG2 := Lib.hid g2
    have HBD := Lib.hid (below_join HBX.out hb9 HBX.out.size)
    have HD9 := Lib.hid ((hb9.block _ hDx).trans HDEF.out)
    have hz9 := hb9.size
    clear hr9 g1 g2 hb9 c20 c21 c22 hc
    go_wp2_with (fail)
    have hK := row_keep3 HD9.out (show D ≠ w.heap.size + 1 + 1 by omega) (.bool false) (.slice D5 (nat pp).length i5) (.slice D6 (nat qq).length i6)
    have hrow := row_store3 HR9.out (.bool false) (.slice D5 (nat pp).length i5) (.slice D6 (nat qq).length i6)
    have hfin := put_other (o' := .deferred none) hrow (show w.heap.size + 1 + 1 ≠ D by omega)
    obtain ⟨m0, m1', m2'⟩ := three_cells hfin
    refine ⟨by simp, .inl ⟨_, _, rfl, run_takeDeferred hK, ?_⟩⟩
    refine ⟨.tuple #[.agg #[.bool false, .slice D5 (nat pp).length i5, .slice D6 (nat qq).length i6], .int .i64 0], by simp [results, Tryz.results38, go_sem, m0, m1', m2'], ?_⟩
    refine ⟨_, _, rfl, below_put (below_store3 HBD.out (by omega) _ _ _) (by omega), fun h => absurd h (by simp), fun s' n' d' h => ?_⟩
    injection h with h
    injection h with h1 h
    injection h with h2 h3
    subst h1 h2 h3
    exact ⟨⟨_, _, rfl, natSl_put (natSl_storeZ HG1.out HR9.out _ _ _) hK rfl, natSl_put (natSl_storeZ HG2.out HR9.out _ _ _) hK rfl⟩, rfl⟩
end Go.Proofs.YtfdkdloldjfnjaaGreatDoor
