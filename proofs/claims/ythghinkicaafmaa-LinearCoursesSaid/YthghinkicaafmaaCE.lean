/-
  DERIVED. The law LinearCourses. (Written by gen/genCE.py.)
-/
import Derived.Test.YthghinkicaafmaaBX
import Derived.Test.YthghinkicaafmaaCB
import Derived.Test.YthghinkicaafmaaCA
import Derived.Deep.RegionHeld3
import Derived.Deep.Cut
namespace Go.Proofs.Ythghinkicaafmaa
open Go.RowKit
set_option maxRecDepth 100000

/-- Arguments in their box. -/
def ArB (X : World) (b : Nat) (C : Int) (P : Value) (s : Int) (I : Value) (n t l : Int) : Prop := X.heap[b]? = some (.cells #[.int .i64 C, P, .int .i64 s, I, .int .i64 n, .int .i64 t, .int .i64 l] 27 (0, 0))
theorem ArB.on {X Y : World} {B b : Nat} {C s n t l : Int} {P I : Value} (k : ArB X b C P s I n t l) (hb : Below B X Y) (hB : b < B) : ArB Y b C P s I n t l := (hb.block _ hB).trans k
theorem ArB.cells {X : World} {b : Nat} {C s n t l : Int} {P I : Value} (k : ArB X b C P s I n t l) : X.cell? ⟨b, 0, none⟩ = some (.int .i64 C) ∧ X.cell? ⟨b, 1, none⟩ = some P ∧ X.cell? ⟨b, 2, none⟩ = some (.int .i64 s) ∧ X.cell? ⟨b, 3, none⟩ = some I ∧ X.cell? ⟨b, 4, none⟩ = some (.int .i64 n) ∧ X.cell? ⟨b, 5, none⟩ = some (.int .i64 t) ∧ X.cell? ⟨b, 6, none⟩ = some (.int .i64 l) := args_cells k
set_option maxHeartbeats 16000000 in
theorem row_LinearCourses (w : World) (C s n t l : Int) (P I : Value) (ps0 : List (Int × Int × Int)) (ins0 : List (List Int)) (hP : PtSl w P ps0) (hPn : ∀ m c, P = .slice none m c → c = 0) (hI : LiSl w I ins0) :
    Calls Try.prog 3 #[argsV C P s I n t l] w fun e w' => e = .returned (.bool true) ∧ Below w.heap.size w w' := by
  obtain ⟨ps, hps⟩ : ∃ x, x = ps0.take 18 := ⟨_, rfl⟩
  obtain ⟨ins, hins⟩ : ∃ x, x = cutI ins0 := ⟨_, rfl⟩
  obtain ⟨n2, hn2⟩ : ∃ x, x = cutN n := ⟨_, rfl⟩
  have hO1 := fun (X : World) (hX : Below w.heap.size w X) => c_own C s n t l P I ps0 ins0 X (hP.on hX (Nat.le_refl _)) hPn (hI.on hX (Nat.le_refl _))
  have hO2 := fun (X : World) (P' I' : Value) (hP' : PtSl X P' ps) (hPn' : ∀ m c, P' = .slice none m c → c = 0) (hI' : LiSl X I' ins) => c_own C s n2 t l P' I' ps ins X hP' hPn' hI'
  rw [show ps.take 18 = ps by rw [hps, List.take_take, Nat.min_self], show cutI ins = ins by rw [hins, cutI_cut], show cutN n2 = n2 by rw [hn2, cutN_cut]] at hO2
  rw [← hps, ← hins, ← hn2] at hO1
  have HO1 := Lib.hid hO1
  have HO2 := Lib.hid hO2
  obtain ⟨r1, hr1⟩ : ∃ r, fltL C ps 0 ins t = r := ⟨_, rfl⟩
  obtain ⟨y1, hy1⟩ : ∃ y, y = if r1 = 0 then arr ps ins t else 0 := ⟨_, rfl⟩
  obtain ⟨r2, hr2⟩ : ∃ r, fltL C ps s ins n2 = r := ⟨_, rfl⟩
  obtain ⟨cs, hcs⟩ : ∃ y, y = if r2 = 0 then crsP C ps s ins n2 else [] := ⟨_, rfl⟩
  obtain ⟨⟨k1, k2⟩, hk⟩ : ∃ y, y = if r2 = 0 then pkP C ps s ins n2 else (0, 0) := ⟨_, rfl⟩
  obtain ⟨r5, hr5⟩ : ∃ r, lnOk C ps = r := ⟨_, rfl⟩
  have H1 := Lib.hid (fun (X : World) (u v : Value) (hu : PtSl X u ps) (hv : LiSl X v ins) => c_Arrives C ps ins t u v X hu hv y1 r1 hr1 hy1)
  have H2 := Lib.hid (fun (X : World) (u v : Value) (hu : PtSl X u ps) (hv : LiSl X v ins) => d_Arrives C ps ins t u v X hu hv y1 r1 hr1 hy1)
  have H3 := Lib.hid (fun (X : World) (u v : Value) (hu : PtSl X u ps) (hv : LiSl X v ins) => c_Course C ps s ins n2 u v X hu hv r2 hr2 cs hcs)
  have H4 := Lib.hid (fun (X : World) (u v : Value) (hu : PtSl X u ps) (hv : LiSl X v ins) => d_Course C ps s ins n2 u v X hu hv r2 hr2 cs hcs)
  have H5 := Lib.hid (fun (X : World) (u v : Value) (hu : PtSl X u ps) (hv : LiSl X v ins) => c_Peak C ps s ins n2 u v X hu hv k1 k2 r2 hr2 hk)
  have H6 := Lib.hid (fun (X : World) (u v : Value) (hu : PtSl X u ps) (hv : LiSl X v ins) => d_Peak C ps s ins n2 u v X hu hv k1 k2 r2 hr2 hk)
  have H7 := Lib.hid (fun (X : World) (u : Value) (hu : PtSl X u ps) => c_Valid C ps u X hu r5 hr5)
  have H8 := Lib.hid (fun (X : World) (u : Value) (hu : PtSl X u ps) => d_Valid C ps u X hu r5 hr5)
  have HE := Lib.hid (fun (X : World) (u u' : Value) (hu : IntSl X u cs) (hu' : IntSl X u' cs) => c_eqInts cs cs true (decide_eq_true rfl) u u' X hu hu')
  have HQ := Lib.hid (fun (X : World) (q : List Int) (u u' : Value) (hu : IntSl X u q) (hu' : IntSl X u' q) => c_eqInts q q true (decide_eq_true rfl) u u' X hu hu')
  have HF := Lib.hid (fun (X : World) (u u' : Value) (hu : PtSl X u ps) (hu' : PtSl X u' ps) => c_eqParts ps ps true (decide_eq_true rfl) u u' X hu hu')
  have hin18 : ins.length ≤ 18 := by rw [hins]; unfold cutI; rw [List.length_map, List.length_take]; omega
  clear hO1 hO2 hP hPn hI hr1 hy1 hr2 hcs hk hr5 hps hins hn2
  unfold lnV at H1 H2 H3 H4 H5 H6 H7 H8
  unfold argsV at HO1 HO2 ⊢
  obtain ⟨W, hW⟩ : ∃ W, W = w.alloc (.cells #[.int .i64 C, P, .int .i64 s, I, .int .i64 n, .int .i64 t, .int .i64 l] 27) := ⟨_, rfl⟩
  have HB0 := Lib.hid (show Below w.heap.size w W by subst hW; exact (Below.refl _ _).alloc (Nat.le_refl _) _)
  have HX0 := Lib.hid (show W.heap[w.heap.size]? = some (.cells #[.int .i64 C, P, .int .i64 s, I, .int .i64 n, .int .i64 t, .int .i64 l] 27 (0, 0)) by subst hW; exact heap_alloc_new _ _)
  obtain ⟨x0, x1, x2, x3, x4, x5, x6⟩ := args_cells HX0.out
  go_enter Try.func3, Try.ntmps3
  go_wp2_with (fail)
  rw [← hW]
  clear hW
  go_at_call 10
  refine (HO1.out W HB0.out).mono ?_
  rintro e w1 ⟨P', I', rfl, hpi, hnl, b1⟩
  unfold argsV
  obtain ⟨A1, c1, rfl, -, -⟩ := (hpi w1 fun _ _ _ h => h).1.shape
  obtain ⟨A2, c2, rfl, -, -⟩ := (hpi w1 fun _ _ _ h => h).2.shape
  have HNL := Lib.hid hnl
  have HX1 := Lib.hid ((b1.block _ (at_lt HX0.out)).trans HX0.out)
  have HB1 := Lib.hid (below_join HB0.out b1 HB0.out.size)
  have hz0 := at_lt HX0.out
  obtain ⟨Z, hZ⟩ : ∃ Z, Z = ((((((w1.setCell ⟨w.heap.size, 0, none⟩ (.int .i64 C)).setCell ⟨w.heap.size, 1, none⟩ (.slice A1 ps.length c1)).setCell ⟨w.heap.size, 2, none⟩ (.int .i64 s)).setCell ⟨w.heap.size, 3, none⟩ (.slice A2 ins.length c2)).setCell ⟨w.heap.size, 4, none⟩ (.int .i64 n2)).setCell ⟨w.heap.size, 5, none⟩ (.int .i64 t)).setCell ⟨w.heap.size, 6, none⟩ (.int .i64 l) := ⟨_, rfl⟩
  have HXZ := Lib.hid (show ArB Z w.heap.size C (.slice A1 ps.length c1) s (.slice A2 ins.length c2) n2 t l by subst hZ; exact set_field (set_field (set_field (set_field (set_field (set_field (set_field HX1.out _) _) _) _) _) _) _)
  have hbt : But w.heap.size w1 Z := by subst hZ; exact ((((((But.store _ _).trans (But.store _ _)).trans (But.store _ _)).trans (But.store _ _)).trans (But.store _ _)).trans (But.store _ _)).trans (But.store _ _)
  have HBZ := Lib.hid (hbt.below HB1.out (Nat.le_refl _))
  have HPIZ := Lib.hid (hpi Z fun k o hk hh => hbt.same k o (by omega) hh)
  have hzHXZ : w.heap.size < Z.heap.size := at_lt HXZ.out
  obtain ⟨y0, y1', y2, y3, y4, y5, y6⟩ := HXZ.out.cells
  obtain ⟨q0, q1, q2, q3, q4, q5, q6⟩ := frz7 HX1.out
  have HZE := Lib.hid hZ
  clear x0 x1 x2 x3 x4 x5 x6 hpi b1 hbt hnl
  obtain ⟨x0, x1, x2, x3, x4, x5, x6⟩ := args_cells HX1.out
  rw [hZ] at y0 y1' y2 y3 y4 y5 y6
  clear hZ
  go_wp2_with (fail)
  rw [← HZE.out]
  clear x0 x1 x2 x3 x4 x5 x6 y0 y1' y2 y3 y4 y5 y6 q0 q1 q2 q3 q4 q5 q6
  go_at_call 10
  refine (HO2.out Z _ _ HPIZ.out.1 HNL.out HPIZ.out.2).mono ?_
  rintro e w2 ⟨P', I', rfl, hpi, hnl, b2⟩
  unfold argsV
  obtain ⟨A3, c3, rfl, -, -⟩ := (hpi w2 fun _ _ _ h => h).1.shape
  obtain ⟨A4, c4, rfl, -, -⟩ := (hpi w2 fun _ _ _ h => h).2.shape
  obtain ⟨V, hV⟩ : ∃ V, V = w2.alloc (.cells #[.int .i64 C, .slice A3 ps.length c3, .int .i64 s, .slice A4 ins.length c4, .int .i64 n2, .int .i64 t, .int .i64 l] 27) := ⟨_, rfl⟩
  have HYV := Lib.hid (show ArB V w2.heap.size C (.slice A3 ps.length c3) s (.slice A4 ins.length c4) n2 t l by subst hV; exact heap_alloc_new _ _)
  have hb2 : Below w2.heap.size w2 V := by subst hV; exact (Below.refl _ _).alloc (Nat.le_refl _) _
  have hbb : Below Z.heap.size Z V := below_join b2 hb2 b2.size
  have HBV := Lib.hid (below_join HBZ.out hbb HBZ.out.size)
  have HXV := Lib.hid (HXZ.out.on hbb hzHXZ)
  have hzHXV : w.heap.size < V.heap.size := at_lt HXV.out
  have hzHYV : w2.heap.size < V.heap.size := at_lt HYV.out
  have HPV := Lib.hid (HPIZ.out.1.on hbb (Nat.le_refl _))
  have HIV := Lib.hid (HPIZ.out.2.on hbb (Nat.le_refl _))
  have HRSV := hpi V fun k o _ hh => (hb2.block k (at_lt hh)).trans hh
  have HRV := Lib.hid HRSV.1
  have HSV := Lib.hid HRSV.2
  clear HRSV hpi b2 hb2 hbb hnl
  have HVE := Lib.hid hV
  clear hV
  go_upto_region 3 with (fail)
  rw [← HVE.out]
  clear HVE
  obtain ⟨x0, x1, x2, x3, x4, x5, x6⟩ := HXV.out.cells
  go_wp2_with (fail)
  clear x0 x1 x2 x3 x4 x5 x6
  go_at_call 11
  refine (H1.out _ _ _ HPV.out HIV.out).mono ?_
  rintro e v1 ⟨rfl, bb⟩
  have HBv1 := Lib.hid (below_join HBV.out bb HBV.out.size)
  have HXv1 := Lib.hid (HXV.out.on bb hzHXV)
  have hzHXv1 := Nat.lt_of_lt_of_le hzHXV bb.size
  have HYv1 := Lib.hid (HYV.out.on bb hzHYV)
  have hzHYv1 := Nat.lt_of_lt_of_le hzHYV bb.size
  have HPv1 := Lib.hid (HPV.out.on bb (Nat.le_refl _))
  have HIv1 := Lib.hid (HIV.out.on bb (Nat.le_refl _))
  have HRv1 := Lib.hid (HRV.out.on bb (Nat.le_refl _))
  have HSv1 := Lib.hid (HSV.out.on bb (Nat.le_refl _))
  clear bb
  obtain ⟨y0, y1', y2, y3, y4, y5, y6⟩ := HYv1.out.cells
  go_wp2_with (fail)
  clear y0 y1' y2 y3 y4 y5 y6
  go_at_call 12
  refine (H2.out _ _ _ HRv1.out HSv1.out).mono ?_
  rintro e v2 ⟨rfl, bb⟩
  have HBv2 := Lib.hid (below_join HBv1.out bb HBv1.out.size)
  have HXv2 := Lib.hid (HXv1.out.on bb hzHXv1)
  have hzHXv2 := Nat.lt_of_lt_of_le hzHXv1 bb.size
  have HYv2 := Lib.hid (HYv1.out.on bb hzHYv1)
  have hzHYv2 := Nat.lt_of_lt_of_le hzHYv1 bb.size
  have HPv2 := Lib.hid (HPv1.out.on bb (Nat.le_refl _))
  have HIv2 := Lib.hid (HIv1.out.on bb (Nat.le_refl _))
  have HRv2 := Lib.hid (HRv1.out.on bb (Nat.le_refl _))
  have HSv2 := Lib.hid (HSv1.out.on bb (Nat.le_refl _))
  clear bb
  obtain ⟨x0, x1, x2, x3, x4, x5, x6⟩ := HXv2.out.cells
  go_wp2_with (fail)
  clear x0 x1 x2 x3 x4 x5 x6
  go_at_call 13
  refine (H3.out _ _ _ HPv2.out HIv2.out).mono ?_
  rintro e v3 ⟨cv, rfl, hcv, bb⟩
  have HBv3 := Lib.hid (below_join HBv2.out bb HBv2.out.size)
  have HXv3 := Lib.hid (HXv2.out.on bb hzHXv2)
  have hzHXv3 := Nat.lt_of_lt_of_le hzHXv2 bb.size
  have HYv3 := Lib.hid (HYv2.out.on bb hzHYv2)
  have hzHYv3 := Nat.lt_of_lt_of_le hzHYv2 bb.size
  have HPv3 := Lib.hid (HPv2.out.on bb (Nat.le_refl _))
  have HIv3 := Lib.hid (HIv2.out.on bb (Nat.le_refl _))
  have HRv3 := Lib.hid (HRv2.out.on bb (Nat.le_refl _))
  have HSv3 := Lib.hid (HSv2.out.on bb (Nat.le_refl _))
  clear bb
  have HCv3 := Lib.hid hcv
  obtain ⟨A5, c5, hu5, -, -⟩ := hcv.shape
  subst hu5
  clear hcv
  obtain ⟨y0, y1', y2, y3, y4, y5, y6⟩ := HYv3.out.cells
  go_wp2_with (fail)
  clear y0 y1' y2 y3 y4 y5 y6
  go_at_call 14
  refine (H4.out _ _ _ HRv3.out HSv3.out).mono ?_
  rintro e v4 ⟨cv, rfl, hcv, bb⟩
  have HBv4 := Lib.hid (below_join HBv3.out bb HBv3.out.size)
  have HXv4 := Lib.hid (HXv3.out.on bb hzHXv3)
  have hzHXv4 := Nat.lt_of_lt_of_le hzHXv3 bb.size
  have HYv4 := Lib.hid (HYv3.out.on bb hzHYv3)
  have hzHYv4 := Nat.lt_of_lt_of_le hzHYv3 bb.size
  have HPv4 := Lib.hid (HPv3.out.on bb (Nat.le_refl _))
  have HIv4 := Lib.hid (HIv3.out.on bb (Nat.le_refl _))
  have HRv4 := Lib.hid (HRv3.out.on bb (Nat.le_refl _))
  have HSv4 := Lib.hid (HSv3.out.on bb (Nat.le_refl _))
  have HCv4 := Lib.hid (HCv3.out.on bb (Nat.le_refl _))
  clear bb
  have HDv4 := Lib.hid hcv
  obtain ⟨A6, c6, hu6, -, -⟩ := hcv.shape
  subst hu6
  clear hcv
  have HE6 := Lib.hid (fun (X : World) (hX : Below v4.heap.size v4 X) => HE.out X _ _ (HCv4.out.on hX (Nat.le_refl _)) (HDv4.out.on hX (Nat.le_refl _)))
  have H76 := Lib.hid (fun (X : World) (hX : Below v4.heap.size v4 X) => H7.out X _ (HPv4.out.on hX (Nat.le_refl _)))
  have H86 := Lib.hid (fun (X : World) (hX : Below v4.heap.size v4 X) => H8.out X _ (HRv4.out.on hX (Nat.le_refl _)))
  have HLv4 := Lib.hid (Below.refl v4.heap.size v4)
  obtain ⟨x0, x1, x2, x3, x4, x5, x6⟩ := HXv4.out.cells
  go_wp2_with (fail)
  clear x0 x1 x2 x3 x4 x5 x6
  go_region_held3 (fun X => (X.cell? ⟨w.heap.size, 0, none⟩ = some (.int .i64 C) ∧ X.cell? ⟨w.heap.size, 1, none⟩ = some (.slice A1 ps.length c1)) ∧ X.cell? ⟨w2.heap.size, 0, none⟩ = some (.int .i64 C) ∧ X.cell? ⟨w2.heap.size, 1, none⟩ = some (.slice A3 ps.length c3))
    (first | exact ⟨⟨HXv7.out.cells.1, HXv7.out.cells.2.1⟩, HYv7.out.cells.1, HYv7.out.cells.2.1⟩ | exact ⟨⟨HXv6.out.cells.1, HXv6.out.cells.2.1⟩, HYv6.out.cells.1, HYv6.out.cells.2.1⟩ | exact ⟨⟨HXv5.out.cells.1, HXv5.out.cells.2.1⟩, HYv5.out.cells.1, HYv5.out.cells.2.1⟩ | exact ⟨⟨HXv4.out.cells.1, HXv4.out.cells.2.1⟩, HYv4.out.cells.1, HYv4.out.cells.2.1⟩)
    (first
      | (go_at_call 15; (with_reducible refine (HE6.out _ (Below.refl _ _).drew).mono ?_); rintro e v5 ⟨rfl, hdd⟩; have bb := drew_below (Below.refl v4.heap.size v4).drew hdd; have HBv5 := Lib.hid (below_join HBv4.out bb HBv4.out.size); have HLv5 := Lib.hid (below_join HLv4.out bb HLv4.out.size); have HXv5 := Lib.hid (HXv4.out.on bb hzHXv4); have hzHXv5 := Nat.lt_of_lt_of_le hzHXv4 bb.size; have HYv5 := Lib.hid (HYv4.out.on bb hzHYv4); have hzHYv5 := Nat.lt_of_lt_of_le hzHYv4 bb.size; have HPv5 := Lib.hid (HPv4.out.on bb (Nat.le_refl _)); have HIv5 := Lib.hid (HIv4.out.on bb (Nat.le_refl _)); have HRv5 := Lib.hid (HRv4.out.on bb (Nat.le_refl _)); have HSv5 := Lib.hid (HSv4.out.on bb (Nat.le_refl _)); clear bb hdd)
      | (go_at_call 16; (with_reducible refine (H76.out _ HLv5.out).mono ?_); rintro e v6 ⟨rfl, bb0⟩; have bb := below_join (Below.refl v5.heap.size v5) bb0 (Nat.le_refl _); have HBv6 := Lib.hid (below_join HBv5.out bb HBv5.out.size); have HLv6 := Lib.hid (below_join HLv5.out bb HLv5.out.size); have HXv6 := Lib.hid (HXv5.out.on bb hzHXv5); have hzHXv6 := Nat.lt_of_lt_of_le hzHXv5 bb.size; have HYv6 := Lib.hid (HYv5.out.on bb hzHYv5); have hzHYv6 := Nat.lt_of_lt_of_le hzHYv5 bb.size; have HPv6 := Lib.hid (HPv5.out.on bb (Nat.le_refl _)); have HIv6 := Lib.hid (HIv5.out.on bb (Nat.le_refl _)); have HRv6 := Lib.hid (HRv5.out.on bb (Nat.le_refl _)); have HSv6 := Lib.hid (HSv5.out.on bb (Nat.le_refl _)); clear bb bb0)
      | (go_at_call 17; (with_reducible refine (H86.out _ HLv6.out).mono ?_); rintro e v7 ⟨rfl, bb0⟩; have bb := below_join (Below.refl v6.heap.size v6) bb0 (Nat.le_refl _); have HBv7 := Lib.hid (below_join HBv6.out bb HBv6.out.size); have HLv7 := Lib.hid (below_join HLv6.out bb HLv6.out.size); have HXv7 := Lib.hid (HXv6.out.on bb hzHXv6); have hzHXv7 := Nat.lt_of_lt_of_le hzHXv6 bb.size; have HYv7 := Lib.hid (HYv6.out.on bb hzHYv6); have hzHYv7 := Nat.lt_of_lt_of_le hzHYv6 bb.size; have HPv7 := Lib.hid (HPv6.out.on bb (Nat.le_refl _)); have HIv7 := Lib.hid (HIv6.out.on bb (Nat.le_refl _)); have HRv7 := Lib.hid (HRv6.out.on bb (Nat.le_refl _)); have HSv7 := Lib.hid (HSv6.out.on bb (Nat.le_refl _)); clear bb bb0)
      | fail)
  obtain ⟨x0, x1, x2, x3, x4, x5, x6⟩ := HXv7.out.cells
  go_wp2_with (fail)
  clear x0 x1 x2 x3 x4 x5 x6
  go_at_call 18
  refine (H5.out _ _ _ HPv7.out HIv7.out).mono ?_
  rintro e v8 ⟨rfl, bb⟩
  have HBv8 := Lib.hid (below_join HBv7.out bb HBv7.out.size)
  have HXv8 := Lib.hid (HXv7.out.on bb hzHXv7)
  have hzHXv8 := Nat.lt_of_lt_of_le hzHXv7 bb.size
  have HYv8 := Lib.hid (HYv7.out.on bb hzHYv7)
  have hzHYv8 := Nat.lt_of_lt_of_le hzHYv7 bb.size
  have HPv8 := Lib.hid (HPv7.out.on bb (Nat.le_refl _))
  have HIv8 := Lib.hid (HIv7.out.on bb (Nat.le_refl _))
  have HRv8 := Lib.hid (HRv7.out.on bb (Nat.le_refl _))
  have HSv8 := Lib.hid (HSv7.out.on bb (Nat.le_refl _))
  clear bb
  obtain ⟨y0, y1', y2, y3, y4, y5, y6⟩ := HYv8.out.cells
  go_wp2_with (fail)
  clear y0 y1' y2 y3 y4 y5 y6
  go_at_call 19
  refine (H6.out _ _ _ HRv8.out HSv8.out).mono ?_
  rintro e v9 ⟨rfl, bb⟩
  have HBv9 := Lib.hid (below_join HBv8.out bb HBv8.out.size)
  have HXv9 := Lib.hid (HXv8.out.on bb hzHXv8)
  have hzHXv9 := Nat.lt_of_lt_of_le hzHXv8 bb.size
  have HYv9 := Lib.hid (HYv8.out.on bb hzHYv8)
  have hzHYv9 := Nat.lt_of_lt_of_le hzHYv8 bb.size
  have HPv9 := Lib.hid (HPv8.out.on bb (Nat.le_refl _))
  have HIv9 := Lib.hid (HIv8.out.on bb (Nat.le_refl _))
  have HRv9 := Lib.hid (HRv8.out.on bb (Nat.le_refl _))
  have HSv9 := Lib.hid (HSv8.out.on bb (Nat.le_refl _))
  clear bb
  obtain ⟨x0, x1, x2, x3, x4, x5, x6⟩ := HXv9.out.cells
  obtain ⟨y0, y1', y2, y3, y4, y5, y6⟩ := HYv9.out.cells
  go_wp2_with (fail)
  clear x0 x1 x2 x3 x4 x5 x6 y0 y1' y2 y3 y4 y5 y6
  go_at_call 20
  refine (HF.out _ _ _ HPv9.out HRv9.out).mono ?_
  rintro e v10 ⟨rfl, hdd⟩
  have bb := drew_below (Below.refl v9.heap.size v9) hdd
  have HBv10 := Lib.hid (below_join HBv9.out bb HBv9.out.size)
  have HXv10 := Lib.hid (HXv9.out.on bb hzHXv9)
  have hzHXv10 := Nat.lt_of_lt_of_le hzHXv9 bb.size
  have HYv10 := Lib.hid (HYv9.out.on bb hzHYv9)
  have hzHYv10 := Nat.lt_of_lt_of_le hzHYv9 bb.size
  have HPv10 := Lib.hid (HPv9.out.on bb (Nat.le_refl _))
  have HIv10 := Lib.hid (HIv9.out.on bb (Nat.le_refl _))
  have HRv10 := Lib.hid (HRv9.out.on bb (Nat.le_refl _))
  have HSv10 := Lib.hid (HSv9.out.on bb (Nat.le_refl _))
  clear bb hdd
  obtain ⟨x0, x1, x2, x3, x4, x5, x6⟩ := HXv10.out.cells
  go_wp2_with (fail)
  clear x0 x1 x2 x3 x4 x5 x6
  go_loopw [145] (fun i wr => ∃ k : Nat, k ≤ ins.length ∧ i = .int .i64 (k : Int) ∧ Hid (Below v10.heap.size v10 wr)) (fun i _ => ins.length - (intOf i).toNat)
  case atStart => exact ⟨0, Nat.zero_le _, rfl, Lib.hid (Below.refl _ _)⟩
  case round =>
    obtain ⟨k, hk, rfl, hB⟩ := hrel
    obtain ⟨wx, hwx⟩ : ∃ x, x = wr := ⟨wr, rfl⟩
    subst hwx
    have hki : ((k : Nat) : Int).toNat = k := by omega
    have HLwx := Lib.hid hB.out
    have HBwx := Lib.hid (below_join HBv10.out hB.out HBv10.out.size)
    have HXwx := Lib.hid (HXv10.out.on hB.out hzHXv10)
    have hzHXwx := Nat.lt_of_lt_of_le hzHXv10 hB.out.size
    have HYwx := Lib.hid (HYv10.out.on hB.out hzHYv10)
    have hzHYwx := Nat.lt_of_lt_of_le hzHYv10 hB.out.size
    have HPwx := Lib.hid (HPv10.out.on hB.out (Nat.le_refl _))
    have HIwx := Lib.hid (HIv10.out.on hB.out (Nat.le_refl _))
    have HRwx := Lib.hid (HRv10.out.on hB.out (Nat.le_refl _))
    have HSwx := Lib.hid (HSv10.out.on hB.out (Nat.le_refl _))
    by_cases hlt : k < ins.length
    · have hcont := trivial
      clear hcont hB
      obtain ⟨q, hq⟩ : ∃ q, ins[k]? = some q := ⟨_, List.getElem?_eq_getElem hlt⟩
      obtain ⟨b1, o1, d1, u1, e1, hb1, -, -, hu1, hi1⟩ := HIwx.out.at_ hq
      obtain ⟨b2, o2, d2, u2, e2, hb2, -, -, hu2, hi2⟩ := HSwx.out.at_ hq
      injection e1 with e1 _ e1'
      injection e2 with e2 _ e2'
      subst e1 e1' e2 e2'
      have HQ1 := Lib.hid (fun (X : World) (hX : Below wx.heap.size wx X) => HQ.out X q u1 u2 (hi1.on hX (Nat.le_refl _)) (hi2.on hX (Nat.le_refl _)))
      obtain ⟨A7, c7, rfl, -, -⟩ := hi1.shape
      obtain ⟨A8, c8, rfl, -, -⟩ := hi2.shape
      have HU1 := Lib.hid hu1
      have HU2 := Lib.hid hu2
      have HLT := Lib.hid hlt
      clear hq hi1 hi2
      clear hu1 hu2
      have hlt2 : (k : Int) < ((ins.length : Nat) : Int) := by omega
      go_wp2_with (fail)
      have HWU := Lib.hid (fun (X : World) (hX : Below wx.heap.size wx X) => (show X.cell? ⟨w.heap.size, 3, none⟩ = some (.slice (some ⟨b1, o1, none⟩) ins.length c2) ∧ X.cell? ⟨w2.heap.size, 3, none⟩ = some (.slice (some ⟨b2, o2, none⟩) ins.length c4) ∧ X.cell? ⟨b1, o1 + k, none⟩ = some (.slice A7 q.length c7) ∧ X.cell? ⟨b2, o2 + k, none⟩ = some (.slice A8 q.length c8) from ⟨(HXwx.out.on hX hzHXwx).cells.2.2.2.1, (HYwx.out.on hX hzHYwx).cells.2.2.2.1, (hX.cell (p := ⟨b1, o1 + k, none⟩) hb1).trans HU1.out, (hX.cell (p := ⟨b2, o2 + k, none⟩) hb2).trans HU2.out⟩))
      have HMwx := Lib.hid (Below.refl wx.heap.size wx)
      go_region_held3 (fun X => X.cell? ⟨w.heap.size, 3, none⟩ = some (.slice (some ⟨b1, o1, none⟩) ins.length c2) ∧ X.cell? ⟨w2.heap.size, 3, none⟩ = some (.slice (some ⟨b2, o2, none⟩) ins.length c4) ∧ X.cell? ⟨b1, o1 + k, none⟩ = some (.slice A7 q.length c7) ∧ X.cell? ⟨b2, o2 + k, none⟩ = some (.slice A8 q.length c8))
        (first | exact HWU.out _ (Below.refl _ _).drew | exact HWU.out _ HMv11.out | exact HWU.out _ (Below.refl _ _).drew | exact HWU.out _ HMwx.out)
        (first
          | (go_at_call 15; (with_reducible refine (HQ1.out _ (Below.refl _ _).drew).mono ?_); rintro e v11 ⟨rfl, hdd⟩; have bb := drew_below (Below.refl wx.heap.size wx).drew hdd; have HLv11 := Lib.hid (below_join HLwx.out bb HLwx.out.size); have HMv11 := Lib.hid (below_join HMwx.out bb HMwx.out.size); have HXv11 := Lib.hid (HXwx.out.on bb hzHXwx); have hzHXv11 := Nat.lt_of_lt_of_le hzHXwx bb.size; have HYv11 := Lib.hid (HYwx.out.on bb hzHYwx); have hzHYv11 := Nat.lt_of_lt_of_le hzHYwx bb.size; clear bb hdd)
          | fail)
      go_wp2_with (fail)
      go_roundw
      case rel => exact ⟨k + 1, by (have := HLT.out; omega), by go_num, Lib.hid HLv11.out⟩
      case measure => (have := HLT.out; simp only [intOf]; omega)
    · have hge : ((ins.length : Nat) : Int) ≤ (k : Int) := by omega
      clear hlt hki hB HLwx
      go_wp2_with (fail)
      go_at_call 21
      refine (c_works _).mono ?_
      rintro e v12 ⟨rfl, bb⟩
      have HBv12 := Lib.hid (below_join HBwx.out bb HBwx.out.size)
      clear bb
      go_wp2_with (fail)
      go_ret
      exact ⟨rfl, HBv12.out⟩
end Go.Proofs.Ythghinkicaafmaa
