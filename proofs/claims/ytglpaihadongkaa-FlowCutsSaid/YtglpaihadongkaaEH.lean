/-
  DERIVED. The law FlowMaxes (stage 5; written by gen/flow_EH.py).
-/
import Derived.Test.YtglpaihadongkaaYEFm
import Derived.Test.YtglpaihadongkaaYDEm
set_option linter.unusedVariables false
set_option linter.unusedSimpArgs false
namespace Go.Proofs.Ytglpaihadongkaa
open Go.RowKit Go.Shelf
set_option maxRecDepth 100000
set_option linter.unusedSimpArgs false
set_option linter.unusedVariables false

set_option maxHeartbeats 16000000 in
theorem row_FlowMaxesE (w : World) (N s t : Int) (L : Value) (l : List (Int × Int × Int)) (hL : PtSl w L l) (hn : nfault N (l.take 130) s t ≠ 0) :
    Calls Try.prog 4 #[ntV N L, .int .i64 s, .int .i64 t] w fun e w' => e = .returned (.bool true) ∧ Below w.heap.size w w' := by
  obtain ⟨A, c, rfl, hc1, hc2⟩ := hL.shape
  unfold maxLen at hc2
  obtain ⟨W, hW⟩ : ∃ W, W = w.alloc (.cells #[.int .i64 N, .slice A l.length c] 24) := ⟨_, rfl⟩
  have B0 : Below w.heap.size w W := by subst hW; exact (Below.refl _ _).alloc (Nat.le_refl _) _
  have hzw : W.heap.size = w.heap.size + 1 := by subst hW; simp
  have HB0 := Lib.hid B0
  have HX := Lib.hid (show W.heap[w.heap.size]? = some (.cells #[.int .i64 N, .slice A l.length c] 24 (0, 0)) by subst hW; exact heap_alloc_new _ _)
  have x0 : W.cell? ⟨w.heap.size, 0, none⟩ = some (.int .i64 N) := cell_of HX.out rfl
  have x1 : W.cell? ⟨w.heap.size, 1, none⟩ = some (.slice A l.length c) := cell_of HX.out rfl
  have HOWN := Lib.hid (c_own N (.slice A l.length c) l W (hL.on B0 (Nat.le_refl _)))
  obtain ⟨l2, hl2⟩ : ∃ l2, l2 = l.take 130 := ⟨_, rfl⟩
  have hl22 : l2.take 130 = l2 := by rw [hl2, List.take_take]; rfl
  rw [← hl2] at HOWN hn
  unfold ntV at HOWN ⊢
  clear B0 hL hl2
  rw [hW] at x0 x1
  go_enter Try.func4, Try.ntmps4
  go_wp2_with (fail)
  rw [← hW]
  clear hW x0 x1
  go_at_call 10
  refine HOWN.out.mono ?_
  rintro e w1 ⟨L2, rfl, hpt, hb⟩
  have h1X := (hb.block _ (by omega)).trans HX.out
  have x0 : w1.cell? ⟨w.heap.size, 0, none⟩ = some (.int .i64 N) := cell_of h1X rfl
  have x1 : w1.cell? ⟨w.heap.size, 1, none⟩ = some (.slice A l.length c) := cell_of h1X rfl
  have f0 : w1.frozen? ⟨w.heap.size, 0, none⟩ = false := by simp [World.frozen?, h1X]
  have f1 : w1.frozen? ⟨w.heap.size, 1, none⟩ = false := by simp [World.frozen?, h1X]
  obtain ⟨A4, c4, rfl, -, -⟩ := (hpt w1 (fun _ _ => rfl)).shape
  obtain ⟨V, hV⟩ : ∃ V, V = (w1.setCell ⟨w.heap.size, 0, none⟩ (.int .i64 N)).setCell ⟨w.heap.size, 1, none⟩ (.slice A4 l2.length c4) := ⟨_, rfl⟩
  have HLV := Lib.hid (show V.heap[w.heap.size]? = some (.cells #[.int .i64 N, .slice A4 l2.length c4] 24 (0, 0)) by rw [hV]; exact row_set3 (row_set3 h1X _) _)
  have HBV := Lib.hid (show Below w.heap.size w V by rw [hV]; exact ((below_join HB0.out hb HB0.out.size).setCell (by show w.heap.size ≤ w.heap.size; omega) _).setCell (by show w.heap.size ≤ w.heap.size; omega) _)
  have HPV := Lib.hid (hpt V (fun k hk => by rw [hV, Below.heap_setCell _ ⟨w.heap.size, 1, none⟩ _ k (by show k ≠ w.heap.size; omega), Below.heap_setCell _ ⟨w.heap.size, 0, none⟩ _ k (by show k ≠ w.heap.size; omega)]))
  have HOW2 := Lib.hid (c_own N (.slice A4 l2.length c4) l2 V HPV.out)
  rw [hl22] at HOW2
  unfold ntV at HOW2
  obtain ⟨y0, y1⟩ : V.cell? ⟨w.heap.size, 0, none⟩ = some (.int .i64 N) ∧ V.cell? ⟨w.heap.size, 1, none⟩ = some (.slice A4 l2.length c4) := ⟨cell_of HLV.out rfl, cell_of HLV.out rfl⟩
  rw [hV] at y0 y1
  clear HOWN hpt hb
  go_wp2_with (fail)
  rw [← hV]
  clear hV x0 x1 f0 f1 h1X y0 y1
  go_at_call 10
  refine HOW2.out.mono ?_
  rintro e w2 ⟨L3, rfl, hpt, hb⟩
  obtain ⟨A5, c5, rfl, -, -⟩ := (hpt w2 (fun _ _ => rfl)).shape
  have hL3 := hpt w2 (fun _ _ => rfl)
  obtain ⟨U, hU⟩ : ∃ U, U = w2.alloc (.cells #[.int .i64 N, .slice A5 l2.length c5] 24) := ⟨_, rfl⟩
  have bU : Below w2.heap.size w2 U := by subst hU; exact (Below.refl _ _).alloc (Nat.le_refl _) _
  have hvs : w.heap.size < V.heap.size := at_lt HLV.out
  have HLU := Lib.hid (show U.heap[w.heap.size]? = some (.cells #[.int .i64 N, .slice A4 l2.length c4] 24 (0, 0)) from (bU.block _ (by have := hb.size; omega)).trans ((hb.block _ hvs).trans HLV.out))
  have HMU := Lib.hid (show U.heap[w2.heap.size]? = some (.cells #[.int .i64 N, .slice A5 l2.length c5] 24 (0, 0)) by subst hU; exact heap_alloc_new _ _)
  have HPU := Lib.hid (((HPV.out.on hb (Nat.le_refl _)).on bU (Nat.le_refl _)))
  have HQU := Lib.hid (hL3.on bU (Nat.le_refl _))
  have HBU := Lib.hid (below_join (below_join HBV.out hb HBV.out.size) bU (by have := hb.size; have := HBV.out.size; omega))
  have hz1 := at_lt HLU.out
  have hz2 := at_lt HMU.out
  have HXF := Lib.hid (fun (X : World) (hX : Below U.heap.size U X) => (⟨⟨cell_of ((hX.block _ hz1).trans HLU.out) rfl, cell_of ((hX.block _ hz1).trans HLU.out) rfl⟩, ⟨cell_of ((hX.block _ hz2).trans HMU.out) rfl, cell_of ((hX.block _ hz2).trans HMU.out) rfl⟩, HPU.out.on hX (Nat.le_refl _), HQU.out.on hX (Nat.le_refl _)⟩ : (X.cell? ⟨w.heap.size, 0, none⟩ = some (.int .i64 N) ∧ X.cell? ⟨w.heap.size, 1, none⟩ = some (.slice A4 l2.length c4)) ∧ (X.cell? ⟨w2.heap.size, 0, none⟩ = some (.int .i64 N) ∧ X.cell? ⟨w2.heap.size, 1, none⟩ = some (.slice A5 l2.length c5)) ∧ PtSl X (.slice A4 l2.length c4) l2 ∧ PtSl X (.slice A5 l2.length c5) l2))
  have HEQ := Lib.hid (fun (X : World) (h1 : PtSl X (.slice A4 l2.length c4) l2) (h2 : PtSl X (.slice A5 l2.length c5) l2) => c_eqArcs l2 l2 true (decide_eq_true rfl) _ _ X h1 h2)
  have HWK := Lib.hid (fun (X : World) => c_works X)
  clear HOW2 hpt hb bU hL3 hvs hz1 hz2
  obtain ⟨⟨x0, x1⟩, ⟨y0, y1⟩, p0, q0⟩ := HXF.out U (Below.refl _ _)
  obtain ⟨r, hr⟩ : ∃ r, nfault N l2 s t = r := ⟨_, rfl⟩
  rw [hr] at hn
  have HM1 := Lib.hid (fun (X : World) (hX : PtSl X (.slice A4 l2.length c4) l2) => c_MaxE N _ l2 s t X hX r hr hn)
  have HM2 := Lib.hid (fun (X : World) (hX : PtSl X (.slice A5 l2.length c5) l2) => d_MaxE N _ l2 s t X hX r hr hn)
  have hrr : (r != r) = false := by simp
  have hr0 : (r != 0) = true := by rw [bne_iff_ne]; exact hn
  unfold ntV at HM1 HM2
  clear hr hn
  rw [hU] at x0 x1 y0 y1
  go_wp2_with (fail)
  rw [← hU]
  clear hU x0 x1 y0 y1
  go_at_call 19
  refine (HM1.out U p0).mono ?_
  rintro e v1 ⟨rfl, hb⟩
  clear p0 q0
  have HBv1 := Lib.hid (show Below U.heap.size U v1 from hb)
  obtain ⟨⟨x0, x1⟩, ⟨y0, y1⟩, p0, q0⟩ := HXF.out v1 HBv1.out
  clear hb
  go_wp2_with (fail)
  clear x0 x1 y0 y1
  go_at_call 20
  refine (HM2.out v1 q0).mono ?_
  rintro e v2 ⟨rfl, hb⟩
  clear p0 q0
  have HBv2 := Lib.hid (below_join HBv1.out hb HBv1.out.size)
  obtain ⟨⟨x0, x1⟩, ⟨y0, y1⟩, p0, q0⟩ := HXF.out v2 HBv2.out
  clear hb
  go_wp2_with (fail)
  clear x0 x1 y0 y1
  go_at_call 21
  refine (HEQ.out v2 p0 q0).mono ?_
  rintro e v3 ⟨rfl, nn, hv3⟩
  have HB3 := Lib.hid (show Below U.heap.size U v3 by rw [hv3]; exact below_drewN HBv2.out)
  clear hv3 p0 q0
  go_wp2_with (fail)
  go_at_call 18
  refine (HWK.out v3).mono ?_
  rintro e v4 ⟨rfl, hb⟩
  have HB4 := Lib.hid (below_join HBU.out (below_join HB3.out hb HB3.out.size) HBU.out.size)
  clear hb
  go_wp2_with (fail)
  go_ret
  exact ⟨rfl, HB4.out⟩
set_option maxHeartbeats 16000000 in
theorem row_FlowMaxes0 (w : World) (N s t : Nat) (L : Value) (l : List (Int × Int × Int)) (hL : PtSl w L l) (hn : ntOk (N : Int) (l.take 130) = true) (hs : s < N) (ht : t < N) (hst : s ≠ t) :
    Calls Try.prog 4 #[ntV (N : Int) L, .int .i64 (s : Int), .int .i64 (t : Int)] w fun e w' => e = .returned (.bool true) ∧ Below w.heap.size w w' := by
  obtain ⟨A, c, rfl, hc1, hc2⟩ := hL.shape
  unfold maxLen at hc2
  obtain ⟨W, hW⟩ : ∃ W, W = w.alloc (.cells #[.int .i64 (N : Int), .slice A l.length c] 24) := ⟨_, rfl⟩
  have B0 : Below w.heap.size w W := by subst hW; exact (Below.refl _ _).alloc (Nat.le_refl _) _
  have hzw : W.heap.size = w.heap.size + 1 := by subst hW; simp
  have HB0 := Lib.hid B0
  have HX := Lib.hid (show W.heap[w.heap.size]? = some (.cells #[.int .i64 (N : Int), .slice A l.length c] 24 (0, 0)) by subst hW; exact heap_alloc_new _ _)
  have x0 : W.cell? ⟨w.heap.size, 0, none⟩ = some (.int .i64 (N : Int)) := cell_of HX.out rfl
  have x1 : W.cell? ⟨w.heap.size, 1, none⟩ = some (.slice A l.length c) := cell_of HX.out rfl
  have HOWN := Lib.hid (c_own (N : Int) (.slice A l.length c) l W (hL.on B0 (Nat.le_refl _)))
  obtain ⟨l2, hl2⟩ : ∃ l2, l2 = l.take 130 := ⟨_, rfl⟩
  have hl22 : l2.take 130 = l2 := by rw [hl2, List.take_take]; rfl
  rw [← hl2] at HOWN hn
  unfold ntV at HOWN ⊢
  clear B0 hL hl2
  rw [hW] at x0 x1
  go_enter Try.func4, Try.ntmps4
  go_wp2_with (fail)
  rw [← hW]
  clear hW x0 x1
  go_at_call 10
  refine HOWN.out.mono ?_
  rintro e w1 ⟨L2, rfl, hpt, hb⟩
  have h1X := (hb.block _ (by omega)).trans HX.out
  have x0 : w1.cell? ⟨w.heap.size, 0, none⟩ = some (.int .i64 (N : Int)) := cell_of h1X rfl
  have x1 : w1.cell? ⟨w.heap.size, 1, none⟩ = some (.slice A l.length c) := cell_of h1X rfl
  have f0 : w1.frozen? ⟨w.heap.size, 0, none⟩ = false := by simp [World.frozen?, h1X]
  have f1 : w1.frozen? ⟨w.heap.size, 1, none⟩ = false := by simp [World.frozen?, h1X]
  obtain ⟨A4, c4, rfl, -, -⟩ := (hpt w1 (fun _ _ => rfl)).shape
  obtain ⟨V, hV⟩ : ∃ V, V = (w1.setCell ⟨w.heap.size, 0, none⟩ (.int .i64 (N : Int))).setCell ⟨w.heap.size, 1, none⟩ (.slice A4 l2.length c4) := ⟨_, rfl⟩
  have HLV := Lib.hid (show V.heap[w.heap.size]? = some (.cells #[.int .i64 (N : Int), .slice A4 l2.length c4] 24 (0, 0)) by rw [hV]; exact row_set3 (row_set3 h1X _) _)
  have HBV := Lib.hid (show Below w.heap.size w V by rw [hV]; exact ((below_join HB0.out hb HB0.out.size).setCell (by show w.heap.size ≤ w.heap.size; omega) _).setCell (by show w.heap.size ≤ w.heap.size; omega) _)
  have HPV := Lib.hid (hpt V (fun k hk => by rw [hV, Below.heap_setCell _ ⟨w.heap.size, 1, none⟩ _ k (by show k ≠ w.heap.size; omega), Below.heap_setCell _ ⟨w.heap.size, 0, none⟩ _ k (by show k ≠ w.heap.size; omega)]))
  have HOW2 := Lib.hid (c_own (N : Int) (.slice A4 l2.length c4) l2 V HPV.out)
  rw [hl22] at HOW2
  unfold ntV at HOW2
  obtain ⟨y0, y1⟩ : V.cell? ⟨w.heap.size, 0, none⟩ = some (.int .i64 (N : Int)) ∧ V.cell? ⟨w.heap.size, 1, none⟩ = some (.slice A4 l2.length c4) := ⟨cell_of HLV.out rfl, cell_of HLV.out rfl⟩
  rw [hV] at y0 y1
  clear HOWN hpt hb
  go_wp2_with (fail)
  rw [← hV]
  clear hV x0 x1 f0 f1 h1X y0 y1
  go_at_call 10
  refine HOW2.out.mono ?_
  rintro e w2 ⟨L3, rfl, hpt, hb⟩
  obtain ⟨A5, c5, rfl, -, -⟩ := (hpt w2 (fun _ _ => rfl)).shape
  have hL3 := hpt w2 (fun _ _ => rfl)
  obtain ⟨U, hU⟩ : ∃ U, U = w2.alloc (.cells #[.int .i64 (N : Int), .slice A5 l2.length c5] 24) := ⟨_, rfl⟩
  have bU : Below w2.heap.size w2 U := by subst hU; exact (Below.refl _ _).alloc (Nat.le_refl _) _
  have hvs : w.heap.size < V.heap.size := at_lt HLV.out
  have HLU := Lib.hid (show U.heap[w.heap.size]? = some (.cells #[.int .i64 (N : Int), .slice A4 l2.length c4] 24 (0, 0)) from (bU.block _ (by have := hb.size; omega)).trans ((hb.block _ hvs).trans HLV.out))
  have HMU := Lib.hid (show U.heap[w2.heap.size]? = some (.cells #[.int .i64 (N : Int), .slice A5 l2.length c5] 24 (0, 0)) by subst hU; exact heap_alloc_new _ _)
  have HPU := Lib.hid (((HPV.out.on hb (Nat.le_refl _)).on bU (Nat.le_refl _)))
  have HQU := Lib.hid (hL3.on bU (Nat.le_refl _))
  have HBU := Lib.hid (below_join (below_join HBV.out hb HBV.out.size) bU (by have := hb.size; have := HBV.out.size; omega))
  have hz1 := at_lt HLU.out
  have hz2 := at_lt HMU.out
  have HXF := Lib.hid (fun (X : World) (hX : Below U.heap.size U X) => (⟨⟨cell_of ((hX.block _ hz1).trans HLU.out) rfl, cell_of ((hX.block _ hz1).trans HLU.out) rfl⟩, ⟨cell_of ((hX.block _ hz2).trans HMU.out) rfl, cell_of ((hX.block _ hz2).trans HMU.out) rfl⟩, HPU.out.on hX (Nat.le_refl _), HQU.out.on hX (Nat.le_refl _)⟩ : (X.cell? ⟨w.heap.size, 0, none⟩ = some (.int .i64 (N : Int)) ∧ X.cell? ⟨w.heap.size, 1, none⟩ = some (.slice A4 l2.length c4)) ∧ (X.cell? ⟨w2.heap.size, 0, none⟩ = some (.int .i64 (N : Int)) ∧ X.cell? ⟨w2.heap.size, 1, none⟩ = some (.slice A5 l2.length c5)) ∧ PtSl X (.slice A4 l2.length c4) l2 ∧ PtSl X (.slice A5 l2.length c5) l2))
  have HEQ := Lib.hid (fun (X : World) (h1 : PtSl X (.slice A4 l2.length c4) l2) (h2 : PtSl X (.slice A5 l2.length c5) l2) => c_eqArcs l2 l2 true (decide_eq_true rfl) _ _ X h1 h2)
  have HWK := Lib.hid (fun (X : World) => c_works X)
  clear HOW2 hpt hb bU hL3 hvs hz1 hz2
  obtain ⟨⟨x0, x1⟩, ⟨y0, y1⟩, p0, q0⟩ := HXF.out U (Below.refl _ _)
  have HM1 := Lib.hid (fun (X : World) (hX : PtSl X (.slice A4 l2.length c4) l2) => c_Max0 N s t _ l2 hs ht hst X hX hn)
  have HM2 := Lib.hid (fun (X : World) (hX : PtSl X (.slice A5 l2.length c5) l2) => d_Max0 N s t _ l2 hs ht hst X hX hn)
  have HCK := Lib.hid (fun (lf : List Ar) (v : Int) (h : Best N s t l2 lf v) (F : Value) (X : World) (hX : PtSl X (.slice A5 l2.length c5) l2) (hF : IntSl X F (xsOf lf)) => d_Check (N : Int) _ F l2 (s : Int) (t : Int) (xsOf lf) X hX hF v 0 (chk_best h hn hs ht hst))
  have HS_ := Lib.hid hs
  unfold ntV at HM1 HM2 HCK
  clear hn hst
  rw [hU] at x0 x1 y0 y1
  go_wp2_with (fail)
  rw [← hU]
  clear hU x0 x1 y0 y1
  go_at_call 19
  refine (HM1.out U p0).mono ?_
  rintro e v1 ⟨lf, val, F, rfl, hbest, hown, hb⟩
  clear p0 q0
  have HBE := Lib.hid hbest
  have HF1 := Lib.hid (show IntSl v1 F (xsOf lf) from own_intSl (by have h := hown; simpa [xsOf] using h))
  have HBv1 := Lib.hid (show Below U.heap.size U v1 from hb)
  obtain ⟨⟨x0, x1⟩, ⟨y0, y1⟩, p0, q0⟩ := HXF.out v1 HBv1.out
  clear hb hbest hown
  go_wp2_with (fail)
  clear x0 x1 y0 y1
  go_at_call 20
  refine (HM2.out v1 q0).mono ?_
  rintro e v2 ⟨lf2, val2, F2, rfl, hbest, hF2, hb⟩
  clear p0 q0
  have hvv : val2 = val := hbest.uniq HBE.out HS_.out
  subst hvv
  have HF2 := Lib.hid (HF1.out.on hb (Nat.le_refl _))
  have hvv : (val2 != val2) = false := by simp
  have hve : (val2 == val2) = true := by simp
  have HBv2 := Lib.hid (below_join HBv1.out hb HBv1.out.size)
  obtain ⟨⟨x0, x1⟩, ⟨y0, y1⟩, p0, q0⟩ := HXF.out v2 HBv2.out
  clear hb hbest hF2
  go_wp2_with (fail)
  clear x0 x1 y0 y1
  go_at_call 21
  refine (HEQ.out v2 p0 q0).mono ?_
  rintro e v3 ⟨rfl, nn, hv3⟩
  have HF3 := Lib.hid (show IntSl v3 F (xsOf lf) from HF2.out.on (B := v2.heap.size) (by rw [hv3]; exact below_drewN (Below.refl _ _)) (Nat.le_refl _))
  clear p0 q0
  have HBv3 := Lib.hid (show Below U.heap.size U v3 by rw [hv3]; exact below_drewN HBv2.out)
  obtain ⟨⟨x0, x1⟩, ⟨y0, y1⟩, p0, q0⟩ := HXF.out v3 HBv3.out
  clear hv3
  have HCK3 := Lib.hid (HCK.out lf val2 HBE.out F v3 q0 HF3.out)
  go_wp2_with (fail)
  clear x0 x1 y0 y1 p0 q0
  go_at_call 13
  refine HCK3.out.mono ?_
  rintro e v4 ⟨rfl, hb⟩
  have HB4 := Lib.hid (below_join HBv3.out hb HBv3.out.size)
  clear hb
  go_wp2_with (fail)
  go_at_call 18
  refine (HWK.out v4).mono ?_
  rintro e v5 ⟨rfl, hb⟩
  have HB5 := Lib.hid (below_join HBU.out (below_join HB4.out hb HB4.out.size) HBU.out.size)
  clear hb
  go_wp2_with (fail)
  go_ret
  exact ⟨rfl, HB5.out⟩
/-- A net and two nodes without a fault, as numbers. -/
theorem asked_nat {N : Int} {l : List (Int × Int × Int)} {s t : Int} (h : nfault N l s t = 0) : ∃ k a b : Nat, N = (k : Int) ∧ s = (a : Int) ∧ t = (b : Int) ∧ ntOk (k : Int) l = true ∧ a < k ∧ b < k ∧ a ≠ b := by
  unfold nfault at h
  split at h
  · rename_i hok
    split at h
    · rename_i hnd
      simp only [Bool.and_eq_true, Bool.not_eq_true', ndOk_iff, beq_eq_false_iff_ne] at hnd
      obtain ⟨⟨s0, s1⟩, ⟨t0, t1⟩, hst⟩ := hnd
      refine ⟨N.toNat, s.toNat, t.toNat, by omega, by omega, by omega, ?_, by omega, by omega, by omega⟩
      rw [show ((N.toNat : Nat) : Int) = N by omega]
      exact hok
    · cases h
  · cases h
theorem row_FlowMaxes (w : World) (N : Int) (L : Value) (l : List (Int × Int × Int)) (hL : PtSl w L l) (s t : Int) :
    Calls Try.prog 4 #[ntV N L, .int .i64 s, .int .i64 t] w fun e w' => e = .returned (.bool true) ∧ Below w.heap.size w w' := by
  by_cases h : nfault N (l.take 130) s t = 0
  · obtain ⟨k, a, b, rfl, rfl, rfl, hok, ha, hb, hab⟩ := asked_nat h
    exact row_FlowMaxes0 w k a b L l hL hok ha hb hab
  · exact row_FlowMaxesE w N s t L l hL h
end Go.Proofs.Ytglpaihadongkaa
