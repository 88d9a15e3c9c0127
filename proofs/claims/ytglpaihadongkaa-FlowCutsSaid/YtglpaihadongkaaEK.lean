/-
  DERIVED. The law FlowCuts (stage 5; written by gen/flow_EK.py).
-/
import Derived.Test.YtglpaihadongkaaYEIm
set_option linter.unusedVariables false
set_option linter.unusedSimpArgs false
namespace Go.Proofs.Ytglpaihadongkaa
open Go.RowKit Go.Shelf
set_option maxRecDepth 100000
set_option linter.unusedSimpArgs false
set_option linter.unusedVariables false

theorem intSl_nil (X : World) : IntSl X (.slice none 0 0) [] := own_intSl (base := 0) (l := []) (World.ownsRow_nil _ _ _ _)
theorem Best.reach {N s t : Nat} {L : List (Int × Int × Int)} {lf lf' : List Ar} {v v' : Int} (h : Best N s t L lf v) (k : Best N s t L lf' v') (hs : s < N) : (List.range N).filter (reachB lf s) = (List.range N).filter (reachB lf' s) :=
  List.filter_congr fun n hn => by rw [Bool.eq_iff_iff, reachB_iff, reachB_iff]; exact (h.gr.uniq k.gr hs).2 n

set_option maxHeartbeats 16000000 in
theorem row_FlowCutsE (w : World) (N s t : Int) (L : Value) (l : List (Int × Int × Int)) (hL : PtSl w L l) (hn : nfault N (l.take 130) s t ≠ 0) :
    Calls Try.prog 5 #[ntV N L, .int .i64 s, .int .i64 t] w fun e w' => e = .returned (.bool true) ∧ Below w.heap.size w w' := by
  obtain ⟨A, c, rfl, hc1, hc2⟩ := hL.shape
  unfold maxLen at hc2
  obtain ⟨W, hW⟩ : ∃ W, W = w.alloc (.cells #[.int .i64 N, .slice A l.length c] 24) := ⟨_, rfl⟩
  have B0 : Below w.heap.size w W := by subst hW; exact (Below.refl _ _).alloc (Nat.le_refl _) _
  have hzw : W.heap.size = w.heap.size + 1 := by subst hW; simp
  have HB0 := Lib.hid B0
  have HX := Lib.hid (show W.heap[w.heap.size]? = some (.cells #[.int .i64 N, .slice A l.length c] 24 (0, 0)) by subst hW; exact heap_alloc_new _ _)
  have x0 : W.cell? ⟨w.heap.size, 0, none⟩ = some (.int .i64 N) := cell_of HX.out rfl
  have x1 : W.cell? ⟨w.heap.size, 1, none⟩ = some (.slice A l.length c) := cell_of HX.out rfl
  have HOWN := Lib.hid (c_own N (.slice A l.length c) l W (hL.on B0 (Nat.le_refl _)))
  obtain ⟨l2, hl2⟩ : ∃ l2, l2 = l.take 130 := ⟨_, rfl⟩
  rw [← hl2] at HOWN hn
  have HL2 := Lib.hid (show l2.length ≤ 130 by rw [hl2, List.length_take]; omega)
  unfold ntV at HOWN ⊢
  clear B0 hL hl2
  rw [hW] at x0 x1
  go_enter Try.func5, Try.ntmps5
  go_wp2_with (fail)
  rw [← hW]
  clear hW x0 x1
  go_at_call 10
  refine HOWN.out.mono ?_
  rintro e w1 ⟨L2, rfl, hpt, hb⟩
  have h1X := (hb.block _ (by omega)).trans HX.out
  have x0 : w1.cell? ⟨w.heap.size, 0, none⟩ = some (.int .i64 N) := cell_of h1X rfl
  have x1 : w1.cell? ⟨w.heap.size, 1, none⟩ = some (.slice A l.length c) := cell_of h1X rfl
  have f0 : w1.frozen? ⟨w.heap.size, 0, none⟩ = false := by simp [World.frozen?, h1X]
  have f1 : w1.frozen? ⟨w.heap.size, 1, none⟩ = false := by simp [World.frozen?, h1X]
  obtain ⟨A4, c4, rfl, -, -⟩ := (hpt w1 (fun _ _ => rfl)).shape
  obtain ⟨V, hV⟩ : ∃ V, V = (w1.setCell ⟨w.heap.size, 0, none⟩ (.int .i64 N)).setCell ⟨w.heap.size, 1, none⟩ (.slice A4 l2.length c4) := ⟨_, rfl⟩
  have HLV := Lib.hid (show V.heap[w.heap.size]? = some (.cells #[.int .i64 N, .slice A4 l2.length c4] 24 (0, 0)) by rw [hV]; exact row_set3 (row_set3 h1X _) _)
  have HBV := Lib.hid (show Below w.heap.size w V by rw [hV]; exact ((below_join HB0.out hb HB0.out.size).setCell (by show w.heap.size ≤ w.heap.size; omega) _).setCell (by show w.heap.size ≤ w.heap.size; omega) _)
  have HPV := Lib.hid (hpt V (fun k hk => by rw [hV, Below.heap_setCell _ ⟨w.heap.size, 1, none⟩ _ k (by show k ≠ w.heap.size; omega), Below.heap_setCell _ ⟨w.heap.size, 0, none⟩ _ k (by show k ≠ w.heap.size; omega)]))
  have hz1 := at_lt HLV.out
  have HXF := Lib.hid (fun (X : World) (hX : Below V.heap.size V X) => (⟨⟨cell_of ((hX.block _ hz1).trans HLV.out) rfl, cell_of ((hX.block _ hz1).trans HLV.out) rfl⟩, HPV.out.on hX (Nat.le_refl _)⟩ : (X.cell? ⟨w.heap.size, 0, none⟩ = some (.int .i64 N) ∧ X.cell? ⟨w.heap.size, 1, none⟩ = some (.slice A4 l2.length c4)) ∧ PtSl X (.slice A4 l2.length c4) l2))
  have HWK := Lib.hid (fun (X : World) => c_works X)
  have HEQ := Lib.hid (fun (xs : List Int) (v u : Value) (X : World) (h1 : IntSl X v xs) (h2 : IntSl X u xs) => c_eqInts xs xs true (decide_eq_true rfl) v u X h1 h2)
  obtain ⟨⟨y0, y1⟩, p0⟩ := HXF.out V (Below.refl _ _)
  rw [hV] at y0 y1
  clear HOWN hpt hb hz1
  obtain ⟨r, hr⟩ : ∃ r, nfault N l2 s t = r := ⟨_, rfl⟩
  rw [hr] at hn
  have HC1 := Lib.hid (fun (X : World) (hX : PtSl X (.slice A4 l2.length c4) l2) => c_CutE N _ l2 s t X hX r hr hn)
  have HC2 := Lib.hid (fun (X : World) (hX : PtSl X (.slice A4 l2.length c4) l2) => d_CutE N _ l2 s t X hX r hr hn)
  have HD1 := Lib.hid (fun (X : World) (hX : PtSl X (.slice A4 l2.length c4) l2) => c_CriticalE N _ l2 s t X hX r hr hn)
  have HD2 := Lib.hid (fun (X : World) (hX : PtSl X (.slice A4 l2.length c4) l2) => d_CriticalE N _ l2 s t X hX r hr hn)
  have HV := Lib.hid (fun (q : Bool) (hq : ntOk N l2 = q) (X : World) (hX : PtSl X (.slice A4 l2.length c4) l2) => d_Valid N _ l2 X hX q hq)
  have hrr : (r != r) = false := by simp
  have hre : (r == r) = true := by simp
  unfold ntV at HC1 HC2 HD1 HD2 HV
  clear hr hn
  go_wp2_with (fail)
  rw [← hV]
  clear hV x0 x1 f0 f1 h1X y0 y1
  go_at_call 22
  refine (HC1.out V p0).mono ?_
  rintro e v1 ⟨rfl, hb⟩
  have HBv1 := Lib.hid (show Below V.heap.size V v1 from hb)
  clear p0
  obtain ⟨⟨x0, x1⟩, p0⟩ := HXF.out v1 HBv1.out
  go_wp2_with (fail)
  clear x0 x1 hb
  go_at_call 23
  refine (HC2.out v1 p0).mono ?_
  rintro e v2 ⟨rfl, hb⟩
  have HBv2 := Lib.hid (below_join HBv1.out hb HBv1.out.size)
  clear p0
  obtain ⟨⟨x0, x1⟩, p0⟩ := HXF.out v2 HBv2.out
  go_wp2_with (fail)
  clear x0 x1 hb p0
  have HN2 := Lib.hid (HEQ.out [] _ _ v2 (intSl_nil v2) (intSl_nil v2))
  go_at_call 24
  refine (HN2.out).mono ?_
  rintro e v3 ⟨rfl, nn2, hv3⟩
  have HBv3 := Lib.hid (show Below V.heap.size V v3 by rw [hv3]; exact below_drewN HBv2.out)
  clear hv3
  obtain ⟨⟨x0, x1⟩, p0⟩ := HXF.out v3 HBv3.out
  go_wp2_with (fail)
  clear x0 x1
  obtain ⟨q, hq⟩ : ∃ q, ntOk N l2 = q := ⟨_, rfl⟩
  go_at_call 17
  refine (HV.out q hq v3 p0).mono ?_
  rintro e v4 ⟨rfl, hb⟩
  have HBv4 := Lib.hid (below_join HBv3.out hb HBv3.out.size)
  clear p0 hb hq
  obtain ⟨⟨x0, x1⟩, p0⟩ := HXF.out v4 HBv4.out
  cases q
  · go_wp2_with (fail)
    clear x0 x1
    go_at_call 25
    refine (HD1.out v4 p0).mono ?_
    rintro e v5 ⟨rfl, hb⟩
    have HBv5 := Lib.hid (below_join HBv4.out hb HBv4.out.size)
    obtain ⟨⟨x0, x1⟩, p0⟩ := HXF.out v5 HBv5.out
    go_wp2_with (fail)
    clear x0 x1 hb
    go_at_call 26
    refine (HD2.out v5 p0).mono ?_
    rintro e v6 ⟨rfl, hb⟩
    have HBv6 := Lib.hid (below_join HBv5.out hb HBv5.out.size)
    obtain ⟨⟨x0, x1⟩, p0⟩ := HXF.out v6 HBv6.out
    go_wp2_with (fail)
    clear x0 x1 hb p0
    have HN6 := Lib.hid (HEQ.out [] _ _ v6 (intSl_nil v6) (intSl_nil v6))
    go_at_call 24
    refine (HN6.out).mono ?_
    rintro e v7 ⟨rfl, nn6, hv7⟩
    have HBv7 := Lib.hid (show Below V.heap.size V v7 by rw [hv7]; exact below_drewN HBv6.out)
    clear hv7
    go_wp2_with (fail)
    go_at_call 18
    refine (HWK.out v7).mono ?_
    rintro e z9 ⟨rfl, hb⟩
    have HB9 := Lib.hid (below_join HBV.out (below_join HBv7.out hb HBv7.out.size) HBV.out.size)
    clear hb
    go_wp2_with (fail)
    go_ret
    exact ⟨rfl, HB9.out⟩
  · rcases q1 : decide ((30 : Int) < (l2.length : Int)) with _ | _
    · rcases q2 : decide ((12 : Int) < N) with _ | _
      · go_wp2_with (fail)
        clear x0 x1 q1 q2
        go_at_call 25
        refine (HD1.out v4 p0).mono ?_
        rintro e v5 ⟨rfl, hb⟩
        have HBv5 := Lib.hid (below_join HBv4.out hb HBv4.out.size)
        obtain ⟨⟨x0, x1⟩, p0⟩ := HXF.out v5 HBv5.out
        go_wp2_with (fail)
        clear x0 x1 hb
        go_at_call 26
        refine (HD2.out v5 p0).mono ?_
        rintro e v6 ⟨rfl, hb⟩
        have HBv6 := Lib.hid (below_join HBv5.out hb HBv5.out.size)
        obtain ⟨⟨x0, x1⟩, p0⟩ := HXF.out v6 HBv6.out
        go_wp2_with (fail)
        clear x0 x1 hb p0
        have HN6 := Lib.hid (HEQ.out [] _ _ v6 (intSl_nil v6) (intSl_nil v6))
        go_at_call 24
        refine (HN6.out).mono ?_
        rintro e v7 ⟨rfl, nn6, hv7⟩
        have HBv7 := Lib.hid (show Below V.heap.size V v7 by rw [hv7]; exact below_drewN HBv6.out)
        clear hv7
        go_wp2_with (fail)
        go_at_call 18
        refine (HWK.out v7).mono ?_
        rintro e z9 ⟨rfl, hb⟩
        have HB9 := Lib.hid (below_join HBV.out (below_join HBv7.out hb HBv7.out.size) HBV.out.size)
        clear hb
        go_wp2_with (fail)
        go_ret
        exact ⟨rfl, HB9.out⟩
      · go_wp2_with (fail)
        clear x0 x1 q1 q2
        go_at_call 18
        refine (HWK.out v4).mono ?_
        rintro e z9 ⟨rfl, hb⟩
        have HB9 := Lib.hid (below_join HBV.out (below_join HBv4.out hb HBv4.out.size) HBV.out.size)
        clear hb
        go_wp2_with (fail)
        go_ret
        exact ⟨rfl, HB9.out⟩
    · go_wp2_with (fail)
      clear x0 x1 q1
      go_at_call 18
      refine (HWK.out v4).mono ?_
      rintro e z9 ⟨rfl, hb⟩
      have HB9 := Lib.hid (below_join HBV.out (below_join HBv4.out hb HBv4.out.size) HBV.out.size)
      clear hb
      go_wp2_with (fail)
      go_ret
      exact ⟨rfl, HB9.out⟩
set_option maxHeartbeats 16000000 in
theorem row_FlowCuts0 (w : World) (N s t : Nat) (L : Value) (l : List (Int × Int × Int)) (hL : PtSl w L l) (hn : ntOk (N : Int) (l.take 130) = true) (hs : s < N) (ht : t < N) (hst : s ≠ t) :
    Calls Try.prog 5 #[ntV (N : Int) L, .int .i64 (s : Int), .int .i64 (t : Int)] w fun e w' => e = .returned (.bool true) ∧ Below w.heap.size w w' := by
  obtain ⟨A, c, rfl, hc1, hc2⟩ := hL.shape
  unfold maxLen at hc2
  obtain ⟨W, hW⟩ : ∃ W, W = w.alloc (.cells #[.int .i64 (N : Int), .slice A l.length c] 24) := ⟨_, rfl⟩
  have B0 : Below w.heap.size w W := by subst hW; exact (Below.refl _ _).alloc (Nat.le_refl _) _
  have hzw : W.heap.size = w.heap.size + 1 := by subst hW; simp
  have HB0 := Lib.hid B0
  have HX := Lib.hid (show W.heap[w.heap.size]? = some (.cells #[.int .i64 (N : Int), .slice A l.length c] 24 (0, 0)) by subst hW; exact heap_alloc_new _ _)
  have x0 : W.cell? ⟨w.heap.size, 0, none⟩ = some (.int .i64 (N : Int)) := cell_of HX.out rfl
  have x1 : W.cell? ⟨w.heap.size, 1, none⟩ = some (.slice A l.length c) := cell_of HX.out rfl
  have HOWN := Lib.hid (c_own (N : Int) (.slice A l.length c) l W (hL.on B0 (Nat.le_refl _)))
  obtain ⟨l2, hl2⟩ : ∃ l2, l2 = l.take 130 := ⟨_, rfl⟩
  rw [← hl2] at HOWN hn
  have HL2 := Lib.hid (show l2.length ≤ 130 by rw [hl2, List.length_take]; omega)
  unfold ntV at HOWN ⊢
  clear B0 hL hl2
  rw [hW] at x0 x1
  go_enter Try.func5, Try.ntmps5
  go_wp2_with (fail)
  rw [← hW]
  clear hW x0 x1
  go_at_call 10
  refine HOWN.out.mono ?_
  rintro e w1 ⟨L2, rfl, hpt, hb⟩
  have h1X := (hb.block _ (by omega)).trans HX.out
  have x0 : w1.cell? ⟨w.heap.size, 0, none⟩ = some (.int .i64 (N : Int)) := cell_of h1X rfl
  have x1 : w1.cell? ⟨w.heap.size, 1, none⟩ = some (.slice A l.length c) := cell_of h1X rfl
  have f0 : w1.frozen? ⟨w.heap.size, 0, none⟩ = false := by simp [World.frozen?, h1X]
  have f1 : w1.frozen? ⟨w.heap.size, 1, none⟩ = false := by simp [World.frozen?, h1X]
  obtain ⟨A4, c4, rfl, -, -⟩ := (hpt w1 (fun _ _ => rfl)).shape
  obtain ⟨V, hV⟩ : ∃ V, V = (w1.setCell ⟨w.heap.size, 0, none⟩ (.int .i64 (N : Int))).setCell ⟨w.heap.size, 1, none⟩ (.slice A4 l2.length c4) := ⟨_, rfl⟩
  have HLV := Lib.hid (show V.heap[w.heap.size]? = some (.cells #[.int .i64 (N : Int), .slice A4 l2.length c4] 24 (0, 0)) by rw [hV]; exact row_set3 (row_set3 h1X _) _)
  have HBV := Lib.hid (show Below w.heap.size w V by rw [hV]; exact ((below_join HB0.out hb HB0.out.size).setCell (by show w.heap.size ≤ w.heap.size; omega) _).setCell (by show w.heap.size ≤ w.heap.size; omega) _)
  have HPV := Lib.hid (hpt V (fun k hk => by rw [hV, Below.heap_setCell _ ⟨w.heap.size, 1, none⟩ _ k (by show k ≠ w.heap.size; omega), Below.heap_setCell _ ⟨w.heap.size, 0, none⟩ _ k (by show k ≠ w.heap.size; omega)]))
  have hz1 := at_lt HLV.out
  have HXF := Lib.hid (fun (X : World) (hX : Below V.heap.size V X) => (⟨⟨cell_of ((hX.block _ hz1).trans HLV.out) rfl, cell_of ((hX.block _ hz1).trans HLV.out) rfl⟩, HPV.out.on hX (Nat.le_refl _)⟩ : (X.cell? ⟨w.heap.size, 0, none⟩ = some (.int .i64 (N : Int)) ∧ X.cell? ⟨w.heap.size, 1, none⟩ = some (.slice A4 l2.length c4)) ∧ PtSl X (.slice A4 l2.length c4) l2))
  have HWK := Lib.hid (fun (X : World) => c_works X)
  have HEQ := Lib.hid (fun (xs : List Int) (v u : Value) (X : World) (h1 : IntSl X v xs) (h2 : IntSl X u xs) => c_eqInts xs xs true (decide_eq_true rfl) v u X h1 h2)
  obtain ⟨⟨y0, y1⟩, p0⟩ := HXF.out V (Below.refl _ _)
  rw [hV] at y0 y1
  clear HOWN hpt hb hz1
  have HC1 := Lib.hid (fun (X : World) (hX : PtSl X (.slice A4 l2.length c4) l2) => c_Cut0 N s t _ l2 hs ht hst X hX hn)
  have HC2 := Lib.hid (fun (X : World) (hX : PtSl X (.slice A4 l2.length c4) l2) => d_Cut0 N s t _ l2 hs ht hst X hX hn)
  have HD1 := Lib.hid (fun (X : World) (hX : PtSl X (.slice A4 l2.length c4) l2) => c_Critical0 N s t _ l2 hs ht hst X hX hn)
  have HD2 := Lib.hid (fun (X : World) (hX : PtSl X (.slice A4 l2.length c4) l2) => d_Critical0 N s t _ l2 hs ht hst X hX hn)
  have HV := Lib.hid (fun (X : World) (hX : PtSl X (.slice A4 l2.length c4) l2) => d_Valid (N : Int) _ l2 X hX true hn)
  have HS_ := Lib.hid hs
  unfold ntV at HC1 HC2 HD1 HD2 HV
  clear hn hst
  go_wp2_with (fail)
  rw [← hV]
  clear hV x0 x1 f0 f1 h1X y0 y1
  go_at_call 22
  refine (HC1.out V p0).mono ?_
  rintro e v1 ⟨lf, val, F, xs, rfl, hbest, hxs, hown, hb⟩
  have HBv1 := Lib.hid (show Below V.heap.size V v1 from hb)
  clear p0; have HBE := Lib.hid hbest; have HXS := Lib.hid hxs; have HF1 := Lib.hid (own_intSl (l := nats xs) (by rw [nats_len]; exact hown))
  obtain ⟨⟨x0, x1⟩, p0⟩ := HXF.out v1 HBv1.out
  go_wp2_with (fail)
  clear x0 x1 hb hbest hxs hown
  go_at_call 23
  refine (HC2.out v1 p0).mono ?_
  rintro e v2 ⟨lf2, val2, F2, xs2, rfl, hbest, hxs, hown, hb⟩
  have HBv2 := Lib.hid (below_join HBv1.out hb HBv1.out.size)
  clear p0; have HXX := Lib.hid (show xs2 = xs by rw [hxs, HXS.out]; exact hbest.reach HBE.out HS_.out); have HF2 := Lib.hid (show IntSl v2 F2 (nats xs) from (by have h := own_intSl (l := nats xs2) (by rw [nats_len]; exact hown); rw [HXX.out] at h; exact h)); have HF12 := Lib.hid (HF1.out.on hb (Nat.le_refl _))
  obtain ⟨⟨x0, x1⟩, p0⟩ := HXF.out v2 HBv2.out
  go_wp2_with (fail)
  clear x0 x1 hb p0 hbest hxs hown
  have HN2 := Lib.hid (HEQ.out (nats xs) F F2 v2 HF12.out HF2.out)
  go_at_call 24
  refine (HN2.out).mono ?_
  rintro e v3 ⟨rfl, nn2, hv3⟩
  have HBv3 := Lib.hid (show Below V.heap.size V v3 by rw [hv3]; exact below_drewN HBv2.out)
  clear hv3
  obtain ⟨⟨x0, x1⟩, p0⟩ := HXF.out v3 HBv3.out
  go_wp2_with (fail)
  clear x0 x1
  go_at_call 17
  refine (HV.out v3 p0).mono ?_
  rintro e v4 ⟨rfl, hb⟩
  have HBv4 := Lib.hid (below_join HBv3.out hb HBv3.out.size)
  clear p0 hb
  obtain ⟨⟨x0, x1⟩, p0⟩ := HXF.out v4 HBv4.out
  rcases q1 : decide ((30 : Int) < (l2.length : Int)) with _ | _
  · rcases q2 : decide ((12 : Int) < (N : Int)) with _ | _
    · go_wp2_with (fail)
      clear x0 x1 q1 q2
      go_at_call 25
      refine (HD1.out v4 p0).mono ?_
      rintro e v5 ⟨lf3, val3, F3, xs3, rfl, hbest, hxs, hown, hb⟩
      have HBv5 := Lib.hid (below_join HBv4.out hb HBv4.out.size)
      clear p0; have HBE3 := Lib.hid hbest; have HXS3 := Lib.hid hxs; have HF3 := Lib.hid (own_intSl (l := nats xs3) (by rw [nats_len]; exact hown))
      obtain ⟨⟨x0, x1⟩, p0⟩ := HXF.out v5 HBv5.out
      go_wp2_with (fail)
      clear x0 x1 hb hbest hxs hown
      go_at_call 26
      refine (HD2.out v5 p0).mono ?_
      rintro e v6 ⟨lf4, val4, F4, xs4, rfl, hbest, hxs, hown, hb⟩
      have HBv6 := Lib.hid (below_join HBv5.out hb HBv5.out.size)
      clear p0; have HXX4 := Lib.hid (show xs4 = xs3 by rw [hxs, HXS3.out, hbest.uniq HBE3.out HS_.out]); have HF4 := Lib.hid (show IntSl v6 F4 (nats xs3) from (by have h := own_intSl (l := nats xs4) (by rw [nats_len]; exact hown); rw [HXX4.out] at h; exact h)); have HF34 := Lib.hid (HF3.out.on hb (Nat.le_refl _))
      obtain ⟨⟨x0, x1⟩, p0⟩ := HXF.out v6 HBv6.out
      go_wp2_with (fail)
      clear x0 x1 hb p0 hbest hxs hown
      have HN6 := Lib.hid (HEQ.out (nats xs3) F3 F4 v6 HF34.out HF4.out)
      go_at_call 24
      refine (HN6.out).mono ?_
      rintro e v7 ⟨rfl, nn6, hv7⟩
      have HBv7 := Lib.hid (show Below V.heap.size V v7 by rw [hv7]; exact below_drewN HBv6.out)
      clear hv7
      go_wp2_with (fail)
      go_at_call 18
      refine (HWK.out v7).mono ?_
      rintro e z9 ⟨rfl, hb⟩
      have HB9 := Lib.hid (below_join HBV.out (below_join HBv7.out hb HBv7.out.size) HBV.out.size)
      clear hb
      go_wp2_with (fail)
      go_ret
      exact ⟨rfl, HB9.out⟩
    · go_wp2_with (fail)
      clear x0 x1 q1 q2
      go_at_call 18
      refine (HWK.out v4).mono ?_
      rintro e z9 ⟨rfl, hb⟩
      have HB9 := Lib.hid (below_join HBV.out (below_join HBv4.out hb HBv4.out.size) HBV.out.size)
      clear hb
      go_wp2_with (fail)
      go_ret
      exact ⟨rfl, HB9.out⟩
  · go_wp2_with (fail)
    clear x0 x1 q1
    go_at_call 18
    refine (HWK.out v4).mono ?_
    rintro e z9 ⟨rfl, hb⟩
    have HB9 := Lib.hid (below_join HBV.out (below_join HBv4.out hb HBv4.out.size) HBV.out.size)
    clear hb
    go_wp2_with (fail)
    go_ret
    exact ⟨rfl, HB9.out⟩
theorem row_FlowCuts (w : World) (N : Int) (L : Value) (l : List (Int × Int × Int)) (hL : PtSl w L l) (s t : Int) :
    Calls Try.prog 5 #[ntV N L, .int .i64 s, .int .i64 t] w fun e w' => e = .returned (.bool true) ∧ Below w.heap.size w w' := by
  by_cases h : nfault N (l.take 130) s t = 0
  · obtain ⟨k, a, b, rfl, rfl, rfl, hok, ha, hb, hab⟩ := asked_nat h
    exact row_FlowCuts0 w k a b L l hL hok ha hb hab
  · exact row_FlowCutsE w N s t L l hL h
end Go.Proofs.Ytglpaihadongkaa
