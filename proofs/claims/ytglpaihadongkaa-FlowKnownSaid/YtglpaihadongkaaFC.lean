/-
  DERIVED. The law FlowKnown (stage 5; written by gen/flow_FC.py).
-/
import Derived.Test.YtglpaihadongkaaFB
namespace Go.Proofs.Ytglpaihadongkaa
open Go.RowKit Go.Shelf
set_option maxRecDepth 100000
set_option linter.unusedSimpArgs false
set_option linter.unusedVariables false

def bigK (K : Nat) : List (Int × Int × Int) := (List.range K).flatMap fun (k : Nat) => [((k : Int), (k : Int) + 1, 100000000), ((k : Int), (k : Int) + 1, 100000000 - (k : Int))]
theorem cellsA_bigK (k : Nat) : cellsA (bigK (k + 1)) = cellsA (bigK k) ++ [.int .i64 (k : Int), .int .i64 ((k : Int) + 1), .int .i64 100000000, .int .i64 (k : Int), .int .i64 ((k : Int) + 1), .int .i64 (100000000 - (k : Int))] := by
  unfold bigK
  rw [List.range_succ, List.flatMap_append]
  unfold cellsA
  rw [List.flatMap_append]
  rfl
/-- The greatest net while it is made. -/
structure BigS (X : World) (bx k : Nat) (v : Value) : Prop where
  box : X.heap[bx]? = some (.cells #[.int .i64 64, v] 24 (0, 0))
  own : X.ownsRow (bx + 1) 39 3 v (k * 2) (cellsA (bigK k))
theorem smp_gr2 : Gr 4 (ends (arsOf smpL)) 3 0 (zipX smpL [0, 0, 0, 0, 0]) 0 := gr_of (xs := [0, 0, 0, 0, 0]) (by decide +kernel) (by decide) (fun n => n == 3) rfl rfl (by decide +kernel)
theorem smp_val2 {lf : List Ar} {val : Int} (h : Gr 4 (ends (arsOf smpL)) 3 0 lf val) : val = 0 := (h.uniq smp_gr2 (by decide)).1
theorem smp_cut2 {lf : List Ar} {val : Int} (h : Gr 4 (ends (arsOf smpL)) 3 0 lf val) : (List.range 4).filter (reachB lf 3) = [3] := by
  have hv := smp_val2 h
  have hc := (h.cut (by decide)).2.2 (fun n => n == 3) rfl rfl (by rw [capS_ends h.net, hv]; decide +kernel)
  have e : ∀ n, reachB lf 3 n = (n == 3) := fun n => by
    rw [Bool.eq_iff_iff, reachB_iff]
    exact ⟨fun hr => hc n hr, fun hn => by rw [beq_iff_eq.1 hn]; exact Reach.here⟩
  rw [List.filter_congr (fun n _ => e n)]
  rfl
set_option maxHeartbeats 64000000 in
theorem row_FlowKnown (w : World) :
    Calls Try.prog 9 #[] w fun e w' => e = .returned (.bool true) ∧ Below w.heap.size w w' := by
  have HS := Lib.hid (c_sample w)
  have HWK := Lib.hid (fun (X : World) => c_works X)
  obtain ⟨ia, hia, hza0, hza1, hza2⟩ := info_parts arc_info
  go_enter Try.func9, Try.ntmps9
  go_wp2_with (fail)
  go_at_call 30
  refine HS.out.mono ?_
  rintro e w1 ⟨P, rfl, hP, b1⟩
  have HP1 := Lib.hid hP
  obtain ⟨A, c, hPe, -, -⟩ := hP.shape
  obtain rfl : P = .slice A 5 c := hPe
  have HB1 := Lib.hid b1
  unfold ntV
  clear hP b1
  obtain ⟨V, hV⟩ : ∃ V, V = w1.alloc (.cells #[.int .i64 4, .slice A 5 c] 24) := ⟨_, rfl⟩
  have BV : Below w1.heap.size w1 V := by subst hV; exact (Below.refl _ _).alloc (Nat.le_refl _) _
  have HBV := Lib.hid (below_join HB1.out BV HB1.out.size)
  have HLV := Lib.hid (show V.heap[w1.heap.size]? = some (.cells #[.int .i64 4, .slice A 5 c] 24 (0, 0)) by subst hV; exact heap_alloc_new _ _)
  have HPV := Lib.hid (HP1.out.on BV (Nat.le_refl _))
  have hzV := at_lt HLV.out
  have HX := Lib.hid (fun (X : World) (hX : Below V.heap.size V X) => (⟨⟨cell_of ((hX.block _ hzV).trans HLV.out) rfl, cell_of ((hX.block _ hzV).trans HLV.out) rfl⟩, HPV.out.on hX (Nat.le_refl _)⟩ : (X.cell? ⟨w1.heap.size, 0, none⟩ = some (.int .i64 4) ∧ X.cell? ⟨w1.heap.size, 1, none⟩ = some (.slice A 5 c)) ∧ PtSl X (.slice A 5 c) smpL))
  have HVS := Lib.hid (show V.heap.size = w1.heap.size + 1 by rw [hV]; simp)
  clear BV
  go_wp2_with (at_make; rw [← hV]; refine wpList_make_full (P := Try.prog) _ rfl _ _ 22 rfl V.heap.size 39 ia (.agg #[.int .i64 0, .int .i64 0, .int .i64 0]) 3 Try.underlying22 hia hza0 hza1 .i64 .i64 _ _ 129 rfl rfl rfl rfl (by rw [hza2]; decide) (by decide) (Nat.le_refl _) ?_; intro wm hom hgm; have HOM := Lib.hid (own_block3 hom); have HBM := Lib.hid ((Below.refl V.heap.size V).grown hgm (Nat.le_refl _) (fun k hk => by cases hk)); clear hom hgm; rw [made129] at HOM; obtain ⟨Z, hZ⟩ : ∃ Z, Z = ((((wm.alloc (.cells #[.int .i64 0, .int .i64 2, .int .i64 0] 39)).alloc (.cells #[.int .i64 1, .int .i64 1, .int .i64 0] 39)).alloc (.cells #[.int .i64 0, .int .i64 1, .int .i64 (-1)] 39)).alloc (.cells #[.int .i64 0, .int .i64 1, .int .i64 100000001] 39)).alloc (.cells #[.int .i64 0, .slice none 0 0, .int .i64 1, .slice none 0 0, .int .i64 65, .slice none 0 0, .int .i64 2, .slice (some ⟨w1.heap.size + 1, 0, none⟩) 129 129, .int .i64 2, .slice (some ⟨wm.heap.size, 0, none⟩) 1 1, .int .i64 2, .slice (some ⟨wm.heap.size + 1, 0, none⟩) 1 1, .int .i64 2, .slice (some ⟨wm.heap.size + 1 + 1, 0, none⟩) 1 1, .int .i64 2, .slice (some ⟨wm.heap.size + 1 + 1 + 1, 0, none⟩) 1 1] 24) := ⟨_, rfl⟩; have HZE := Lib.hid hZ; clear hZ)
  rw [← HZE.out]
  rw [HVS.out] at HOM
  have hgm : w1.heap.size + 1 < wm.heap.size := at_lt HOM.out
  have HOD := Lib.hid (show OddS Z (w1.heap.size + 1) wm.heap.size (List.replicate 129 (0, 0, 0)) by
    rw [HZE.out]
    exact ⟨by simp, old_heap _ (old_heap _ (old_heap _ (old_heap _ (old_heap _ HOM.out)))), old_heap _ (old_heap _ (old_heap _ (old_heap _ (heap_alloc_new _ _)))), old_heap _ (old_heap _ (old_heap _ (row_new _ _ _ (by simp)))), old_heap _ (old_heap _ (row_new _ _ _ (by simp))), old_heap _ (row_new _ _ _ (by simp)), row_new _ _ _ (by simp)⟩)
  have HBZ := Lib.hid (show Below V.heap.size V Z by rw [HZE.out]; exact (((((HBM.out.alloc HBM.out.size _).alloc (by have := HBM.out.size; simp; omega) _).alloc (by have := HBM.out.size; simp; omega) _).alloc (by have := HBM.out.size; simp; omega) _).alloc (by have := HBM.out.size; simp; omega) _))
  obtain ⟨gA, hgA⟩ : ∃ g, g = w1.heap.size + 1 := ⟨_, rfl⟩
  obtain ⟨m0, hm0⟩ : ∃ m, m = wm.heap.size := ⟨_, rfl⟩
  have hgV : V.heap.size ≤ gA := by have := HVS.out; omega
  rw [← hgA, ← hm0] at HOD hgm
  rw [← hgA, ← hm0]
  clear hgA hm0 hV HZE HOM
  go_loopw [62] (fun i wr => ∃ (k : Nat) (lA : List (Int × Int × Int)), k ≤ 129 ∧ i = .int .i64 (k : Int) ∧ Hid (OddS wr gA m0 lA) ∧ Hid (Below V.heap.size V wr)) (fun i _ => 129 - (intOf i).toNat)
  case atStart => exact ⟨0, _, Nat.zero_le _, rfl, HOD, HBZ⟩
  case round =>
    obtain ⟨k, lA, hk, rfl, hO, hB⟩ := hrel
    obtain ⟨wa, hwa⟩ : ∃ z, z = wr := ⟨_, rfl⟩
    subst hwa
    have hki : ((k : Nat) : Int).toNat = k := by omega
    by_cases hlt : k < 129
    · have hkc : (k : Int) < 129 := by omega
      have c7 : wa.cell? ⟨m0 + 1 + 1 + 1 + 1, 7, none⟩ = some (.slice (some ⟨gA, 0, none⟩) 129 129) := cell_of hO.out.nets rfl
      obtain ⟨p, hp⟩ : ∃ p, lA[k]? = some p := ⟨_, List.getElem?_eq_getElem (by rw [hO.out.len]; exact hlt)⟩
      have d1 : wa.cell? ⟨gA, k * 3 + 1, none⟩ = some (.int .i64 p.2.1) := cell_of hO.out.arcs (by simpa using (cellsA_get lA k p hp).2.1)
      have e1 : wa.frozen? ⟨gA, k * 3 + 1, none⟩ = false := by simp [World.frozen?, hO.out.arcs]
      clear hp
      go_wp2_with (fail)
      go_roundw
      case rel => exact ⟨k + 1, toL lA k, by omega, by go_num, Lib.hid (hO.out.set hgm hlt), Lib.hid (hB.out.setCell (p := ⟨gA, k * 3 + 1, none⟩) hgV _)⟩
      case measure => simp only [intOf]; omega
    · obtain rfl : k = 129 := by omega
      go_wp2_with (fail)
      go_loopw [75] (fun i wr => ∃ (k : Nat), k ≤ 8 ∧ i = .int .i64 (k : Int) ∧ Hid (OddS wr gA m0 lA) ∧ Hid (Below V.heap.size V wr)) (fun i _ => 8 - (intOf i).toNat)
      case atStart => exact ⟨0, Nat.zero_le _, rfl, hO, hB⟩
      case round =>
        obtain ⟨k, hk, rfl, hO2, hB2⟩ := hrel
        obtain ⟨wb, hwb⟩ : ∃ z, z = wr := ⟨_, rfl⟩
        subst hwb
        have hki : ((k : Nat) : Int).toNat = k := by omega
        by_cases hlt : k < 8
        · have hkc : (k : Int) < 8 := by omega
          obtain ⟨N, B, d, L, n0, n1, hpt, hno⟩ := hO2.out.at_ hlt
          have hf1 : nfault N L 0 0 = 1 := by unfold nfault; rw [if_neg (by rw [hno]; decide)]
          have ha1 : acrV N L [-1] = (0, 1) := by unfold acrV; rw [if_neg (by rw [hno]; decide)]
          obtain ⟨Y, hY⟩ : ∃ Y, Y = wb.alloc (.cells #[.int .i64 N, .slice B L.length d] 24) := ⟨_, rfl⟩
          have bY : Below wb.heap.size wb Y := by subst hY; exact (Below.refl _ _).alloc (Nat.le_refl _) _
          have HBY := Lib.hid (below_join hB2.out bY hB2.out.size)
          have HLY := Lib.hid (show Y.heap[wb.heap.size]? = some (.cells #[.int .i64 N, .slice B L.length d] 24 (0, 0)) by subst hY; exact heap_alloc_new _ _)
          have HOY := Lib.hid (hO2.out.on bY (Nat.le_refl _))
          have hzY := at_lt HLY.out
          have HPY := Lib.hid (hpt.on bY (Nat.le_refl _))
          have HXY := Lib.hid (fun (X : World) (hX : Below Y.heap.size Y X) => (⟨⟨cell_of ((hX.block _ hzY).trans HLY.out) rfl, cell_of ((hX.block _ hzY).trans HLY.out) rfl⟩, HPY.out.on hX (Nat.le_refl _)⟩ : (X.cell? ⟨wb.heap.size, 0, none⟩ = some (.int .i64 N) ∧ X.cell? ⟨wb.heap.size, 1, none⟩ = some (.slice B L.length d)) ∧ PtSl X (.slice B L.length d) L))
          have HM := Lib.hid (c_MaxE N (.slice B L.length d) L 0 0 Y HPY.out 1 hf1 (by decide))
          have HA := Lib.hid (fun (S : Value) (X : World) (hX : PtSl X (.slice B L.length d) L) (hS : IntSl X S [-1]) => c_Across N (.slice B L.length d) S L [-1] X hX hS 0 1 ha1)
          have HV := Lib.hid (fun (X : World) (hX : PtSl X (.slice B L.length d) L) => c_Valid N (.slice B L.length d) L X hX false hno)
          obtain ⟨⟨x0, x1⟩, -⟩ := HXY.out Y (Below.refl _ _)
          unfold ntV at HM HA HV
          rw [hY] at x0 x1
          clear hpt hno hf1 ha1 bY hzY
          go_wp2_with (fail)
          rw [← hY]
          clear hY x0 x1 n0 n1
          go_at_call 19
          refine HM.out.mono ?_
          rintro e y1 ⟨rfl, hb⟩
          have HBy1 := Lib.hid hb
          obtain ⟨Y1, hY1⟩ : ∃ Y1, Y1 = y1.alloc (.cells #[.int .i64 (-1)] 3) := ⟨_, rfl⟩
          have bY1 : Below y1.heap.size y1 Y1 := by subst hY1; exact (Below.refl _ _).alloc (Nat.le_refl _) _
          have HBY1 := Lib.hid (below_join HBy1.out bY1 HBy1.out.size)
          have HSY1 := Lib.hid (show IntSl Y1 (.slice (some ⟨y1.heap.size, 0, none⟩) 1 1) [-1] by subst hY1; exact intSl_lit [-1] (heap_alloc_new _ _) rfl (by decide) (by decide))
          obtain ⟨⟨x0, x1⟩, -⟩ := HXY.out y1 HBy1.out
          have p0 := (HXY.out Y1 HBY1.out).2
          clear hb bY1
          go_wp2_with (fail)
          rw [← hY1]
          clear hY1 x0 x1
          go_at_call 14
          refine (HA.out _ Y1 p0 HSY1.out).mono ?_
          rintro e y2 ⟨rfl, hb⟩
          have HBy2 := Lib.hid (below_join HBY1.out hb HBY1.out.size)
          obtain ⟨⟨x0, x1⟩, p2⟩ := HXY.out y2 HBy2.out
          clear hb p0
          go_wp2_with (fail)
          clear x0 x1
          go_at_call 16
          refine (HV.out y2 p2).mono ?_
          rintro e y3 ⟨rfl, hb⟩
          have HBy3 := Lib.hid (below_join HBy2.out hb HBy2.out.size)
          clear hb p2
          go_wp2_with (fail)
          refine And.intro ?q1 ?q2
          case q2 =>
            show 8 - (intOf (.int .i64 ((k : Int) + 1))).toNat < 8 - (intOf (.int .i64 (k : Int))).toNat
            simp only [intOf]; omega
          case q1 =>
            repeat apply Exists.intro
            refine And.intro ?rel rfl
            exact ⟨k + 1, by omega, by go_num, Lib.hid (HOY.out.on HBy3.out (Nat.le_refl _)), Lib.hid (below_join HBY.out HBy3.out HBY.out.size)⟩
        · obtain rfl : k = 8 := by omega
          clear hO2
          obtain ⟨W2, hW2⟩ : ∃ X, X = wb.alloc (.cells #[.int .i64 0, .int .i64 0, .int .i64 (-1), .int .i64 1, .int .i64 0, .int .i64 4, .int .i64 4, .int .i64 0] 56) := ⟨_, rfl⟩
          go_wp2_with (fail)
          rw [← hW2]
          have HBW2 := Lib.hid (show Below V.heap.size V W2 by rw [hW2]; exact hB2.out.alloc hB2.out.size _)
          have HL2 := Lib.hid (show W2.heap[wb.heap.size]? = some (.cells #[.int .i64 0, .int .i64 0, .int .i64 (-1), .int .i64 1, .int .i64 0, .int .i64 4, .int .i64 4, .int .i64 0] 56 (0, 0)) by rw [hW2]; exact heap_alloc_new _ _)
          have hz2 := at_lt HL2.out
          have HPR := Lib.hid (fun (X : World) (hX : Below W2.heap.size W2 X) (k : Nat) (hk : k < 4) => (show ∃ s t : Int, X.cell? ⟨wb.heap.size, k * 2, none⟩ = some (.int .i64 s) ∧ X.cell? ⟨wb.heap.size, k * 2 + 1, none⟩ = some (.int .i64 t) ∧ nfault 4 smpL s t = 2 by
            have hc := (hX.block _ hz2).trans HL2.out
            rcases (by omega : k = 0 ∨ k = 1 ∨ k = 2 ∨ k = 3) with rfl | rfl | rfl | rfl
            · exact ⟨0, 0, cell_of hc rfl, cell_of hc rfl, by decide⟩
            · exact ⟨-1, 1, cell_of hc rfl, cell_of hc rfl, by decide⟩
            · exact ⟨0, 4, cell_of hc rfl, cell_of hc rfl, by decide⟩
            · exact ⟨4, 0, cell_of hc rfl, cell_of hc rfl, by decide⟩))
          obtain ⟨b2, hb2⟩ : ∃ b, b = wb.heap.size := ⟨_, rfl⟩
          rw [← hb2] at HPR ⊢
          clear hW2 hb2 hz2
          go_loopw [108] (fun i wr => ∃ (k : Nat), k ≤ 4 ∧ i = .int .i64 (k : Int) ∧ Hid (Below W2.heap.size W2 wr)) (fun i _ => 4 - (intOf i).toNat)
          case atStart => exact ⟨0, Nat.zero_le _, rfl, Lib.hid (Below.refl _ _)⟩
          case round =>
            obtain ⟨k, hk, rfl, hB3⟩ := hrel
            obtain ⟨wd, hwd⟩ : ∃ z, z = wr := ⟨_, rfl⟩
            subst hwd
            have hki : ((k : Nat) : Int).toNat = k := by omega
            by_cases hlt : k < 4
            · have hkc : (k : Int) < 4 := by omega
              obtain ⟨s, t, s0, t0, hf⟩ := HPR.out wd hB3.out k hlt
              obtain ⟨Y, hY⟩ : ∃ Y, Y = wd.alloc (.cells #[.int .i64 s, .int .i64 t] 56) := ⟨_, rfl⟩
              have bY : Below wd.heap.size wd Y := by subst hY; exact (Below.refl _ _).alloc (Nat.le_refl _) _
              have HBY := Lib.hid (below_join hB3.out bY hB3.out.size)
              have HLY := Lib.hid (show Y.heap[wd.heap.size]? = some (.cells #[.int .i64 s, .int .i64 t] 56 (0, 0)) by subst hY; exact heap_alloc_new _ _)
              have hzY := at_lt HLY.out
              have HXY := Lib.hid (fun (X : World) (hX : Below Y.heap.size Y X) => (⟨⟨cell_of ((hX.block _ hzY).trans HLY.out) rfl, cell_of ((hX.block _ hzY).trans HLY.out) rfl⟩, HX.out X (below_join HBW2.out (below_join HBY.out hX HBY.out.size) HBW2.out.size)⟩ : (X.cell? ⟨wd.heap.size, 0, none⟩ = some (.int .i64 s) ∧ X.cell? ⟨wd.heap.size, 1, none⟩ = some (.int .i64 t)) ∧ (X.cell? ⟨w1.heap.size, 0, none⟩ = some (.int .i64 4) ∧ X.cell? ⟨w1.heap.size, 1, none⟩ = some (.slice A 5 c)) ∧ PtSl X (.slice A 5 c) smpL))
              have HC1 := Lib.hid (fun (X : World) (hX : PtSl X (.slice A 5 c) smpL) => c_CutE 4 (.slice A 5 c) smpL s t X hX 2 hf (by decide))
              have HC2 := Lib.hid (fun (X : World) (hX : PtSl X (.slice A 5 c) smpL) => c_CriticalE 4 (.slice A 5 c) smpL s t X hX 2 hf (by decide))
              have HC3 := Lib.hid (fun (X : World) (hX : PtSl X (.slice A 5 c) smpL) => c_Check 4 (.slice A 5 c) (.slice none 0 0) smpL s t [] X hX (intSl_none X) 0 2 (by unfold chkV; rw [hf]; rfl))
              obtain ⟨⟨y0, y1⟩, ⟨x0, x1⟩, p0⟩ := HXY.out Y (Below.refl _ _)
              unfold ntV at HC1 HC2 HC3
              rw [hY] at x0 x1 y0 y1
              clear bY hzY hf
              go_wp2_with (fail)
              rw [← hY]
              clear hY x0 x1 y0 y1 s0 t0
              go_at_call 22
              refine (HC1.out Y p0).mono ?_
              rintro e v1 ⟨rfl, hb⟩
              have HBv1 := Lib.hid (show Below Y.heap.size Y v1 from hb)
              clear p0 hb
              obtain ⟨⟨y0, y1⟩, ⟨x0, x1⟩, p0⟩ := HXY.out v1 HBv1.out
              go_wp2_with (fail)
              clear x0 x1 y0 y1
              go_at_call 25
              refine (HC2.out v1 p0).mono ?_
              rintro e v2 ⟨rfl, hb⟩
              have HBv2 := Lib.hid (below_join HBv1.out hb HBv1.out.size)
              clear p0 hb
              obtain ⟨⟨y0, y1⟩, ⟨x0, x1⟩, p0⟩ := HXY.out v2 HBv2.out
              go_wp2_with (fail)
              clear x0 x1 y0 y1
              go_at_call 11
              refine (HC3.out v2 p0).mono ?_
              rintro e v3 ⟨rfl, hb⟩
              have HBv3 := Lib.hid (below_join HBv2.out hb HBv2.out.size)
              clear p0 hb
              go_wp2_with (fail)
              refine And.intro ?q1 ?q2
              case q2 =>
                show 4 - (intOf (.int .i64 ((k : Int) + 1))).toNat < 4 - (intOf (.int .i64 (k : Int))).toNat
                simp only [intOf]; omega
              case q1 =>
                repeat apply Exists.intro
                refine And.intro ?rel3 rfl
                exact ⟨k + 1, by omega, by go_num, Lib.hid (below_join HBY.out HBv3.out HBY.out.size)⟩
            · obtain rfl : k = 4 := by omega
              have HBa := Lib.hid (below_join HBW2.out hB3.out HBW2.out.size)
              clear HPR HL2 hlt hki
              have HK1 := Lib.hid (fun (S : Value) (X : World) (hX : PtSl X (.slice A 5 c) smpL) (hS : IntSl X S [1, 1, 0, 1, 0]) => c_Check 4 (.slice A 5 c) S smpL 0 3 [1, 1, 0, 1, 0] X hX hS (0) 13 (by decide +kernel))
              unfold ntV at HK1
              obtain ⟨z1, hz1⟩ : ∃ X, X = wd.alloc (.cells #[.int .i64 1, .int .i64 1, .int .i64 0, .int .i64 1, .int .i64 0] 3) := ⟨_, rfl⟩
              have bz1 : Below wd.heap.size wd z1 := by subst hz1; exact (Below.refl _ _).alloc (Nat.le_refl _) _
              have HBz1 := Lib.hid (below_join HBa.out bz1 HBa.out.size)
              have HS1 := Lib.hid (show IntSl z1 (.slice (some ⟨wd.heap.size, 0, none⟩) 5 5) [1, 1, 0, 1, 0] by subst hz1; exact intSl_lit [1, 1, 0, 1, 0] (heap_alloc_new _ _) rfl (by decide) (by decide))
              clear bz1
              obtain ⟨⟨x0, x1⟩, -⟩ := HX.out wd HBa.out
              have p0 := (HX.out z1 HBz1.out).2
              go_wp2_with (fail)
              rw [← hz1]
              clear hz1 x0 x1
              go_at_call 11
              refine (HK1.out _ z1 p0 HS1.out).mono ?_
              rintro e x1 ⟨rfl, hb⟩
              have HBx1 := Lib.hid (below_join HBz1.out hb HBz1.out.size)
              clear hb p0 HK1 HS1
              have HK2 := Lib.hid (fun (S : Value) (X : World) (hX : PtSl X (.slice A 5 c) smpL) (hS : IntSl X S [4, 0, 2, 2, 2]) => c_Check 4 (.slice A 5 c) S smpL 0 3 [4, 0, 2, 2, 2] X hX hS (0) 13 (by decide +kernel))
              unfold ntV at HK2
              obtain ⟨z2, hz2⟩ : ∃ X, X = x1.alloc (.cells #[.int .i64 4, .int .i64 0, .int .i64 2, .int .i64 2, .int .i64 2] 3) := ⟨_, rfl⟩
              have bz2 : Below x1.heap.size x1 z2 := by subst hz2; exact (Below.refl _ _).alloc (Nat.le_refl _) _
              have HBz2 := Lib.hid (below_join HBx1.out bz2 HBx1.out.size)
              have HS2 := Lib.hid (show IntSl z2 (.slice (some ⟨x1.heap.size, 0, none⟩) 5 5) [4, 0, 2, 2, 2] by subst hz2; exact intSl_lit [4, 0, 2, 2, 2] (heap_alloc_new _ _) rfl (by decide) (by decide))
              clear bz2
              obtain ⟨⟨x0, x1⟩, -⟩ := HX.out x1 HBx1.out
              have p0 := (HX.out z2 HBz2.out).2
              go_wp2_with (fail)
              rw [← hz2]
              clear hz2 x0 x1
              go_at_call 11
              refine (HK2.out _ z2 p0 HS2.out).mono ?_
              rintro e x2 ⟨rfl, hb⟩
              have HBx2 := Lib.hid (below_join HBz2.out hb HBz2.out.size)
              clear hb p0 HK2 HS2
              have HK3 := Lib.hid (fun (X : World) (hX : PtSl X (.slice A 5 c) smpL) (hS : IntSl X (.slice none 0 0) []) => c_Check 4 (.slice A 5 c) (.slice none 0 0) smpL 0 3 [] X hX hS (0) 13 (by decide +kernel))
              unfold ntV at HK3
              obtain ⟨⟨x0, x1⟩, p0⟩ := HX.out x2 HBx2.out
              go_wp2_with (fail)
              clear x0 x1
              go_at_call 11
              refine (HK3.out x2 p0 (intSl_none _)).mono ?_
              rintro e x3 ⟨rfl, hb⟩
              have HBx3 := Lib.hid (below_join HBx2.out hb HBx2.out.size)
              clear hb p0 HK3
              have HK4 := Lib.hid (fun (S : Value) (X : World) (hX : PtSl X (.slice A 5 c) smpL) (hS : IntSl X S [1, 0]) => c_Across 4 (.slice A 5 c) S smpL [1, 0] X hX hS (0) 2 (by decide +kernel))
              unfold ntV at HK4
              obtain ⟨z4, hz4⟩ : ∃ X, X = x3.alloc (.cells #[.int .i64 1, .int .i64 0] 3) := ⟨_, rfl⟩
              have bz4 : Below x3.heap.size x3 z4 := by subst hz4; exact (Below.refl _ _).alloc (Nat.le_refl _) _
              have HBz4 := Lib.hid (below_join HBx3.out bz4 HBx3.out.size)
              have HS4 := Lib.hid (show IntSl z4 (.slice (some ⟨x3.heap.size, 0, none⟩) 2 2) [1, 0] by subst hz4; exact intSl_lit [1, 0] (heap_alloc_new _ _) rfl (by decide) (by decide))
              clear bz4
              obtain ⟨⟨x0, x1⟩, -⟩ := HX.out x3 HBx3.out
              have p0 := (HX.out z4 HBz4.out).2
              go_wp2_with (fail)
              rw [← hz4]
              clear hz4 x0 x1
              go_at_call 14
              refine (HK4.out _ z4 p0 HS4.out).mono ?_
              rintro e x4 ⟨rfl, hb⟩
              have HBx4 := Lib.hid (below_join HBz4.out hb HBz4.out.size)
              clear hb p0 HK4 HS4
              have HK5 := Lib.hid (fun (S : Value) (X : World) (hX : PtSl X (.slice A 5 c) smpL) (hS : IntSl X S [0, 0]) => c_Across 4 (.slice A 5 c) S smpL [0, 0] X hX hS (0) 2 (by decide +kernel))
              unfold ntV at HK5
              obtain ⟨z5, hz5⟩ : ∃ X, X = x4.alloc (.cells #[.int .i64 0, .int .i64 0] 3) := ⟨_, rfl⟩
              have bz5 : Below x4.heap.size x4 z5 := by subst hz5; exact (Below.refl _ _).alloc (Nat.le_refl _) _
              have HBz5 := Lib.hid (below_join HBx4.out bz5 HBx4.out.size)
              have HS5 := Lib.hid (show IntSl z5 (.slice (some ⟨x4.heap.size, 0, none⟩) 2 2) [0, 0] by subst hz5; exact intSl_lit [0, 0] (heap_alloc_new _ _) rfl (by decide) (by decide))
              clear bz5
              obtain ⟨⟨x0, x1⟩, -⟩ := HX.out x4 HBx4.out
              have p0 := (HX.out z5 HBz5.out).2
              go_wp2_with (fail)
              rw [← hz5]
              clear hz5 x0 x1
              go_at_call 14
              refine (HK5.out _ z5 p0 HS5.out).mono ?_
              rintro e x5 ⟨rfl, hb⟩
              have HBx5 := Lib.hid (below_join HBz5.out hb HBz5.out.size)
              clear hb p0 HK5 HS5
              have HK6 := Lib.hid (fun (S : Value) (X : World) (hX : PtSl X (.slice A 5 c) smpL) (hS : IntSl X S [4]) => c_Across 4 (.slice A 5 c) S smpL [4] X hX hS (0) 2 (by decide +kernel))
              unfold ntV at HK6
              obtain ⟨z6, hz6⟩ : ∃ X, X = x5.alloc (.cells #[.int .i64 4] 3) := ⟨_, rfl⟩
              have bz6 : Below x5.heap.size x5 z6 := by subst hz6; exact (Below.refl _ _).alloc (Nat.le_refl _) _
              have HBz6 := Lib.hid (below_join HBx5.out bz6 HBx5.out.size)
              have HS6 := Lib.hid (show IntSl z6 (.slice (some ⟨x5.heap.size, 0, none⟩) 1 1) [4] by subst hz6; exact intSl_lit [4] (heap_alloc_new _ _) rfl (by decide) (by decide))
              clear bz6
              obtain ⟨⟨x0, x1⟩, -⟩ := HX.out x5 HBx5.out
              have p0 := (HX.out z6 HBz6.out).2
              go_wp2_with (fail)
              rw [← hz6]
              clear hz6 x0 x1
              go_at_call 14
              refine (HK6.out _ z6 p0 HS6.out).mono ?_
              rintro e x6 ⟨rfl, hb⟩
              have HBx6 := Lib.hid (below_join HBz6.out hb HBz6.out.size)
              clear hb p0 HK6 HS6
              have HK7 := Lib.hid (fun (S : Value) (X : World) (hX : PtSl X (.slice A 5 c) smpL) (hS : IntSl X S [1, 1, 0, 1, 1]) => c_Check 4 (.slice A 5 c) S smpL 3 0 [1, 1, 0, 1, 1] X hX hS (-2) 0 (by decide +kernel))
              unfold ntV at HK7
              obtain ⟨z7, hz7⟩ : ∃ X, X = x6.alloc (.cells #[.int .i64 1, .int .i64 1, .int .i64 0, .int .i64 1, .int .i64 1] 3) := ⟨_, rfl⟩
              have bz7 : Below x6.heap.size x6 z7 := by subst hz7; exact (Below.refl _ _).alloc (Nat.le_refl _) _
              have HBz7 := Lib.hid (below_join HBx6.out bz7 HBx6.out.size)
              have HS7 := Lib.hid (show IntSl z7 (.slice (some ⟨x6.heap.size, 0, none⟩) 5 5) [1, 1, 0, 1, 1] by subst hz7; exact intSl_lit [1, 1, 0, 1, 1] (heap_alloc_new _ _) rfl (by decide) (by decide))
              clear bz7
              obtain ⟨⟨x0, x1⟩, -⟩ := HX.out x6 HBx6.out
              have p0 := (HX.out z7 HBz7.out).2
              go_wp2_with (fail)
              rw [← hz7]
              clear hz7 x0 x1
              go_at_call 11
              refine (HK7.out _ z7 p0 HS7.out).mono ?_
              rintro e x7 ⟨rfl, hb⟩
              have HBx7 := Lib.hid (below_join HBz7.out hb HBz7.out.size)
              clear hb p0 HK7 HS7
              have HM8 := Lib.hid (fun (X : World) (hX : PtSl X (.slice A 5 c) smpL) => (show Calls Try.prog 19 #[.agg #[.int .i64 4, .slice A 5 c], .int .i64 3, .int .i64 0] X (MxPost 4 3 0 smpL X) from c_Max0 4 3 0 (.slice A 5 c) smpL (by decide) (by decide) (by decide) X hX (by decide +kernel)))
              have HC8 := Lib.hid (fun (X : World) (hX : PtSl X (.slice A 5 c) smpL) => (show Calls Try.prog 22 #[.agg #[.int .i64 4, .slice A 5 c], .int .i64 3, .int .i64 0] X (CtPost 4 3 0 smpL X) from c_Cut0 4 3 0 (.slice A 5 c) smpL (by decide) (by decide) (by decide) X hX (by decide +kernel)))
              obtain ⟨⟨x0, x1⟩, p0⟩ := HX.out x7 HBx7.out
              go_wp2_with (fail)
              clear x0 x1
              go_at_call 19
              refine (HM8.out x7 p0).mono ?_
              rintro e x8 ⟨lf8, val8, F8, rfl, hbest, hown, hb⟩
              obtain rfl := smp_val2 hbest.gr
              have HBx8 := Lib.hid (below_join HBx7.out hb HBx7.out.size)
              clear hbest hown hb p0
              obtain ⟨⟨x0, x1⟩, p0⟩ := HX.out x8 HBx8.out
              go_wp2_with (fail)
              clear x0 x1
              go_at_call 22
              refine (HC8.out x8 p0).mono ?_
              rintro e x9 ⟨lf9, val9, F9, xs9, rfl, hbest, hxs, hown, hb⟩
              have h9 := smp_cut2 hbest.gr
              rw [← hxs] at h9
              subst h9
              have HI9 := Lib.hid (own_intSl (l := [3]) hown)
              have HBx9 := Lib.hid (below_join HBx8.out hb HBx8.out.size)
              obtain ⟨z9, hz9⟩ : ∃ X, X = x9.alloc (.cells #[.int .i64 3] 3) := ⟨_, rfl⟩
              have bz9 : Below x9.heap.size x9 z9 := by subst hz9; exact (Below.refl _ _).alloc (Nat.le_refl _) _
              have HBz9 := Lib.hid (below_join HBx9.out bz9 HBx9.out.size)
              have HQ9 := Lib.hid (c_eqInts [3] [3] true rfl F9 (.slice (some ⟨x9.heap.size, 0, none⟩) 1 1) z9 (HI9.out.on bz9 (Nat.le_refl _)) (by subst hz9; exact intSl_lit [3] (heap_alloc_new _ _) rfl (by decide) (by decide)))
              clear hbest hxs hown hb p0 bz9
              go_wp2_with (fail)
              rw [← hz9]
              clear hz9
              go_at_call 24
              refine HQ9.out.mono ?_
              rintro e x10 ⟨rfl, n10, hx10⟩
              have HBx10 := Lib.hid (show Below V.heap.size V x10 by rw [hx10]; exact below_drewN HBz9.out)
              obtain ⟨U, hU⟩ : ∃ X, X = x10.alloc (.cells #[.int .i64 64, .slice none 0 0] 24) := ⟨_, rfl⟩
              have HBU := Lib.hid (show Below V.heap.size V U by rw [hU]; exact HBx10.out.alloc HBx10.out.size _)
              have HLU := Lib.hid (show U.heap[x10.heap.size]? = some (.cells #[.int .i64 64, .slice none 0 0] 24 (0, 0)) by rw [hU]; exact heap_alloc_new _ _)
              clear hx10 HQ9
              go_wp2_with (fail)
              rw [← hU]
              have hVx : V.heap.size ≤ x10.heap.size := HBx10.out.size
              obtain ⟨bx, hbx⟩ : ∃ b, b = x10.heap.size := ⟨_, rfl⟩
              have hUx : U.heap.size = bx + 1 := by rw [hU, hbx]; simp
              have HUX := Lib.hid hUx
              rw [← hbx] at HLU hVx ⊢
              clear hU hbx hUx
              go_loopw [36] (fun i wr => ∃ (k : Nat) (v : Value), k ≤ 63 ∧ i = .int .i64 (k : Int) ∧ Hid (BigS wr bx k v) ∧ Hid (Below V.heap.size V wr) ∧ bx + 1 ≤ wr.heap.size) (fun i _ => 63 - (intOf i).toNat)
              case atStart => exact ⟨0, .slice none 0 0, Nat.zero_le _, rfl, Lib.hid ⟨HLU.out, World.ownsRow_nil _ _ _ _⟩, HBU, by rw [HUX.out]; exact Nat.le_refl _⟩
              case round =>
                obtain ⟨k, v, hk, rfl, hS, hB, hsz⟩ := hrel
                obtain ⟨we, hwe⟩ : ∃ z, z = wr := ⟨_, rfl⟩
                subst hwe
                have hki : ((k : Nat) : Int).toNat = k := by omega
                by_cases hlt : k < 63
                · have hkc : (k : Int) < 63 := by omega
                  have hw1 : IntKind.i64.wrap ((k : Int) + 1) = (k : Int) + 1 := IntWalk.i64_in _ (by omega)
                  have hw2 : IntKind.i64.wrap (100000000 - (k : Int)) = 100000000 - (k : Int) := IntWalk.i64_in _ (by omega)
                  have y1 : we.cell? ⟨bx, 1, none⟩ = some v := cell_of hS.out.box rfl
                  obtain ⟨nn, hnn⟩ : ∃ n, n = k * 2 := ⟨_, rfl⟩
                  have HOU := Lib.hid (show we.ownsRow (bx + 1) 39 3 v nn (cellsA (bigK k)) by rw [hnn]; exact hS.out.own)
                  have HNN := Lib.hid hnn
                  have hnb : nn ≤ 126 := by omega
                  obtain ⟨As, ns, cs, rfl⟩ := own_shape HOU.out
                  clear hnn
                  go_wp2_with (at_builtin; refine wpList_append_lies _ rfl _ _ 22 rfl (bx + 1) 39 ia (.agg #[.int .i64 0, .int .i64 0, .int .i64 0]) 3 24 Try.underlying22 hia hza0 hza1 hza2 rfl (by decide) (.slice As ns cs) nn _ rfl (HOU.out.alloc _) ⟨we.heap.size, 0, none⟩ 2 2 [.int .i64 (k : Int), .int .i64 ((k : Int) + 1), .int .i64 100000000, .int .i64 (k : Int), .int .i64 ((k : Int) + 1), .int .i64 (100000000 - (k : Int))] rfl rfl (World.news_of_block (heap_alloc_new _ _)) (by simp [Value.oneCell']) (by decide) (by unfold maxLen; omega) (by omega) (by simp <;> omega) (we.heap.size + 1) (by simp) ?_; intro g4 cap4 Z hown hgrow _ _; have HBZ := Lib.hid (((Below.refl (bx + 1) we).alloc (by omega) _).grown hgrow (by simp <;> omega) (fun k hk => (ownsRow_lt HOU.out hk).1)); have HOZ := Lib.hid hown; have r1Z := (HBZ.out.block _ (by omega)).trans hS.out.box; have z1 : Z.cell? ⟨bx, 1, none⟩ = some (.slice As ns cs) := cell_of r1Z rfl; have z2 : Z.frozen? ⟨bx, 1, none⟩ = false := (by simp [World.frozen?, r1Z]); clear hown hgrow r1Z)
                  have HI2 := Lib.hid (show BigS (Z.setCell ⟨bx, 1, none⟩ (.slice (some ⟨g4, 0, none⟩) (nn + 2) cap4)) bx (k + 1) (.slice (some ⟨g4, 0, none⟩) (nn + 2) cap4) from
                    ⟨row_set3 ((HBZ.out.block _ (by omega)).trans hS.out.box) _,
                      by rw [cellsA_bigK, show (k + 1) * 2 = nn + 2 by rw [HNN.out]; omega]; exact own_row_kept HOZ.out (fun g cur e h => by
                            obtain rfl : g4 = g := by simpa [Value.ownBlock] using e
                            exact (Below.heap_setCell Z ⟨bx, 1, none⟩ _ g4 (by have := (ownsRow_lt HOZ.out (g := g4) rfl).1; show g4 ≠ bx; omega)).trans h)⟩)
                  have HB2' := Lib.hid (show Below V.heap.size V (Z.setCell ⟨bx, 1, none⟩ (.slice (some ⟨g4, 0, none⟩) (nn + 2) cap4)) from (hB.out.trans (HBZ.out.mono (by omega))).setCell (by show V.heap.size ≤ bx; omega) _)
                  have hzZ : we.heap.size ≤ Z.heap.size := HBZ.out.size
                  clear z1 z2
                  go_roundw
                  case rel => exact ⟨k + 1, _, by omega, by go_num, HI2, HB2', by simp [World.setCell]; omega⟩
                  case measure => simp only [intOf]; omega
                · obtain rfl : k = 63 := by omega
                  have HP := Lib.hid (show PtSl we v bigL from own_ptSl (by have h := hS.out.own; exact h))
                  have hbox := hS.out.box
                  have hzb := at_lt hbox
                  obtain ⟨As, ns, cs, rfl⟩ := own_shape hS.out.own
                  have HXB := Lib.hid (fun (X : World) (hX : Below we.heap.size we X) => (⟨⟨cell_of ((hX.block _ hzb).trans hbox) rfl, cell_of ((hX.block _ hzb).trans hbox) rfl⟩, HP.out.on hX (Nat.le_refl _)⟩ : (X.cell? ⟨bx, 0, none⟩ = some (.int .i64 64) ∧ X.cell? ⟨bx, 1, none⟩ = some (.slice As ns cs)) ∧ PtSl X (.slice As ns cs) bigL))
                  have HM := Lib.hid (fun (X : World) (hX : PtSl X (.slice As ns cs) bigL) => (show Calls Try.prog 19 #[.agg #[.int .i64 64, .slice As ns cs], .int .i64 0, .int .i64 63] X (MxPost 64 0 63 bigL X) from c_Max0 64 0 63 (.slice As ns cs) bigL (by decide) (by decide) (by decide) X hX (by decide +kernel)))
                  have HC := Lib.hid (fun (X : World) (hX : PtSl X (.slice As ns cs) bigL) => (show Calls Try.prog 22 #[.agg #[.int .i64 64, .slice As ns cs], .int .i64 0, .int .i64 63] X (CtPost 64 0 63 bigL X) from c_Cut0 64 0 63 (.slice As ns cs) bigL (by decide) (by decide) (by decide) X hX (by decide +kernel)))
                  have HR := Lib.hid (fun (X : World) (hX : PtSl X (.slice As ns cs) bigL) => (show Calls Try.prog 25 #[.agg #[.int .i64 64, .slice As ns cs], .int .i64 0, .int .i64 63] X (CrPost 64 0 63 bigL X) from c_Critical0 64 0 63 (.slice As ns cs) bigL (by decide) (by decide) (by decide) X hX (by decide +kernel)))
                  obtain ⟨⟨x0, x1⟩, p0⟩ := HXB.out we (Below.refl _ _)
                  clear hbox hzb
                  go_wp2_with (fail)
                  clear x0 x1
                  go_at_call 19
                  refine (HM.out we p0).mono ?_
                  rintro e t1 ⟨lf1, val1, G1, rfl, hbest, hown, hb⟩
                  obtain rfl := big_val hbest.gr
                  have HBt1 := Lib.hid (show Below we.heap.size we t1 from hb)
                  clear hbest hown hb p0
                  obtain ⟨⟨x0, x1⟩, p0⟩ := HXB.out t1 HBt1.out
                  go_wp2_with (fail)
                  clear x0 x1
                  go_at_call 22
                  refine (HC.out t1 p0).mono ?_
                  rintro e t2 ⟨lf2, val2, G2, xs2, rfl, hbest, hxs, hown, hb⟩
                  have h2 := hxs.trans (big_cut hbest.gr)
                  rw [h2] at hown
                  obtain ⟨A2, c2, hG2, -, -⟩ := (own_intSl (l := nats (List.range 63)) (by rw [nats_len]; exact hown)).shape
                  obtain rfl : G2 = .slice A2 63 c2 := hG2.trans (by rw [show (nats (List.range 63)).length = 63 by decide])
                  have HBt2 := Lib.hid (below_join HBt1.out hb HBt1.out.size)
                  clear hbest hown hb p0 hxs h2 hG2
                  obtain ⟨⟨x0, x1⟩, p0⟩ := HXB.out t2 HBt2.out
                  go_wp2_with (fail)
                  clear x0 x1
                  go_at_call 25
                  refine (HR.out t2 p0).mono ?_
                  rintro e t3 ⟨lf3, val3, G3, xs3, rfl, hbest, hxs, hown, hb⟩
                  have h3 := hxs.trans (big_crit hbest.gr)
                  rw [h3] at hown
                  obtain ⟨A3, c3, hG3, -, -⟩ := (own_intSl (l := nats (List.range 126)) (by rw [nats_len]; exact hown)).shape
                  obtain rfl : G3 = .slice A3 126 c3 := hG3.trans (by rw [show (nats (List.range 126)).length = 126 by decide])
                  have HBt3 := Lib.hid (below_join HBt2.out hb HBt2.out.size)
                  clear hbest hown hb p0 hxs h3 hG3
                  go_wp2_with (fail)
                  go_at_call 18
                  refine (HWK.out t3).mono ?_
                  rintro e t4 ⟨rfl, hb⟩
                  have HB9 := Lib.hid (below_join HBV.out (below_join hB.out (below_join HBt3.out hb HBt3.out.size) hB.out.size) HBV.out.size)
                  clear hb
                  go_wp2_with (fail)
                  go_ret
                  exact ⟨rfl, HB9.out⟩
end Go.Proofs.Ytglpaihadongkaa
