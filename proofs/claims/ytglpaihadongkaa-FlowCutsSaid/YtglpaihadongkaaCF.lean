/-
  DERIVED. The law FlowBound (stage 5).
-/
import Derived.Test.YtglpaihadongkaaCE
set_option linter.unusedVariables false
set_option linter.unusedSimpArgs false
namespace Go.Proofs.Ytglpaihadongkaa
open Go.RowKit Go.Shelf
set_option maxRecDepth 100000
set_option linter.unusedSimpArgs false
set_option linter.unusedVariables false

set_option maxHeartbeats 32000000 in
theorem row_FlowBound (w : World) (n : Nat) (hn : n ≤ 255) (L : Value) (l : List (Nat × Nat × Nat)) (hL : EdSl w L l) (a : Nat) (ha : a ≤ 255) (b : Nat) (hb : b ≤ 255) (M : Value) (m : List Nat) (hM : U8Sl w M m) :
    Calls Try.prog 7 #[.int .u8 (n : Int), L, .int .u8 (a : Int), .int .u8 (b : Int), M] w fun e w' => e = .returned (.bool true) ∧ Below w.heap.size w w' := by
  have HMM := Lib.hid hM
  obtain ⟨A0, c0, rfl, hm1, hm2⟩ := hM.shape
  unfold maxLen at hm2
  clear hM
  have hNb : 2 ≤ nodesS n ∧ nodesS n ≤ 10 := by unfold nodesS; omega
  have hl40 : (l.take 40).length ≤ 40 := by rw [List.length_take]; omega
  have hok : ntOk (nodesS n : Int) (arcsS (nodesS n) (l.take 40)) = true := arcsS_ok ⟨hNb.1, by omega⟩ hl40 (fun p hp => hL.small p (List.mem_of_mem_take hp))
  obtain ⟨hs, ht, hst⟩ := endS_ok (a := a) (b := b) hNb.1
  have HSM := Lib.hid (c_small n hn L l a b ha hb w hL)
  unfold SmPost at HSM
  obtain ⟨N, hN⟩ : ∃ N, N = nodesS n := ⟨_, rfl⟩
  rw [← hN] at hNb hok hs ht hst HSM
  obtain ⟨s, hS⟩ : ∃ s, s = a % N := ⟨_, rfl⟩
  obtain ⟨t, hT⟩ : ∃ t, t = endS N a b := ⟨_, rfl⟩
  obtain ⟨ar, hAr⟩ : ∃ r, r = arcsS N (l.take 40) := ⟨_, rfl⟩
  rw [← hS] at hs hst HSM
  rw [← hT] at ht hst HSM
  rw [← hAr] at hok HSM
  have hlen : ar.length ≤ 40 := by rw [hAr]; have := arcsS_len N (l.take 40); omega
  have HOK := Lib.hid hok
  obtain ⟨A, c, rfl, -, -⟩ := hL.shape
  have HM := Lib.hid (fun (A : Option Addr) (c : Nat) (X : World) (hX : PtSl X (.slice A ar.length c) ar) => c_Max0 N s t (.slice A ar.length c) ar hs ht hst X hX hok)
  have HK := Lib.hid (fun (A : Option Addr) (c : Nat) (S : Value) (ys : List Int) (X : World) (hX : PtSl X (.slice A ar.length c) ar) (hS : IntSl X S ys) (y r : Int) (hr : chkV (N : Int) ar (s : Int) (t : Int) ys = (y, r)) => c_Check (N : Int) (.slice A ar.length c) S ar (s : Int) (t : Int) ys X hX hS y r hr)
  unfold ntV at HM HK HSM
  clear hN hS hT hAr hok hL hl40
  go_enter Try.func7, Try.ntmps7
  go_wp2_with (fail)
  go_at_call 27
  refine HSM.out.mono ?_
  rintro e w1 ⟨P, rfl, hown1, b1⟩
  have HP1 := Lib.hid (own_ptSl hown1)
  have HB1 := Lib.hid b1
  clear hown1 b1
  obtain ⟨A, c, rfl, -, -⟩ := HP1.out.shape
  obtain ⟨V, hV⟩ : ∃ V, V = w1.alloc (.cells #[.int .i64 (N : Int), .slice A ar.length c] 24) := ⟨_, rfl⟩
  have BV : Below w1.heap.size w1 V := by subst hV; exact (Below.refl _ _).alloc (Nat.le_refl _) _
  have HBV := Lib.hid (below_join HB1.out BV HB1.out.size)
  have HLV := Lib.hid (show V.heap[w1.heap.size]? = some (.cells #[.int .i64 (N : Int), .slice A ar.length c] 24 (0, 0)) by subst hV; exact heap_alloc_new _ _)
  have HPV := Lib.hid (HP1.out.on BV (Nat.le_refl _))
  have hzV := at_lt HLV.out
  have HX := Lib.hid (fun (X : World) (hX : Below V.heap.size V X) => (⟨⟨cell_of ((hX.block _ hzV).trans HLV.out) rfl, cell_of ((hX.block _ hzV).trans HLV.out) rfl⟩, HPV.out.on hX (Nat.le_refl _)⟩ : (X.cell? ⟨w1.heap.size, 0, none⟩ = some (.int .i64 (N : Int)) ∧ X.cell? ⟨w1.heap.size, 1, none⟩ = some (.slice A ar.length c)) ∧ PtSl X (.slice A ar.length c) ar))
  clear BV
  obtain ⟨⟨x0, x1⟩, p0⟩ := HX.out V (Below.refl _ _)
  rw [hV] at x0 x1
  go_wp2_with (fail)
  rw [← hV]
  clear hV x0 x1
  go_at_call 19
  refine (HM.out A c V p0).mono ?_
  rintro e w2 ⟨lf, val, v2, rfl, hbest, hown2, b2⟩
  have HB2 := Lib.hid b2
  have HBEST := Lib.hid hbest
  clear hbest p0 b2
  obtain ⟨hxl, hxb⟩ := best_fit HBEST.out HOK.out
  have hzs := zip_self HBEST.out.ends_
  obtain ⟨xs, hxs⟩ : ∃ xs, xs = lf.map Ar.x := ⟨_, rfl⟩
  have hll : lf.length = ar.length := by rw [ends_len HBEST.out.ends_, arsOf_len]
  rw [← hxs] at hxl hxb hzs hown2
  rw [hll] at hown2
  have HI2 := Lib.hid (own_intSl (l := xs) (by rw [hxl]; exact hown2))
  obtain ⟨A2, c2, hv2, -, -⟩ := HI2.out.shape
  rw [hxl] at hv2
  obtain rfl : v2 = _ := hv2
  have HXL := Lib.hid hxl
  have HXB := Lib.hid hxb
  have HZS := Lib.hid hzs
  have hl128 : ar.length ≤ 128 := by omega
  have HALL := Lib.hid (ntOk_iff.1 HOK.out).2.2.2
  clear hxl hxb hzs hown2 hll hxs
  obtain ⟨⟨x0, x1⟩, p0⟩ := HX.out w2 HB2.out
  have hz2 := HB2.out.size
  obtain ⟨i0, hi0, hzz0, hzz1, hzz2⟩ := info_parts int_info
  go_wp2_with (at_make; refine wpList_make_full (P := Try.prog) _ rfl _ _ 25 rfl w2.heap.size 3 i0 (.int .i64 0) 1 Try.underlying25 hi0 hzz0 hzz1 .i64 .i64 _ _ N rfl rfl rfl rfl (by rw [hzz2]; omega) (by unfold maxLen; omega) (Nat.le_refl _) ?_; intro w3 ho2 hg2; have HO2 := Lib.hid ho2; have HBE2 := Lib.hid ((Below.refl w2.heap.size w2).grown hg2 (Nat.le_refl _) (fun k hk => by cases hk)); have x31 := (HX.out w3 (below_join HB2.out HBE2.out HB2.out.size)).1.2; clear ho2 hg2)
  obtain ⟨gb, hgb⟩ : ∃ g, g = w2.heap.size := ⟨_, rfl⟩
  rw [← hgb] at HO2 ⊢
  have HRW := Lib.hid (show Row w3 gb 0 (gainsL N (zipX (ar.take 0) (xs.take 0))) from fun k x hx => by
    have hk : k < N := by have := (List.getElem?_eq_some_iff.1 hx).1; rw [gainsL_len] at this; exact this
    rw [gainsL_get _ hk] at hx
    rw [Nat.zero_add]
    refine ⟨?_, HO2.out.frozenAt k⟩
    rw [HO2.out.cellAt k (by omega)]
    have e : (Value.int .i64 0).cells = #[.int .i64 0] := rfl
    rw [e, Nat.mul_one, toList_madeCells_one, List.getElem?_replicate, if_pos hk]
    injection hx with hx
    rw [← hx]; rfl)
  have hg2 : gb < w3.heap.size := (ownsRow_lt HO2.out (g := gb) rfl).2
  have hgb1 : w2.heap.size ≤ gb := by omega
  have hz3 := HBE2.out.size
  clear hgb x0 x1 x31 HO2 p0
  go_loopw [57] (fun i wr => ∃ k : Nat, k ≤ ar.length ∧ i = .int .i64 (k : Int) ∧ Hid (Out (fun b => b = gb) w3 wr) ∧ Hid (Row wr gb 0 (gainsL N (zipX (ar.take k) (xs.take k))))) (fun i _ => ar.length - (intOf i).toNat)
  case atStart => exact ⟨0, Nat.zero_le _, rfl, Lib.hid (Out.refl _), HRW⟩
  case round =>
    obtain ⟨k, hk, rfl, hB, hrow⟩ := hrel
    have hki : ((k : Nat) : Int).toNat = k := by omega
    have hBW : Below w2.heap.size w2 wr := (hB.out).below HBE2.out (fun i hi e => by omega)
    have HBW := Lib.hid hBW
    have hzr := hB.out.size
    by_cases hlt : k < ar.length
    · obtain ⟨⟨u, v, cp⟩, hx⟩ : ∃ p, ar[k]? = some p := ⟨_, List.getElem?_eq_getElem hlt⟩
      obtain ⟨z, hz⟩ : ∃ z, xs[k]? = some z := ⟨_, List.getElem?_eq_getElem (by rw [HXL.out]; exact hlt)⟩
      obtain ⟨b', o, c', e, hbb, -, -, y0, y1, y2⟩ := ((HX.out wr (below_join HB2.out hBW HB2.out.size)).2).at_ hx
      injection e with e1 hle e2
      clear hle
      subst e1 e2
      obtain ⟨b'', o', c'', e, hbb', -, -, z0⟩ := (HI2.out.on hBW (Nat.le_refl _)).at_ hz
      have hgb' : b'' ≠ gb := by
        obtain ⟨b2, o2, c2', e', hbb2, -, -, -⟩ := HI2.out.at_ hz
        have e3 := e.symm.trans e'
        injection e3 with e3 _ _
        injection e3 with e3
        injection e3 with e3 _
        omega
      injection e with e1 hle e2
      clear hle
      subst e1 e2
      obtain ⟨hu, hv, huv, hc0, hc1'⟩ := arOk_iff.1 (HALL.out _ (List.mem_of_getElem? hx))
      obtain ⟨un, rfl⟩ : ∃ m : Nat, u = (m : Int) := ⟨u.toNat, by have := hu.1; simp at this; omega⟩
      obtain ⟨vn, rfl⟩ : ∃ m : Nat, v = (m : Int) := ⟨v.toNat, by have := hv.1; simp at this; omega⟩
      have hun : un < N := by have := hu.2; simp at this; exact this
      have hvn : vn < N := by have := hv.2; simp at this; exact this
      have huv' : un ≠ vn := by intro e; apply huv; simp [e]
      have hun' : (un : Int) < (N : Int) := by omega
      have hvn' : (vn : Int) < (N : Int) := by omega
      have hzk : z = xs.getD k 0 := by simp [hz]
      have hck : cp = (ar.getD k (0, 0, 0)).2.2 := by simp [hx]
      have hzb := HXB.out k hlt
      rw [← hzk, ← hck] at hzb
      obtain ⟨ls, hls⟩ : ∃ ls, ls = zipX (ar.take k) (xs.take k) := ⟨_, rfl⟩
      have hll : ls.length = k := by rw [hls]; exact zip_len hk HXL.out
      have hxb' : ∀ i, i < ar.length → 0 ≤ xs.getD i 0 ∧ xs.getD i 0 ≤ 100000000 := fun i hi => by have := HXB.out i hi; omega
      have hgu := gain_bound (M := 100000000) (by omega) ls (by rw [hls]; exact zip_bound k hxb') un
      have hgv := gain_bound (M := 100000000) (by omega) ls (by rw [hls]; exact zip_bound k hxb') vn
      rw [hll] at hgu hgv
      have hk128 : k < 128 := by omega
      have hsnoc : gainsL N (zipX (ar.take (k + 1)) (xs.take (k + 1))) = ((gainsL N ls).set un (gain ls un + z)).set vn (gain ls vn - z) := by
        rw [zipX_snoc hx hz, ← hls]
        exact gainsL_snoc ls { arOf ((un : Int), (vn : Int), cp) with x := z } (by simpa [arOf] using hun) (by simpa [arOf] using hvn) (by simpa [arOf] using huv')
      rw [← hls] at hrow
      have HSNOC := Lib.hid hsnoc
      obtain ⟨gu, hgu'⟩ : ∃ g, g = gain ls un := ⟨_, rfl⟩
      obtain ⟨gv, hgv'⟩ : ∃ g, g = gain ls vn := ⟨_, rfl⟩
      rw [← hgu'] at hgu
      rw [← hgv'] at hgv
      have HGU := Lib.hid hgu'
      have HGV := Lib.hid hgv'
      have hw1 : IntKind.i64.wrap (gu + z) = gu + z := IntWalk.i64_in _ (by omega)
      have hw2 : IntKind.i64.wrap (gv - z) = gv - z := IntWalk.i64_in _ (by omega)
      have HW1 := Lib.hid hw1
      have HW2 := Lib.hid hw2
      obtain ⟨V1, hV1⟩ : ∃ V, V = wr.alloc (.cells #[.int .i64 (un : Int), .int .i64 (vn : Int), .int .i64 cp] 39) := ⟨_, rfl⟩
      have HOV := Lib.hid (show Out (fun b => b = gb) w3 V1 by subst hV1; exact hB.out.trans (Out.of_below ((Below.refl wr.heap.size wr).alloc (Nat.le_refl _) _) (Nat.le_refl _)))
      have HVA := Lib.hid (show V1.heap[wr.heap.size]? = some (.cells #[.int .i64 (un : Int), .int .i64 (vn : Int), .int .i64 cp] 39 (0, 0)) by subst hV1; exact heap_alloc_new _ _)
      have HRV := Lib.hid (show Row V1 gb 0 (gainsL N ls) by subst hV1; exact hrow.out.kept fun cs t fr h => old_heap _ h)
      have a0 := (three_cells HVA.out).1
      have a1 := (three_cells HVA.out).2.1
      have a5 := (three_cells HVA.out).2.2
      have a2 : V1.cell? ⟨gb, un, none⟩ = some (.int .i64 gu) := by have h := (HRV.out un _ (gainsL_get ls hun)).1; rw [Nat.zero_add] at h; rw [HGU.out]; exact h
      have a3 : V1.cell? ⟨b'', o' + k, none⟩ = some (.int .i64 z) := by subst hV1; exact alloc_cell z0 _
      have a4 : V1.frozen? ⟨gb, un, none⟩ = false := by have h := (HRV.out un _ (gainsL_get ls hun)).2; rw [Nat.zero_add] at h; exact h
      have hgr : wr.heap.size ≠ gb := by omega
      have hkx : (k : Int) < (ar.length : Int) := by omega
      have h1 : decide (z < 0) = false := decide_eq_false (by omega)
      have h2 : decide (cp < z) = false := decide_eq_false (by omega)
      have hfm : Try.prog.follows Departure.mixedOrders = true := by kernel_rfl
      clear hx hz hbb hbb' hu hv huv hc0 hc1' hsnoc hls hll hgu' hgv' hw1 hw2 hzk hck hBW z0 hxb'
      go_wp2_with (fail)
      rw [← hV1]
      clear hV1 y0 y1 y2
      go_quiet (fail)
      go_wp2_with (fail)
      obtain ⟨V3, hV3⟩ : ∃ V, V = V1.drewN nq := ⟨_, rfl⟩
      rw [← hV3]
      have HOV3 := Lib.hid (show Out (fun b => b = gb) w3 V3 by subst hV3; exact ⟨HOV.out.os, HOV.out.tape, HOV.out.output, HOV.out.size, HOV.out.same⟩)
      have HRV3 := Lib.hid (show Row V3 gb 0 (gainsL N ls) by subst hV3; exact fun k x hx => HRV.out k x hx)
      have a0 : V3.cell? ⟨wr.heap.size, 0, none⟩ = some (.int .i64 (un : Int)) := by subst hV3; exact a0
      have a1 : V3.cell? ⟨wr.heap.size, 1, none⟩ = some (.int .i64 (vn : Int)) := by subst hV3; exact a1
      have a2 : V3.cell? ⟨gb, un, none⟩ = some (.int .i64 gu) := by subst hV3; exact a2
      have a3 : V3.cell? ⟨b'', o' + k, none⟩ = some (.int .i64 z) := by subst hV3; exact a3
      have a4 : V3.frozen? ⟨gb, un, none⟩ = false := by subst hV3; exact a4
      clear hV3 a5
      refine region_z 11 hfm (S := fun X => X.cell? ⟨wr.heap.size, 0, none⟩ = some (.int .i64 (un : Int)) ∧ X.cell? ⟨gb, un, none⟩ = some (.int .i64 gu) ∧ X.cell? ⟨b'', o' + k, none⟩ = some (.int .i64 z)) ⟨a0, a2, a3⟩ (fun hHeld => ?_)
      refine takeZ 0 (some 76) (by kernel_rfl) rfl rfl (by kernel_rfl) (by kernel_rfl) (by kernel_rfl) (fun _ _ _ h => h) (by rfl) (by intro w ⟨g1, g2, g3⟩; go_simp; try with_reducible rfl) hHeld ?_
      simp only [Act.put, List.setIfInBounds_toArray, List.set_cons_zero, List.set_cons_succ]
      refine takeZ 1 (some 77) (by kernel_rfl) rfl rfl (by kernel_rfl) (by kernel_rfl) (by kernel_rfl) (fun _ _ _ h => h) (by rfl) (by intro w ⟨g1, g2, g3⟩; go_simp; try with_reducible rfl) hHeld ?_
      simp only [Act.put, List.setIfInBounds_toArray, List.set_cons_zero, List.set_cons_succ]
      refine takeZ 2 (some 78) (by kernel_rfl) rfl rfl (by kernel_rfl) (by kernel_rfl) (by kernel_rfl) (fun _ _ _ h => h) (by rfl) (by intro w ⟨g1, g2, g3⟩; go_simp; try with_reducible rfl) hHeld ?_
      simp only [Act.put, List.setIfInBounds_toArray, List.set_cons_zero, List.set_cons_succ]
      refine takeZ 3 (some 79) (by kernel_rfl) rfl rfl (by kernel_rfl) (by kernel_rfl) (by kernel_rfl) (fun _ _ _ h => h) (by rfl) (by intro w ⟨g1, g2, g3⟩; go_simp; try with_reducible rfl) hHeld ?_
      simp only [Act.put, List.setIfInBounds_toArray, List.set_cons_zero, List.set_cons_succ]
      refine takeZ 4 (some 80) (by kernel_rfl) rfl rfl (by kernel_rfl) (by kernel_rfl) (by kernel_rfl) (fun _ _ _ h => h) (by rfl) (by intro w ⟨g1, g2, g3⟩; go_simp; try with_reducible rfl) hHeld ?_
      simp only [Act.put, List.setIfInBounds_toArray, List.set_cons_zero, List.set_cons_succ]
      refine takeZ 5 (some 81) (by kernel_rfl) rfl rfl (by kernel_rfl) (by kernel_rfl) (by kernel_rfl) (fun _ _ _ h => h) (by rfl) (by intro w ⟨g1, g2, g3⟩; go_simp; try with_reducible rfl) hHeld ?_
      simp only [Act.put, List.setIfInBounds_toArray, List.set_cons_zero, List.set_cons_succ]
      refine takeZ 6 (some 82) (by kernel_rfl) rfl rfl (by kernel_rfl) (by kernel_rfl) (by kernel_rfl) (fun _ _ _ h => h) (by rfl) (by intro w ⟨g1, g2, g3⟩; go_simp; try with_reducible rfl) hHeld ?_
      simp only [Act.put, List.setIfInBounds_toArray, List.set_cons_zero, List.set_cons_succ]
      refine takeZ 7 (some 83) (by kernel_rfl) rfl rfl (by kernel_rfl) (by kernel_rfl) (by kernel_rfl) (fun _ _ _ h => h) (by rfl) (by intro w ⟨g1, g2, g3⟩; go_simp; try with_reducible rfl) hHeld ?_
      simp only [Act.put, List.setIfInBounds_toArray, List.set_cons_zero, List.set_cons_succ]
      refine takeZ 8 (some 84) (by kernel_rfl) rfl rfl (by kernel_rfl) (by kernel_rfl) (by kernel_rfl) (fun _ _ _ h => h) (by rfl) (by intro w ⟨g1, g2, g3⟩; go_simp; try with_reducible rfl) hHeld ?_
      simp only [Act.put, List.setIfInBounds_toArray, List.set_cons_zero, List.set_cons_succ]
      refine takeZ 9 (some 85) (by kernel_rfl) rfl rfl (by kernel_rfl) (by kernel_rfl) (by kernel_rfl) (fun _ _ _ h => h) (by rfl) (by intro w ⟨g1, g2, g3⟩; go_simp; try with_reducible rfl) hHeld ?_
      simp only [Act.put, List.setIfInBounds_toArray, List.set_cons_zero, List.set_cons_succ]
      rw [HW1.out]
      refine takeZ 10 (some 86) (by kernel_rfl) rfl rfl (by kernel_rfl) (by kernel_rfl) (by kernel_rfl) (fun _ _ _ h => h) (by rfl) (by intro w ⟨g1, g2, g3⟩; go_simp; try with_reducible rfl) hHeld ?_
      simp only [Act.put, List.setIfInBounds_toArray, List.set_cons_zero, List.set_cons_succ]
      clear hHeld
      refine oneZ 11 rfl (by kernel_rfl) (fun K hK => ?_)
      go_simp
      refine hK.out _ _ (.inl rfl) ?_
      clear hK K a0 a2 a4
      refine doneZ (by kernel_rfl) ?_ _
      obtain ⟨V2, hV2⟩ : ∃ V2, V2 = (V3.setCell ⟨gb, un, none⟩ (.int .i64 (gu + z))).drew := ⟨_, rfl⟩
      have HOV2 := Lib.hid (show Out (fun b => b = gb) w3 V2 by subst hV2; exact (HOV3.out.trans (Out.store (S := fun b => b = gb) rfl _)).trans Out.drew)
      have HRV2 := Lib.hid (show Row V2 gb 0 ((gainsL N ls).set un (gu + z)) by
        subst hV2
        have h := Row.set (X := V3) (b := gb) (o := 0) (L := gainsL N ls) (j := un) (fun k x hx => HRV3.out k x hx) (by rw [gainsL_len]; exact hun) (gu + z)
        rw [Nat.zero_add] at h; exact fun k x hx => h k x hx)
      have b1 : V2.cell? ⟨wr.heap.size, 1, none⟩ = some (.int .i64 (vn : Int)) := by subst hV2; rw [World.cell?_drew]; rw [World.cell?_setCell_other _ _ _ _ (fun e' => hgr (congrArg (fun a : Addr => a.block) e').symm)]; exact a1
      have b3 : V2.cell? ⟨b'', o' + k, none⟩ = some (.int .i64 z) := by subst hV2; rw [World.cell?_drew]; rw [World.cell?_setCell_other _ _ _ _ (fun e' => hgb' (congrArg (fun a : Addr => a.block) e').symm)]; exact a3
      have hvget : ((gainsL N ls).set un (gu + z))[vn]? = some gv := by rw [List.getElem?_set_ne huv', gainsL_get ls hvn, HGV.out]
      have b2 : V2.cell? ⟨gb, vn, none⟩ = some (.int .i64 gv) := by have h := (HRV2.out vn _ hvget).1; rw [Nat.zero_add] at h; exact h
      have b4 : V2.frozen? ⟨gb, vn, none⟩ = false := by have h := (HRV2.out vn _ hvget).2; rw [Nat.zero_add] at h; exact h
      clear a1 a3 hvget
      go_wp2_with (fail)
      rw [← hV2]
      clear hV2
      refine region_z 11 hfm (S := fun X => X.cell? ⟨wr.heap.size, 1, none⟩ = some (.int .i64 (vn : Int)) ∧ X.cell? ⟨gb, vn, none⟩ = some (.int .i64 gv) ∧ X.cell? ⟨b'', o' + k, none⟩ = some (.int .i64 z)) ⟨b1, b2, b3⟩ (fun hHeld => ?_)
      refine takeZ 0 (some 87) (by kernel_rfl) rfl rfl (by kernel_rfl) (by kernel_rfl) (by kernel_rfl) (fun _ _ _ h => h) (by rfl) (by intro w ⟨g1, g2, g3⟩; go_simp; try with_reducible rfl) hHeld ?_
      simp only [Act.put, List.setIfInBounds_toArray, List.set_cons_zero, List.set_cons_succ]
      refine takeZ 1 (some 88) (by kernel_rfl) rfl rfl (by kernel_rfl) (by kernel_rfl) (by kernel_rfl) (fun _ _ _ h => h) (by rfl) (by intro w ⟨g1, g2, g3⟩; go_simp; try with_reducible rfl) hHeld ?_
      simp only [Act.put, List.setIfInBounds_toArray, List.set_cons_zero, List.set_cons_succ]
      refine takeZ 2 (some 89) (by kernel_rfl) rfl rfl (by kernel_rfl) (by kernel_rfl) (by kernel_rfl) (fun _ _ _ h => h) (by rfl) (by intro w ⟨g1, g2, g3⟩; go_simp; try with_reducible rfl) hHeld ?_
      simp only [Act.put, List.setIfInBounds_toArray, List.set_cons_zero, List.set_cons_succ]
      refine takeZ 3 (some 90) (by kernel_rfl) rfl rfl (by kernel_rfl) (by kernel_rfl) (by kernel_rfl) (fun _ _ _ h => h) (by rfl) (by intro w ⟨g1, g2, g3⟩; go_simp; try with_reducible rfl) hHeld ?_
      simp only [Act.put, List.setIfInBounds_toArray, List.set_cons_zero, List.set_cons_succ]
      refine takeZ 4 (some 91) (by kernel_rfl) rfl rfl (by kernel_rfl) (by kernel_rfl) (by kernel_rfl) (fun _ _ _ h => h) (by rfl) (by intro w ⟨g1, g2, g3⟩; go_simp; try with_reducible rfl) hHeld ?_
      simp only [Act.put, List.setIfInBounds_toArray, List.set_cons_zero, List.set_cons_succ]
      refine takeZ 5 (some 92) (by kernel_rfl) rfl rfl (by kernel_rfl) (by kernel_rfl) (by kernel_rfl) (fun _ _ _ h => h) (by rfl) (by intro w ⟨g1, g2, g3⟩; go_simp; try with_reducible rfl) hHeld ?_
      simp only [Act.put, List.setIfInBounds_toArray, List.set_cons_zero, List.set_cons_succ]
      refine takeZ 6 (some 93) (by kernel_rfl) rfl rfl (by kernel_rfl) (by kernel_rfl) (by kernel_rfl) (fun _ _ _ h => h) (by rfl) (by intro w ⟨g1, g2, g3⟩; go_simp; try with_reducible rfl) hHeld ?_
      simp only [Act.put, List.setIfInBounds_toArray, List.set_cons_zero, List.set_cons_succ]
      refine takeZ 7 (some 94) (by kernel_rfl) rfl rfl (by kernel_rfl) (by kernel_rfl) (by kernel_rfl) (fun _ _ _ h => h) (by rfl) (by intro w ⟨g1, g2, g3⟩; go_simp; try with_reducible rfl) hHeld ?_
      simp only [Act.put, List.setIfInBounds_toArray, List.set_cons_zero, List.set_cons_succ]
      refine takeZ 8 (some 95) (by kernel_rfl) rfl rfl (by kernel_rfl) (by kernel_rfl) (by kernel_rfl) (fun _ _ _ h => h) (by rfl) (by intro w ⟨g1, g2, g3⟩; go_simp; try with_reducible rfl) hHeld ?_
      simp only [Act.put, List.setIfInBounds_toArray, List.set_cons_zero, List.set_cons_succ]
      refine takeZ 9 (some 96) (by kernel_rfl) rfl rfl (by kernel_rfl) (by kernel_rfl) (by kernel_rfl) (fun _ _ _ h => h) (by rfl) (by intro w ⟨g1, g2, g3⟩; go_simp; try with_reducible rfl) hHeld ?_
      simp only [Act.put, List.setIfInBounds_toArray, List.set_cons_zero, List.set_cons_succ]
      rw [HW2.out]
      refine takeZ 10 (some 97) (by kernel_rfl) rfl rfl (by kernel_rfl) (by kernel_rfl) (by kernel_rfl) (fun _ _ _ h => h) (by rfl) (by intro w ⟨g1, g2, g3⟩; go_simp; try with_reducible rfl) hHeld ?_
      simp only [Act.put, List.setIfInBounds_toArray, List.set_cons_zero, List.set_cons_succ]
      clear hHeld
      refine oneZ 11 rfl (by kernel_rfl) (fun K hK => ?_)
      go_simp
      refine hK.out _ _ (.inl rfl) ?_
      clear hK K b1 b2 b3 b4
      refine doneZ (by kernel_rfl) ?_ _
      have HREL := Lib.hid (show Out (fun b => b = gb) w3 (V2.setCell ⟨gb, vn, none⟩ (.int .i64 (gv - z))).drew ∧ Row (V2.setCell ⟨gb, vn, none⟩ (.int .i64 (gv - z))).drew gb 0 (gainsL N (zipX (ar.take (k + 1)) (xs.take (k + 1)))) from ⟨(HOV2.out.trans (Out.store (S := fun b => b = gb) rfl _)).trans Out.drew, by
        have h := Row.set (X := V2) (b := gb) (o := 0) (L := (gainsL N ls).set un (gu + z)) (j := vn) (fun k x hx => HRV2.out k x hx) (by rw [List.length_set, gainsL_len]; exact hvn) (gv - z)
        rw [Nat.zero_add] at h
        rw [HSNOC.out, ← HGU.out, ← HGV.out]; exact fun k x hx => h k x hx⟩)
      go_wp2_with (fail)
      go_roundw
      case rel => exact ⟨k + 1, by omega, by go_num, Lib.hid HREL.out.1, Lib.hid HREL.out.2⟩
      case measure => simp only [intOf]; omega
    · obtain rfl : k = ar.length := by omega
      have hrow' := hrow.out
      rw [List.take_length, ← HXL.out, List.take_length, HZS.out] at hrow'
      have HROW := Lib.hid hrow'
      clear hrow' hrow
      obtain ⟨wA, hwA⟩ : ∃ z, z = wr := ⟨_, rfl⟩
      subst hwA
      go_wp2_with (fail)
      have HFLOW := Lib.hid HBEST.out.flow
      have HGS := Lib.hid HBEST.out.value
      have HGT := Lib.hid (HBEST.out.flow.ends_sum hs ht hst)
      have hvb := gain_bound (M := 100000000) (by omega) (zipX (ar.take ar.length) (xs.take ar.length)) (zip_bound ar.length (fun i hi => by have := HXB.out i hi; omega)) s
      rw [zip_len (Nat.le_refl _) HXL.out, List.take_length, ← HXL.out, List.take_length, HZS.out, HGS.out, HXL.out] at hvb
      have hwn : IntKind.i64.wrap (-val) = -val := IntWalk.i64_in _ (by omega)
      have HBA := Lib.hid (below_join HB2.out HBW.out HB2.out.size)
      go_loopw [101] (fun i wr => ∃ k : Nat, k ≤ N ∧ i = .int .i64 (k : Int) ∧ Hid (Below wA.heap.size wA wr)) (fun i _ => N - (intOf i).toNat)
      case atStart => exact ⟨0, Nat.zero_le _, rfl, Lib.hid (Below.refl _ _)⟩
      case round =>
        obtain ⟨k, hk, rfl, hBx⟩ := hrel
        have hki : ((k : Nat) : Int).toNat = k := by omega
        have hrX := HROW.out.kept (Y := wr) fun cs t fr h => (hBx.out.block _ (at_lt h)).trans h
        by_cases hlt : k < N
        · have y0 := (hrX k _ (gainsL_get lf hlt)).1
          rw [Nat.zero_add] at y0
          have hkn : (k : Int) < (N : Int) := by omega
          by_cases hks : k = s
          · have hks' : ((k : Int) != (s : Int)) = false := by rw [hks]; simp
            clear hks hrX
            go_wp2_with (fail)
            go_roundw
            case rel => exact ⟨k + 1, by omega, by go_num, hBx⟩
            case measure => simp only [intOf]; omega
          have hks' : ((k : Int) != (s : Int)) = true := by rw [bne_iff_ne]; omega
          by_cases hkt : k = t
          · have hkt' : ((k : Int) != (t : Int)) = false := by rw [hkt]; simp
            clear hkt hrX
            go_wp2_with (fail)
            go_roundw
            case rel => exact ⟨k + 1, by omega, by go_num, hBx⟩
            case measure => simp only [intOf]; omega
          have hkt' : ((k : Int) != (t : Int)) = true := by rw [bne_iff_ne]; omega
          rw [HFLOW.out.even k hlt hks hkt] at y0
          clear hrX
          go_wp2_with (fail)
          go_roundw
          case rel => exact ⟨k + 1, by omega, by go_num, hBx⟩
          case measure => simp only [intOf]; omega
        · obtain rfl : k = N := by omega
          have y0 := (hrX s _ (gainsL_get lf hs)).1
          have y1 := (hrX t _ (gainsL_get lf ht)).1
          rw [Nat.zero_add, HGS.out] at y0
          rw [Nat.zero_add, HGT.out, HGS.out] at y1
          have hsk : (s : Int) < (k : Int) := by omega
          have htk : (t : Int) < (k : Int) := by omega
          have HBV2 := Lib.hid (below_join HBA.out hBx.out HBA.out.size)
          have HIW := Lib.hid (HI2.out.on (below_join HBW.out hBx.out HBW.out.size) (Nat.le_refl _))
          have HCL := Lib.hid (c_Clone xs (by rw [HXL.out]; omega) _ wr HIW.out)
          clear hrX
          go_wp2_with (fail)
          go_at_call 12
          refine HCL.out.mono ?_
          rintro e w5 ⟨v5, rfl, hown5, b5⟩
          have HI5 := Lib.hid (own_intSl (l := xs) hown5)
          obtain ⟨A5, c5, hv5, -, -⟩ := HI5.out.shape
          rw [HXL.out] at hv5 hown5
          obtain rfl : v5 = _ := hv5
          have HO5 := Lib.hid hown5
          have HB5 := Lib.hid (below_join HBV2.out b5 HBV2.out.size)
          have hb5 : V.heap.size ≤ wr.heap.size := HBV2.out.size
          clear hown5 b5 y0 y1 HCL HI5
          obtain ⟨B5, hB5⟩ : ∃ B, B = wr.heap.size := ⟨_, rfl⟩
          rw [← hB5] at HO5 hb5
          clear hB5
          obtain ⟨w6, hw6⟩ : ∃ z, z = w5 := ⟨_, rfl⟩
          rw [← hw6]
          rw [← hw6] at HO5 HB5
          clear hw6
          go_wp2_with (fail)
          go_loopw [139] (fun i wr => ∃ (j : Nat) (ys : List Int), j ≤ ar.length ∧ i = .int .i64 (j : Int) ∧ Hid (ys.length = ar.length) ∧ Hid (wr.ownsRow B5 3 1 (.slice A5 ar.length c5) ar.length (ints ys)) ∧ Hid (Below V.heap.size V wr)) (fun i _ => ar.length - (intOf i).toNat)
          case atStart => exact ⟨0, xs, Nat.zero_le _, rfl, HXL, HO5, HB5⟩
          case round =>
            obtain ⟨j, ys, hj, rfl, hyl, hO, hBy⟩ := hrel
            have hji : ((j : Nat) : Int).toNat = j := by omega
            by_cases hjl : j < ar.length
            · by_cases hjm : j < m.length
              · have hd : decide ((j : Int) < (m.length : Int)) = true := decide_eq_true (by omega)
                obtain ⟨x, hx⟩ : ∃ x, m[j]? = some x := ⟨_, List.getElem?_eq_getElem hjm⟩
                obtain ⟨b9, o9, c9, e9, hb9, hx255, y0⟩ := (HMM.out.on (below_join HBV.out hBy.out HBV.out.size) (Nat.le_refl _)).at_ hx
                injection e9 with e1 hle e2
                clear hle
                subst e1 e2
                obtain ⟨h0, -⟩ | ⟨g, cap, hge, hg1, hg2, -, -⟩ := own_cases hO.out
                · injection h0 with _ h0 _; omega
                injection hge with e1 hle e2
                clear hle
                subst e1 e2
                have hwx : IntKind.i64.wrap (x : Int) = (x : Int) := IntWalk.i64_in _ (by omega)
                have hjm' : (j : Int) < (m.length : Int) := by omega
                have hja : (j : Int) < (ar.length : Int) := by omega
                obtain ⟨q, hq⟩ : ∃ q, (ints ys)[j]? = some q := ⟨_, List.getElem?_eq_getElem (by rw [ints_len, hyl.out]; exact hjl)⟩
                have c9 := (hO.out.cellAt j (by omega)).trans hq
                have f9 := hO.out.frozenAt j
                have HO2 := Lib.hid (show (wr.setCell ⟨g, j, none⟩ (.int .i64 (x : Int))).ownsRow B5 3 1 (.slice (some ⟨g, 0, none⟩) ar.length c5) ar.length (ints (ys.set j (x : Int))) by rw [ints_set]; exact own_set hO.out)
                have HBZ := Lib.hid (hBy.out.setCell (p := ⟨g, j, none⟩) (by show V.heap.size ≤ g; omega) (.int .i64 (x : Int)))
                clear hx hq
                go_wp2_with (fail)
                go_roundw
                case rel => exact ⟨j + 1, _, by omega, by go_num, Lib.hid (by rw [List.length_set]; exact hyl.out), HO2, HBZ⟩
                case measure => simp only [intOf]; omega
              · have hd : decide ((j : Int) < (m.length : Int)) = false := decide_eq_false (by omega)
                go_wp2_with (fail)
                go_roundw
                case rel => exact ⟨j + 1, ys, by omega, by go_num, hyl, hO, hBy⟩
                case measure => simp only [intOf]; omega
            · obtain rfl : j = ar.length := by omega
              have HIY := Lib.hid (own_intSl (l := ys) (by rw [hyl.out]; exact hO.out))
              obtain ⟨⟨x0, x1⟩, p0⟩ := HX.out wr hBy.out
              obtain ⟨⟨y, r⟩, hyr⟩ : ∃ q, chkV (k : Int) ar (s : Int) (t : Int) ys = q := ⟨_, rfl⟩
              have HCK := Lib.hid (HK.out A c _ ys wr p0 HIY.out y r hyr)
              have hor := chk_le HBEST.out HOK.out hs ht hst hyr
              have HWK := Lib.hid (fun (X : World) => c_works X)
              clear p0 hyr
              go_wp2_with (fail)
              go_at_call 11
              refine HCK.out.mono ?_
              rintro e w8 ⟨rfl, b8⟩
              have HB8 := Lib.hid (below_join hBy.out b8 hBy.out.size)
              clear b8 x0 x1 HCK
              rcases hor with rfl | ⟨rfl, hyv⟩
              · go_wp2_with (fail)
                go_at_call 18
                refine (HWK.out _).mono ?_
                rintro e w9 ⟨rfl, b9⟩
                have HB9 := Lib.hid (below_join HBV.out (below_join HB8.out b9 HB8.out.size) HBV.out.size)
                clear b9
                go_wp2_with (fail)
                go_ret
                exact ⟨rfl, HB9.out⟩
              · have hyd : decide (y ≤ val) = true := decide_eq_true hyv
                clear hyv
                go_wp2_with (fail)
                go_at_call 18
                refine (HWK.out _).mono ?_
                rintro e w9 ⟨rfl, b9⟩
                have HB9 := Lib.hid (below_join HBV.out (below_join HB8.out b9 HB8.out.size) HBV.out.size)
                clear b9
                go_wp2_with (fail)
                go_ret
                exact ⟨rfl, HB9.out⟩
end Go.Proofs.Ytglpaihadongkaa
