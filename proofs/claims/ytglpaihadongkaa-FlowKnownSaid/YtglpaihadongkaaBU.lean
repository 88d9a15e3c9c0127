/-
  DERIVED. Check of the landed package (stage 5).
-/
import Derived.Test.YtglpaihadongkaaBT
import Derived.Test.YtglpaihadongkaaBO
namespace Go.Proofs.Ytglpaihadongkaa
open Go.RowKit Go.Shelf
set_option maxRecDepth 100000
set_option linter.unusedSimpArgs false
set_option linter.unusedVariables false

theorem nfault_zero {N : Int} {l : List (Int × Int × Int)} {s t : Int} (h : nfault N l s t = 0) : ntOk N l = true ∧ ndOk N s = true ∧ ndOk N t = true ∧ s ≠ t := by
  unfold nfault at h
  split at h
  · rename_i h0
    split at h
    · rename_i h1
      simp only [Bool.and_eq_true, Bool.not_eq_true', beq_eq_false_iff_ne] at h1
      exact ⟨h0, h1.1, h1.2.1, h1.2.2⟩
    · cases h
  · cases h
theorem zip_bound {l : List (Int × Int × Int)} {xs : List Int} {M : Int} (k : Nat) (h : ∀ i, i < l.length → 0 ≤ xs.getD i 0 ∧ xs.getD i 0 ≤ M) : ∀ a ∈ zipX (l.take k) (xs.take k), 0 ≤ a.x ∧ a.x ≤ M := by
  intro a ha
  obtain ⟨i, hi, rfl⟩ := List.getElem_of_mem ha
  unfold zipX at hi ⊢
  rw [List.getElem_zipWith]
  simp only [List.length_zipWith, List.length_take] at hi
  have h1 := h i (by omega)
  have e : xs.getD i 0 = (xs.take k)[i]'(by rw [List.length_take]; omega) := by rw [List.getElem_take]; simp [show i < xs.length by omega]
  rw [e] at h1
  exact h1
theorem zip_len {l : List (Int × Int × Int)} {xs : List Int} {k : Nat} (h1 : k ≤ l.length) (h2 : xs.length = l.length) : (zipX (l.take k) (xs.take k)).length = k := by
  simp [zipX]; omega
set_option maxHeartbeats 16000000 in
theorem c_Check (N : Int) (L Xv : Value) (l : List (Int × Int × Int)) (s t : Int) (xs : List Int) (w : World) (hL : PtSl w L l) (hS : IntSl w Xv xs) (y r : Int) (hr : chkV N l s t xs = (y, r)) :
    Calls Try.prog 11 #[ntV N L, .int .i64 s, .int .i64 t, Xv] w fun e w' => e = .returned (.tuple #[.int .i64 y, .int .i64 r]) ∧ Below w.heap.size w w' := by
  obtain ⟨A, c, rfl, hc1, hc2⟩ := hL.shape
  obtain ⟨A2, c2, rfl, hd1, hd2⟩ := hS.shape
  unfold maxLen at hc2 hd2
  obtain ⟨W, hW⟩ : ∃ W, W = w.alloc (.cells #[.int .i64 N, .slice A l.length c] 24) := ⟨_, rfl⟩
  have B0 : Below w.heap.size w W := by subst hW; exact (Below.refl _ _).alloc (Nat.le_refl _) _
  have hzw : w.heap.size < W.heap.size := by subst hW; simp
  have HB0 := Lib.hid B0
  have HX := Lib.hid (show W.heap[w.heap.size]? = some (.cells #[.int .i64 N, .slice A l.length c] 24 (0, 0)) by subst hW; exact heap_alloc_new _ _)
  have x0 : W.cell? ⟨w.heap.size, 0, none⟩ = some (.int .i64 N) := cell_of HX.out rfl
  have x1 : W.cell? ⟨w.heap.size, 1, none⟩ = some (.slice A l.length c) := cell_of HX.out rfl
  have hLW := hL.on B0 (Nat.le_refl _)
  have HSW := Lib.hid (hS.on B0 (Nat.le_refl _))
  obtain ⟨r0, h0⟩ : ∃ b, nfault N l s t = b := ⟨_, rfl⟩
  have HF := Lib.hid (c_fault N (.slice A l.length c) l s t W hLW r0 h0)
  have HFI := Lib.hid (fun (X : World) (hX : PtSl X (.slice A l.length c) l) (hY : IntSl X (.slice A2 xs.length c2) xs) (hl : l.length ≤ 128) (r1 : Bool) (h : fitB l xs = r1) => c_fits N (.slice A l.length c) (.slice A2 xs.length c2) l xs X hX hY hl r1 h)
  have HLW := Lib.hid hLW
  have H0 := Lib.hid h0
  unfold chkV at hr
  rw [h0] at hr
  unfold ntV at HF HFI ⊢
  clear B0 hL hS hLW h0
  rw [hW] at x0 x1
  go_enter Try.func11, Try.ntmps11
  go_wp2_with (fail)
  rw [← hW]
  clear hW x0 x1
  go_at_call 31
  refine HF.out.mono ?_
  rintro e w1 ⟨rfl, hb⟩
  have HX1 := Lib.hid ((hb.block _ (at_lt HX.out)).trans HX.out)
  have x0 : w1.cell? ⟨w.heap.size, 0, none⟩ = some (.int .i64 N) := cell_of HX1.out rfl
  have x1 : w1.cell? ⟨w.heap.size, 1, none⟩ = some (.slice A l.length c) := cell_of HX1.out rfl
  have HB1 := Lib.hid (below_join HB0.out hb HB0.out.size)
  have HL1 := Lib.hid (HLW.out.on hb (Nat.le_refl _))
  have HS1 := Lib.hid (HSW.out.on hb (Nat.le_refl _))
  have hz1 : W.heap.size ≤ w1.heap.size := hb.size
  clear hb
  by_cases hr0 : r0 = 0
  · subst hr0
    rw [if_pos rfl] at hr
    obtain ⟨hok, hns, hnt, hst⟩ := nfault_zero H0.out
    obtain ⟨hN2, hN64, hl128, hall⟩ := ntOk_iff.1 hok
    obtain ⟨n, rfl⟩ : ∃ n : Nat, N = (n : Int) := ⟨N.toNat, by omega⟩
    obtain ⟨sn, rfl⟩ : ∃ m : Nat, s = (m : Int) := ⟨s.toNat, by have := (ndOk_iff.1 hns).1; omega⟩
    obtain ⟨tn, rfl⟩ : ∃ m : Nat, t = (m : Int) := ⟨t.toNat, by have := (ndOk_iff.1 hnt).1; omega⟩
    have hsn : sn < n := by have := (ndOk_iff.1 hns).2; omega
    have hsn' : (sn : Int) < (n : Int) := by omega
    have HALL := Lib.hid hall
    obtain ⟨r1, h1⟩ : ∃ b, fitB l xs = b := ⟨_, rfl⟩
    have HFI1 := Lib.hid (HFI.out w1 HL1.out HS1.out hl128 r1 h1)
    rw [h1] at hr
    have H1 := Lib.hid h1
    have HRR := Lib.hid hr
    clear hok hns hnt hst hall HFI h1 hr
    go_wp2_with (fail)
    go_at_call 32
    refine HFI1.out.mono ?_
    rintro e w2 ⟨rfl, hb⟩
    have HX2 := Lib.hid ((hb.block _ (at_lt HX1.out)).trans HX1.out)
    have HB2 := Lib.hid (below_join HB1.out hb HB1.out.size)
    have HL2 := Lib.hid (HL1.out.on hb (Nat.le_refl _))
    have HS2 := Lib.hid (HS1.out.on hb (Nat.le_refl _))
    have hz2 : w1.heap.size ≤ w2.heap.size := hb.size
    clear hb x0 x1
    have x0 : w2.cell? ⟨w.heap.size, 0, none⟩ = some (.int .i64 (n : Int)) := cell_of HX2.out rfl
    have x1 : w2.cell? ⟨w.heap.size, 1, none⟩ = some (.slice A l.length c) := cell_of HX2.out rfl
    cases r1
    · obtain ⟨rfl, rfl⟩ : (0 : Int) = y ∧ (13 : Int) = r := by simpa using HRR.out
      go_wp2_with (fail)
      exact retTT rfl rfl rfl rfl ⟨rfl, HB2.out⟩
    · obtain ⟨hxl, hxb⟩ := fitB_iff.1 H1.out
      have HXB := Lib.hid (show ∀ i, i < l.length → 0 ≤ xs.getD i 0 ∧ xs.getD i 0 ≤ 100000000 from fun i hi => by
        obtain ⟨b1, b2⟩ := hxb i hi
        refine ⟨b1, Int.le_trans b2 ?_⟩
        have e : l.getD i (0, 0, 0) = l[i] := by simp [hi]
        rw [e]
        exact (arOk_iff.1 (HALL.out _ (List.getElem_mem hi))).2.2.2.2)
      have HXL := Lib.hid hxl
      clear hxb hxl
      obtain ⟨i0, hi0, hzz0, hzz1, hzz2⟩ := info_parts int_info
      go_wp2_with (at_make; refine wpList_make_full (P := Try.prog) _ rfl _ _ 25 rfl w2.heap.size 3 i0 (.int .i64 0) 1 Try.underlying25 hi0 hzz0 hzz1 .i64 .i64 _ _ n rfl rfl rfl rfl (by rw [hzz2]; omega) (by unfold maxLen; omega) (Nat.le_refl _) ?_; intro w3 ho2 hg2; have HO2 := Lib.hid ho2; have HBE2 := Lib.hid ((Below.refl w2.heap.size w2).grown hg2 (Nat.le_refl _) (fun k hk => by cases hk)); have HX3 := Lib.hid ((HBE2.out.block _ (by omega)).trans HX2.out); have x31 : w3.cell? ⟨w.heap.size, 1, none⟩ = some (.slice A l.length c) := cell_of HX3.out rfl; clear ho2 hg2)
      obtain ⟨gb, hgb⟩ : ∃ g, g = w2.heap.size := ⟨_, rfl⟩
      rw [← hgb] at HO2 ⊢
      have HRW := Lib.hid (show Row w3 gb 0 (gainsL n (zipX (l.take 0) (xs.take 0))) from fun k x hx => by
        have hk : k < n := by have := (List.getElem?_eq_some_iff.1 hx).1; rw [gainsL_len] at this; exact this
        rw [gainsL_get _ hk] at hx
        rw [Nat.zero_add]
        refine ⟨?_, HO2.out.frozenAt k⟩
        rw [HO2.out.cellAt k (by omega)]
        have e : (Value.int .i64 0).cells = #[.int .i64 0] := rfl
        rw [e, Nat.mul_one, toList_madeCells_one, List.getElem?_replicate, if_pos hk]
        injection hx with hx
        rw [← hx]; rfl)
      have hg2 : gb < w3.heap.size := (ownsRow_lt HO2.out (g := gb) rfl).2
      have hgb1 : w2.heap.size ≤ gb := by omega
      have HGB := Lib.hid hgb
      have hz3 := HBE2.out.size
      have HL3 := Lib.hid (HL2.out.on HBE2.out (Nat.le_refl _))
      have HS3 := Lib.hid (HS2.out.on HBE2.out (Nat.le_refl _))
      clear hgb x0 x1 HO2
      clear x31
      go_loopw [33] (fun i wr => ∃ k : Nat, k ≤ l.length ∧ i = .int .i64 (k : Int) ∧ Hid (Out (fun b => b = gb) w3 wr) ∧ Hid (Row wr gb 0 (gainsL n (zipX (l.take k) (xs.take k))))) (fun i _ => l.length - (intOf i).toNat)
      case atStart => exact ⟨0, Nat.zero_le _, rfl, Lib.hid (Out.refl _), HRW⟩
      case round =>
        obtain ⟨k, hk, rfl, hB, hrow⟩ := hrel
        have hki : ((k : Nat) : Int).toNat = k := by omega
        have hBW : Below w2.heap.size w2 wr := (hB.out).below HBE2.out (fun i hi e => by omega)
        have HBW := Lib.hid hBW
        have hzr := hB.out.size
        by_cases hlt : k < l.length
        · obtain ⟨⟨u, v, cp⟩, hx⟩ : ∃ p, l[k]? = some p := ⟨_, List.getElem?_eq_getElem hlt⟩
          obtain ⟨z, hz⟩ : ∃ z, xs[k]? = some z := ⟨_, List.getElem?_eq_getElem (by rw [HXL.out]; exact hlt)⟩
          obtain ⟨b, o, c', e, hbb, -, -, y0, y1, y2⟩ := (HL2.out.on hBW (Nat.le_refl _)).at_ hx
          injection e with e1 hle e2
          clear hle
          subst e1 e2
          obtain ⟨b', o', c'', e, hbb', -, -, z0⟩ := (HS2.out.on hBW (Nat.le_refl _)).at_ hz
          injection e with e1 hle e2
          clear hle
          subst e1 e2
          obtain ⟨hu, hv, huv, hc0, hc1'⟩ := arOk_iff.1 (HALL.out _ (List.mem_of_getElem? hx))
          obtain ⟨un, rfl⟩ : ∃ m : Nat, u = (m : Int) := ⟨u.toNat, by have := hu.1; simp at this; omega⟩
          obtain ⟨vn, rfl⟩ : ∃ m : Nat, v = (m : Int) := ⟨v.toNat, by have := hv.1; simp at this; omega⟩
          have hun : un < n := by have := hu.2; simp at this; exact this
          have hvn : vn < n := by have := hv.2; simp at this; exact this
          have huv' : un ≠ vn := by intro e; apply huv; simp [e]
          have hun' : (un : Int) < (n : Int) := by omega
          have hvn' : (vn : Int) < (n : Int) := by omega
          have hzk : z = xs.getD k 0 := by simp [hz]
          have hzb := HXB.out k hlt
          rw [← hzk] at hzb
          obtain ⟨ls, hls⟩ : ∃ ls, ls = zipX (l.take k) (xs.take k) := ⟨_, rfl⟩
          have hll : ls.length = k := by rw [hls]; exact zip_len hk HXL.out
          have hgu := gain_bound (M := 100000000) (by omega) ls (by rw [hls]; exact zip_bound k HXB.out) un
          have hgv := gain_bound (M := 100000000) (by omega) ls (by rw [hls]; exact zip_bound k HXB.out) vn
          rw [hll] at hgu hgv
          have hk128 : k < 128 := by omega
          have hsnoc : gainsL n (zipX (l.take (k + 1)) (xs.take (k + 1))) = ((gainsL n ls).set un (gain ls un + z)).set vn (gain ls vn - z) := by
            rw [zipX_snoc hx hz, ← hls]
            exact gainsL_snoc ls { arOf ((un : Int), (vn : Int), cp) with x := z } (by simpa [arOf] using hun) (by simpa [arOf] using hvn) (by simpa [arOf] using huv')
          rw [← hls] at hrow
          have HSNOC := Lib.hid hsnoc
          obtain ⟨gu, hgu'⟩ : ∃ g, g = gain ls un := ⟨_, rfl⟩
          obtain ⟨gv, hgv'⟩ : ∃ g, g = gain ls vn := ⟨_, rfl⟩
          rw [← hgu'] at hgu
          rw [← hgv'] at hgv
          have HGU := Lib.hid hgu'
          have HGV := Lib.hid hgv'
          have hw1 : IntKind.i64.wrap (gu + z) = gu + z := IntWalk.i64_in _ (by omega)
          have hw2 : IntKind.i64.wrap (gv - z) = gv - z := IntWalk.i64_in _ (by omega)
          have HW1 := Lib.hid hw1
          have HW2 := Lib.hid hw2
          obtain ⟨V, hV⟩ : ∃ V, V = wr.alloc (.cells #[.int .i64 (un : Int), .int .i64 (vn : Int), .int .i64 cp] 39) := ⟨_, rfl⟩
          have HOV := Lib.hid (show Out (fun b => b = gb) w3 V by subst hV; exact hB.out.trans (Out.of_below ((Below.refl wr.heap.size wr).alloc (Nat.le_refl _) _) (Nat.le_refl _)))
          have HVA := Lib.hid (show V.heap[wr.heap.size]? = some (.cells #[.int .i64 (un : Int), .int .i64 (vn : Int), .int .i64 cp] 39 (0, 0)) by subst hV; exact heap_alloc_new _ _)
          have HRV := Lib.hid (show Row V gb 0 (gainsL n ls) by subst hV; exact hrow.out.kept fun cs t fr h => old_heap _ h)
          have a0 := (three_cells HVA.out).1
          have a1 := (three_cells HVA.out).2.1
          have a2 : V.cell? ⟨gb, un, none⟩ = some (.int .i64 gu) := by have h := (HRV.out un _ (gainsL_get ls hun)).1; rw [Nat.zero_add] at h; rw [HGU.out]; exact h
          have a3 : V.cell? ⟨b', o' + k, none⟩ = some (.int .i64 z) := by subst hV; exact alloc_cell z0 _
          have a4 : V.frozen? ⟨gb, un, none⟩ = false := by have h := (HRV.out un _ (gainsL_get ls hun)).2; rw [Nat.zero_add] at h; exact h
          have hgr : wr.heap.size ≠ gb := by omega
          have hkx : (k : Int) < (xs.length : Int) := by rw [HXL.out]; omega
          have hgb' : b' ≠ gb := by
            obtain ⟨b2, o2, c2', e, hbb2, -, -, -⟩ := HS2.out.at_ hz
            injection e with e1 _ _
            injection e1 with e1
            injection e1 with e1 _
            omega
          have hfm : Try.prog.follows Departure.mixedOrders = true := by kernel_rfl
          clear hx hz hbb hbb' hu hv huv hc0 hc1' hsnoc hls hll hgu' hgv' hw1 hw2 hzk hBW z0
          go_wp2_with (fail)
          rw [← hV]
          clear hV y0 y1 y2
          refine region_z 11 hfm (S := fun X => X.cell? ⟨wr.heap.size, 0, none⟩ = some (.int .i64 (un : Int)) ∧ X.cell? ⟨gb, un, none⟩ = some (.int .i64 gu) ∧ X.cell? ⟨b', o' + k, none⟩ = some (.int .i64 z)) ⟨a0, a2, a3⟩ (fun hHeld => ?_)
          refine takeZ 0 (some 38) (by kernel_rfl) rfl rfl (by kernel_rfl) (by kernel_rfl) (by kernel_rfl) (fun _ _ _ h => h) (by rfl) (by intro w ⟨g1, g2, g3⟩; go_simp; try with_reducible rfl) hHeld ?_
          simp only [Act.put, List.setIfInBounds_toArray, List.set_cons_zero, List.set_cons_succ]
          refine takeZ 1 (some 39) (by kernel_rfl) rfl rfl (by kernel_rfl) (by kernel_rfl) (by kernel_rfl) (fun _ _ _ h => h) (by rfl) (by intro w ⟨g1, g2, g3⟩; go_simp; try with_reducible rfl) hHeld ?_
          simp only [Act.put, List.setIfInBounds_toArray, List.set_cons_zero, List.set_cons_succ]
          refine takeZ 2 (some 40) (by kernel_rfl) rfl rfl (by kernel_rfl) (by kernel_rfl) (by kernel_rfl) (fun _ _ _ h => h) (by rfl) (by intro w ⟨g1, g2, g3⟩; go_simp; try with_reducible rfl) hHeld ?_
          simp only [Act.put, List.setIfInBounds_toArray, List.set_cons_zero, List.set_cons_succ]
          refine takeZ 3 (some 41) (by kernel_rfl) rfl rfl (by kernel_rfl) (by kernel_rfl) (by kernel_rfl) (fun _ _ _ h => h) (by rfl) (by intro w ⟨g1, g2, g3⟩; go_simp; try with_reducible rfl) hHeld ?_
          simp only [Act.put, List.setIfInBounds_toArray, List.set_cons_zero, List.set_cons_succ]
          refine takeZ 4 (some 42) (by kernel_rfl) rfl rfl (by kernel_rfl) (by kernel_rfl) (by kernel_rfl) (fun _ _ _ h => h) (by rfl) (by intro w ⟨g1, g2, g3⟩; go_simp; try with_reducible rfl) hHeld ?_
          simp only [Act.put, List.setIfInBounds_toArray, List.set_cons_zero, List.set_cons_succ]
          refine takeZ 5 (some 43) (by kernel_rfl) rfl rfl (by kernel_rfl) (by kernel_rfl) (by kernel_rfl) (fun _ _ _ h => h) (by rfl) (by intro w ⟨g1, g2, g3⟩; go_simp; try with_reducible rfl) hHeld ?_
          simp only [Act.put, List.setIfInBounds_toArray, List.set_cons_zero, List.set_cons_succ]
          refine takeZ 6 (some 44) (by kernel_rfl) rfl rfl (by kernel_rfl) (by kernel_rfl) (by kernel_rfl) (fun _ _ _ h => h) (by rfl) (by intro w ⟨g1, g2, g3⟩; go_simp; try with_reducible rfl) hHeld ?_
          simp only [Act.put, List.setIfInBounds_toArray, List.set_cons_zero, List.set_cons_succ]
          refine takeZ 7 (some 45) (by kernel_rfl) rfl rfl (by kernel_rfl) (by kernel_rfl) (by kernel_rfl) (fun _ _ _ h => h) (by rfl) (by intro w ⟨g1, g2, g3⟩; go_simp; try with_reducible rfl) hHeld ?_
          simp only [Act.put, List.setIfInBounds_toArray, List.set_cons_zero, List.set_cons_succ]
          refine takeZ 8 (some 46) (by kernel_rfl) rfl rfl (by kernel_rfl) (by kernel_rfl) (by kernel_rfl) (fun _ _ _ h => h) (by rfl) (by intro w ⟨g1, g2, g3⟩; go_simp; try with_reducible rfl) hHeld ?_
          simp only [Act.put, List.setIfInBounds_toArray, List.set_cons_zero, List.set_cons_succ]
          refine takeZ 9 (some 47) (by kernel_rfl) rfl rfl (by kernel_rfl) (by kernel_rfl) (by kernel_rfl) (fun _ _ _ h => h) (by rfl) (by intro w ⟨g1, g2, g3⟩; go_simp; try with_reducible rfl) hHeld ?_
          simp only [Act.put, List.setIfInBounds_toArray, List.set_cons_zero, List.set_cons_succ]
          rw [HW1.out]
          refine takeZ 10 (some 48) (by kernel_rfl) rfl rfl (by kernel_rfl) (by kernel_rfl) (by kernel_rfl) (fun _ _ _ h => h) (by rfl) (by intro w ⟨g1, g2, g3⟩; go_simp; try with_reducible rfl) hHeld ?_
          simp only [Act.put, List.setIfInBounds_toArray, List.set_cons_zero, List.set_cons_succ]
          clear hHeld
          refine oneZ 11 rfl (by kernel_rfl) (fun K hK => ?_)
          go_simp
          refine hK.out _ _ (.inl rfl) ?_
          clear hK K a0 a2 a4
          refine doneZ (by kernel_rfl) ?_ _
          obtain ⟨V2, hV2⟩ : ∃ V2, V2 = (V.setCell ⟨gb, un, none⟩ (.int .i64 (gu + z))).drew := ⟨_, rfl⟩
          have HOV2 := Lib.hid (show Out (fun b => b = gb) w3 V2 by subst hV2; exact (HOV.out.trans (Out.store (S := fun b => b = gb) rfl _)).trans Out.drew)
          have HRV2 := Lib.hid (show Row V2 gb 0 ((gainsL n ls).set un (gu + z)) by
            subst hV2
            have h := Row.set (X := V) (b := gb) (o := 0) (L := gainsL n ls) (j := un) (fun k x hx => HRV.out k x hx) (by rw [gainsL_len]; exact hun) (gu + z)
            rw [Nat.zero_add] at h; exact fun k x hx => h k x hx)
          have b1 : V2.cell? ⟨wr.heap.size, 1, none⟩ = some (.int .i64 (vn : Int)) := by subst hV2; rw [World.cell?_drew]; rw [World.cell?_setCell_other _ _ _ _ (fun e' => hgr (congrArg (fun a : Addr => a.block) e').symm)]; exact a1
          have b3 : V2.cell? ⟨b', o' + k, none⟩ = some (.int .i64 z) := by subst hV2; rw [World.cell?_drew]; rw [World.cell?_setCell_other _ _ _ _ (fun e' => hgb' (congrArg (fun a : Addr => a.block) e').symm)]; exact a3
          have hvget : ((gainsL n ls).set un (gu + z))[vn]? = some gv := by rw [List.getElem?_set_ne huv', gainsL_get ls hvn, HGV.out]
          have b2 : V2.cell? ⟨gb, vn, none⟩ = some (.int .i64 gv) := by have h := (HRV2.out vn _ hvget).1; rw [Nat.zero_add] at h; exact h
          have b4 : V2.frozen? ⟨gb, vn, none⟩ = false := by have h := (HRV2.out vn _ hvget).2; rw [Nat.zero_add] at h; exact h
          clear a1 a3 hvget
          go_wp2_with (fail)
          rw [← hV2]
          clear hV2
          refine region_z 11 hfm (S := fun X => X.cell? ⟨wr.heap.size, 1, none⟩ = some (.int .i64 (vn : Int)) ∧ X.cell? ⟨gb, vn, none⟩ = some (.int .i64 gv) ∧ X.cell? ⟨b', o' + k, none⟩ = some (.int .i64 z)) ⟨b1, b2, b3⟩ (fun hHeld => ?_)
          refine takeZ 0 (some 49) (by kernel_rfl) rfl rfl (by kernel_rfl) (by kernel_rfl) (by kernel_rfl) (fun _ _ _ h => h) (by rfl) (by intro w ⟨g1, g2, g3⟩; go_simp; try with_reducible rfl) hHeld ?_
          simp only [Act.put, List.setIfInBounds_toArray, List.set_cons_zero, List.set_cons_succ]
          refine takeZ 1 (some 50) (by kernel_rfl) rfl rfl (by kernel_rfl) (by kernel_rfl) (by kernel_rfl) (fun _ _ _ h => h) (by rfl) (by intro w ⟨g1, g2, g3⟩; go_simp; try with_reducible rfl) hHeld ?_
          simp only [Act.put, List.setIfInBounds_toArray, List.set_cons_zero, List.set_cons_succ]
          refine takeZ 2 (some 51) (by kernel_rfl) rfl rfl (by kernel_rfl) (by kernel_rfl) (by kernel_rfl) (fun _ _ _ h => h) (by rfl) (by intro w ⟨g1, g2, g3⟩; go_simp; try with_reducible rfl) hHeld ?_
          simp only [Act.put, List.setIfInBounds_toArray, List.set_cons_zero, List.set_cons_succ]
          refine takeZ 3 (some 52) (by kernel_rfl) rfl rfl (by kernel_rfl) (by kernel_rfl) (by kernel_rfl) (fun _ _ _ h => h) (by rfl) (by intro w ⟨g1, g2, g3⟩; go_simp; try with_reducible rfl) hHeld ?_
          simp only [Act.put, List.setIfInBounds_toArray, List.set_cons_zero, List.set_cons_succ]
          refine takeZ 4 (some 53) (by kernel_rfl) rfl rfl (by kernel_rfl) (by kernel_rfl) (by kernel_rfl) (fun _ _ _ h => h) (by rfl) (by intro w ⟨g1, g2, g3⟩; go_simp; try with_reducible rfl) hHeld ?_
          simp only [Act.put, List.setIfInBounds_toArray, List.set_cons_zero, List.set_cons_succ]
          refine takeZ 5 (some 54) (by kernel_rfl) rfl rfl (by kernel_rfl) (by kernel_rfl) (by kernel_rfl) (fun _ _ _ h => h) (by rfl) (by intro w ⟨g1, g2, g3⟩; go_simp; try with_reducible rfl) hHeld ?_
          simp only [Act.put, List.setIfInBounds_toArray, List.set_cons_zero, List.set_cons_succ]
          refine takeZ 6 (some 55) (by kernel_rfl) rfl rfl (by kernel_rfl) (by kernel_rfl) (by kernel_rfl) (fun _ _ _ h => h) (by rfl) (by intro w ⟨g1, g2, g3⟩; go_simp; try with_reducible rfl) hHeld ?_
          simp only [Act.put, List.setIfInBounds_toArray, List.set_cons_zero, List.set_cons_succ]
          refine takeZ 7 (some 56) (by kernel_rfl) rfl rfl (by kernel_rfl) (by kernel_rfl) (by kernel_rfl) (fun _ _ _ h => h) (by rfl) (by intro w ⟨g1, g2, g3⟩; go_simp; try with_reducible rfl) hHeld ?_
          simp only [Act.put, List.setIfInBounds_toArray, List.set_cons_zero, List.set_cons_succ]
          refine takeZ 8 (some 57) (by kernel_rfl) rfl rfl (by kernel_rfl) (by kernel_rfl) (by kernel_rfl) (fun _ _ _ h => h) (by rfl) (by intro w ⟨g1, g2, g3⟩; go_simp; try with_reducible rfl) hHeld ?_
          simp only [Act.put, List.setIfInBounds_toArray, List.set_cons_zero, List.set_cons_succ]
          refine takeZ 9 (some 58) (by kernel_rfl) rfl rfl (by kernel_rfl) (by kernel_rfl) (by kernel_rfl) (fun _ _ _ h => h) (by rfl) (by intro w ⟨g1, g2, g3⟩; go_simp; try with_reducible rfl) hHeld ?_
          simp only [Act.put, List.setIfInBounds_toArray, List.set_cons_zero, List.set_cons_succ]
          rw [HW2.out]
          refine takeZ 10 (some 59) (by kernel_rfl) rfl rfl (by kernel_rfl) (by kernel_rfl) (by kernel_rfl) (fun _ _ _ h => h) (by rfl) (by intro w ⟨g1, g2, g3⟩; go_simp; try with_reducible rfl) hHeld ?_
          simp only [Act.put, List.setIfInBounds_toArray, List.set_cons_zero, List.set_cons_succ]
          clear hHeld
          refine oneZ 11 rfl (by kernel_rfl) (fun K hK => ?_)
          go_simp
          refine hK.out _ _ (.inl rfl) ?_
          clear hK K b1 b2 b3 b4
          refine doneZ (by kernel_rfl) ?_ _
          have HREL := Lib.hid (show Out (fun b => b = gb) w3 ((V2.setCell ⟨gb, vn, none⟩ (.int .i64 (gv - z))).drew) ∧ Row ((V2.setCell ⟨gb, vn, none⟩ (.int .i64 (gv - z))).drew) gb 0 (gainsL n (zipX (l.take (k + 1)) (xs.take (k + 1)))) from ⟨(HOV2.out.trans (Out.store (S := fun b => b = gb) rfl _)).trans Out.drew, by
            have h := Row.set (X := V2) (b := gb) (o := 0) (L := (gainsL n ls).set un (gu + z)) (j := vn) (fun k x hx => HRV2.out k x hx) (by rw [List.length_set, gainsL_len]; exact hvn) (gv - z)
            rw [Nat.zero_add] at h
            rw [HSNOC.out, ← HGU.out, ← HGV.out]; exact fun k x hx => h k x hx⟩)
          go_wp2_with (fail)
          go_roundw
          case rel => exact ⟨k + 1, by omega, by go_num, Lib.hid HREL.out.1, Lib.hid HREL.out.2⟩
          case measure => simp only [intOf]; omega
        · obtain rfl : k = l.length := by omega
          have hyr := HRR.out
          obtain ⟨G, hG⟩ : ∃ G, G = zipX l xs := ⟨_, rfl⟩
          have hrow' := hrow.out
          rw [List.take_length, ← HXL.out, List.take_length, ← hG] at hrow'
          rw [← hG, if_pos trivial] at hyr
          have HROW := Lib.hid hrow'
          have HYR := Lib.hid hyr
          clear hrow' hyr hG hrow
          obtain ⟨wA, hwA⟩ : ∃ z, z = wr := ⟨_, rfl⟩
          subst hwA
          go_wp2_with (fail)
          go_loopw [63] (fun i wr => ∃ k : Nat, k ≤ n ∧ i = .int .i64 (k : Int) ∧ Hid (Below wA.heap.size wA wr) ∧ Hid ((List.range k).all (evenAt G (sn : Int) (tn : Int)) = true)) (fun i _ => n - (intOf i).toNat)
          case atStart => exact ⟨0, Nat.zero_le _, rfl, Lib.hid (Below.refl _ _), Lib.hid rfl⟩
          case round =>
            obtain ⟨k, hk, rfl, hBx, hev⟩ := hrel
            have hki : ((k : Nat) : Int).toNat = k := by omega
            have hrX := HROW.out.kept (Y := wr) fun cs t fr h => (hBx.out.block _ (at_lt h)).trans h
            have HBX := Lib.hid (below_join HB2.out (below_join HBW.out hBx.out HBW.out.size) HB2.out.size)
            by_cases hlt : k < n
            · have y0 := (hrX k _ (gainsL_get G hlt)).1
              rw [Nat.zero_add] at y0
              obtain ⟨g, hg⟩ : ∃ g, g = gain G k := ⟨_, rfl⟩
              rw [← hg] at y0
              have hkn : (k : Int) < (n : Int) := by omega
              have HEV := Lib.hid (show evenAt G (sn : Int) (tn : Int) k = (g == 0 || ((k : Int) == (sn : Int) || (k : Int) == (tn : Int))) by unfold evenAt; rw [hg])
              clear hrX hg
              rcases h1 : (g != 0) with _ | _
              · have HE2 := Lib.hid (range_all k hev.out (show evenAt G (sn : Int) (tn : Int) k = true by rw [HEV.out, show (g == 0) = true by simpa using h1]; rfl))
                go_wp2_with (fail)
                go_roundw
                case rel => exact ⟨k + 1, by omega, by go_num, hBx, HE2⟩
                case measure => simp only [intOf]; omega
              rcases h2 : ((k : Int) != (sn : Int)) with _ | _
              · have HE2 := Lib.hid (range_all k hev.out (show evenAt G (sn : Int) (tn : Int) k = true by rw [HEV.out, show ((k : Int) == (sn : Int)) = true by simpa using h2]; simp))
                go_wp2_with (fail)
                go_roundw
                case rel => exact ⟨k + 1, by omega, by go_num, hBx, HE2⟩
                case measure => simp only [intOf]; omega
              rcases h3 : ((k : Int) != (tn : Int)) with _ | _
              · have HE2 := Lib.hid (range_all k hev.out (show evenAt G (sn : Int) (tn : Int) k = true by rw [HEV.out, show ((k : Int) == (tn : Int)) = true by simpa using h3]; simp))
                go_wp2_with (fail)
                go_roundw
                case rel => exact ⟨k + 1, by omega, by go_num, hBx, HE2⟩
                case measure => simp only [intOf]; omega
              · have hno := range_not (f := evenAt G (sn : Int) (tn : Int)) hlt (by
                  rw [HEV.out, show (g == 0) = false by simpa using h1, show ((k : Int) == (sn : Int)) = false by simpa using h2, show ((k : Int) == (tn : Int)) = false by simpa using h3]; rfl)
                obtain ⟨rfl, rfl⟩ : (0 : Int) = y ∧ (13 : Int) = r := by have h := HYR.out; rw [Int.toNat_natCast, hno] at h; simpa using h
                go_wp2_with (fail)
                exact retTT rfl rfl rfl rfl ⟨rfl, HBX.out⟩
            · obtain rfl : k = n := by omega
              have y0 := (hrX sn _ (gainsL_get G hsn)).1
              rw [Nat.zero_add] at y0
              have hyr := HYR.out
              rw [Int.toNat_natCast, hev.out, if_pos rfl, Int.toNat_natCast] at hyr
              obtain ⟨h1, rfl⟩ : gain G sn = y ∧ (0 : Int) = r := by simpa using hyr
              rw [h1] at y0
              clear hrX hyr h1
              go_wp2_with (fail)
              exact retTT rfl rfl rfl rfl ⟨rfl, HBX.out⟩
  · have hrz : (r0 != 0) = true := by rw [bne_iff_ne]; exact hr0
    rw [if_neg hr0] at hr
    obtain ⟨rfl, rfl⟩ : (0 : Int) = y ∧ r0 = r := by simpa using hr
    clear hr0 hr
    go_wp2_with (fail)
    exact retTT rfl rfl rfl rfl ⟨rfl, HB1.out⟩
end Go.Proofs.Ytglpaihadongkaa
