/-
  DERIVED. Course, with the course's row the caller's own (stage 6).
-/
import Derived.Test.YthghinkicaafmaaBI
namespace Go.Proofs.Ythghinkicaafmaa
open Go.RowKit Go.Shelf
attribute [local go_sem] Oper.semAt_some
attribute [local go_sem ↓] Go.wp_at_zero Go.wp_at_succ
set_option maxRecDepth 100000

set_option maxHeartbeats 8000000 in
theorem c_CourseO (C : Int) (ps : List (Int × Int × Int)) (s : Int) (ins : List (List Int)) (n : Int) (P I : Value) (w : World) (hP : PtSl w P ps) (hI : LiSl w I ins) (r : Int) (hr : fltL C ps s ins n = r) (cs : List Int) (hcs : cs = if r = 0 then crsP C ps s ins n else []) :
    Calls Try.prog 13 #[lnV C P, .int .i64 s, I, .int .i64 n] w fun e w' => ∃ y, e = .returned (.tuple #[y, .int .i64 r]) ∧ w'.ownsRow w.heap.size 3 1 y cs.length (ints cs) ∧ Below w.heap.size w w' := by
  obtain ⟨W, hW⟩ : ∃ W, W = w.alloc (.cells #[.int .i64 C, P] 24) := ⟨_, rfl⟩
  have B0 : Below w.heap.size w W := by subst hW; exact (Below.refl _ _).alloc (Nat.le_refl _) _
  have HB := Lib.hid B0
  have HL := Lib.hid (show W.heap[w.heap.size]? = some (.cells #[.int .i64 C, P] 24 (0, 0)) by subst hW; exact heap_alloc_new _ _)
  have hz : w.heap.size < W.heap.size := by subst hW; simp
  have HC := Lib.hid (fun (r1 : Int) (h1 : fltL C ps s ins n = r1) => c_fault C ps s ins n P I W (hP.on B0 (Nat.le_refl _)) (hI.on B0 (Nat.le_refl _)) r1 h1)
  have HP := Lib.hid hP
  have HI := Lib.hid hI
  have HCS := Lib.hid hcs
  obtain ⟨A, c, rfl, -, -⟩ := hP.shape
  obtain ⟨A2, c2, rfl, -, -⟩ := hI.shape
  unfold lnV at HC
  unfold lnV
  clear B0 hP hI hcs
  by_cases h1 : r = 0
  · subst h1
    obtain ⟨g1, g2, g3, g4⟩ := flt_cases hr
    obtain ⟨g5, g6, g7⟩ := lnOk_iff.1 g1
    obtain ⟨m, rfl⟩ : ∃ m : Nat, n = (m : Int) := ⟨n.toNat, by omega⟩
    have hm1 : m ≤ 1000 := by omega
    have HR := Lib.hid hr
    have HS := Lib.hid (fun (U wa Z : World) (C0 : Int) (Mine : Nat → Prop) => lv_seq Mine (C0 := C0) (w0 := w) (U := U) (wa := wa) (Z := Z) g5 g4 (by omega : m ≤ 1000) g7 g6 g2 HP.out HI.out)
    have hcl : cs = crsP C ps s ins m := by rw [HCS.out]; rfl
    have HCL := Lib.hid hcl
    clear hr g1 g2 g3 g4 g5 g6 g7 hcl
    refine (callsIn_wide (n := 8)).1 ?_
    refine callsIn_of_wp_marks Try.func13 rfl trivial ?_ rfl
    simp only [Try.ntmps13, List.size_toArray, List.length_cons, List.length_nil, Nat.reduceAdd, Nat.reduceSub, Array.replicate_succ, Array.replicate_zero, List.push_toArray, List.append_toArray, List.nil_append, List.cons_append]
    rw [wpIn_wide]
    obtain ⟨x0, x1⟩ := lin_cells HL.out
    go_wp2_with (fail)
    rw [← hW]
    clear hW
    refine (HC.out _ HR.out).mono ?_
    rintro e w1 ⟨rfl, b1⟩
    have HB1 := Lib.hid (below_join HB.out b1 HB.out.size)
    have HL1 := Lib.hid ((b1.block _ hz).trans HL.out)
    have hz1 := Nat.lt_of_lt_of_le hz b1.size
    clear b1 x0 x1
    go_wp2_with (fail)
    obtain ⟨V, hV⟩ : ∃ V, V = w1.alloc (.cells #[.slice none 0 0] 32) := ⟨_, rfl⟩
    have HBV := Lib.hid (show Below w.heap.size w V by subst hV; exact HB1.out.alloc HB1.out.size _)
    have HLV := Lib.hid (show V.heap[w.heap.size]? = some (.cells #[.int .i64 C, .slice A ps.length c] 24 (0, 0)) by subst hV; exact old_heap _ HL1.out)
    have HXV := Lib.hid (show Boxed V w1.heap.size 32 (.slice none 0 0) by subst hV; exact Boxed.new _ _ _)
    have HZV := Lib.hid (show V.heap.size = w1.heap.size + 1 by subst hV; simp)
    have hzv : w.heap.size < V.heap.size := Nat.lt_of_lt_of_le hz1 (by rw [HZV.out]; exact Nat.le_succ _)
    rw [← hV]
    clear hV
    obtain ⟨i0, hi0, hzz0, hzz1, hzz2⟩ := info_parts int_info
    go_region_held3 (fun X => X.cell? ⟨w.heap.size, 0, none⟩ = some (.int .i64 C) ∧ X.cell? ⟨w.heap.size, 1, none⟩ = some (.slice A ps.length c))
      (first | exact lin_cells HLZ.out | exact lin_cells HLA.out | exact lin_cells (X := V.drew) HLV.out)
      (first
        | (go_at_call 35; (with_reducible refine (c_arrivalsW C (.slice A ps.length c) (.slice A2 ins.length c2) (m : Int) V.drew ⟨_, _, _, rfl⟩).mono ?_); rintro e wa ⟨rfl, hwa⟩; have HWA := Lib.hid hwa; have HLA := Lib.hid ((hwa.bel.block _ hzv).trans HLV.out); have HZA := Lib.hid hwa.size; clear hwa)
        | (go_at_call 34; (with_reducible refine (c_levelsA C s _ wa).mono ?_); rintro e wz ⟨rfl, hwz⟩; have HWZ := Lib.hid hwz; have HLZ := Lib.hid ((hwz.bel.block _ (Nat.lt_of_lt_of_le hzv HWA.out.bel.size)).trans HLA.out); clear hwz)
        | fail)
    have hza : wa.heap.size = V.heap.size + 3 := HZA.out
    have hbw := HB1.out.size
    have HSQ := Lib.hid (HS.out V.drew wa wz C (fun k => k = w1.heap.size) (fun k hk => by subst hk; exact ⟨hbw, by show w1.heap.size < V.heap.size; rw [HZV.out]; exact Nat.lt_succ_self _⟩) (HBV.out.drew) HWA.out HWZ.out)
    have HBZ := Lib.hid (below_join (below_join HBV.out.drew HWA.out.bel HBV.out.size) HWZ.out.bel (Nat.le_trans HBV.out.size HWA.out.bel.size))
    have HXZ := Lib.hid (show Boxed wz w1.heap.size 32 (.slice none 0 0) from (HWZ.out.bel.block _ (Nat.lt_of_lt_of_le HXV.out.lt HWA.out.bel.size)).trans ((HWA.out.bel.block _ HXV.out.lt).trans HXV.out))
    have hzZ : w1.heap.size < wz.heap.size := HXZ.out.lt
    clear hza HZA HZV
    unfold lvF
    go_wp2_with (fail)
    refine (wpIn_wide (n := 8)).1 ?_
    refine wpIn_it (n := 8) (by omega) (gf := 48) (lb := #[.pointer (some ⟨wa.heap.size + 1, 0, none⟩), .pointer (some ⟨wa.heap.size + 1 + 1, 0, none⟩), .pointer (some ⟨wa.heap.size, 0, none⟩)]) rfl eg_lv (m := 3) (Gd := fun k => k < wz.heap.size ∧ ¬ k = w1.heap.size) (ok := okL) (ts := lvI C 0 s (amts ps ins m)) (w0 := wz) HSQ.out (KpG.refl wz) (fun v t h => by rw [h]; rfl)
      (fun (pre : List (Nat × Int)) X => ColI w w1.heap.size (wz.heap.size + 2 + 3) (pre.map fun x : Nat × Int => x.2) X) (fun _ _ _ => False)
      (fun pre X Y h hE => h.own hE (by omega) (by omega)) (fun _ _ _ _ h _ => h.elim)
      (fun pre X l o o' h hl ho hc => h.put (by omega) ho hc) (fun _ _ _ _ _ _ h _ _ _ => h.elim)
      ⟨⟨_, HXZ.out, World.ownsRow_nil _ _ _ _, fun g hg => by cases hg⟩, HBZ.out⟩ ?round ?done (fun _ _ _ _ _ _ h _ => h.elim)
    case round =>
      intro l pre v x X K hpre hok hK
      obtain ⟨x1, x2⟩ := x
      obtain rfl : v = #[.int .i64 (x1 : Int), .int .i64 x2] := hok
      gi_wp2_with (fail)
      refine hK _ _ (Below.refl _ _) ?_
      rintro Y ⟨o, o', ho, hoc, hYe⟩ hsz ⟨⟨v, k1, k2, k3⟩, k4⟩
      have hlen : (pre.map (·.2)).length + 1 ≤ 1002 := by
        have h1 := hpre.length_le
        rw [lvI_len, amts_len] at h1
        rw [List.length_map]
        simp at h1
        omega
      have hcell := k1.cell
      have HK1 := Lib.hid k1
      have HK2 := Lib.hid k2
      have HK3 := Lib.hid k3
      have HK4 := Lib.hid k4
      have hbs := k4.size
      clear hYe ho hoc o o' hK k1 k2 k3 k4 hpre
      gi_wp2_with (gi_at_builtin; refine wpListIn_append_lies _ rfl _ _ 32 rfl w.heap.size 3 i0 (.int .i64 0) 1 8 Try.underlying32 hi0 hzz0 hzz1 hzz2 rfl (by decide) _ _ _ rfl (HK2.out.alloc _) ⟨Y.heap.size, 0, none⟩ 1 1 [.int .i64 x2] rfl rfl (one_at (heap_alloc_new _ _)) (by simp [Value.oneCell']) (by decide) (by unfold maxLen; omega) (by omega) (by simp; omega) (Y.heap.size + 1) (by simp) ?_)
      intro g2 cap2 Z hown hgrow hat
      obtain ⟨hv1, hc2, hkp, hkf⟩ := col_step (S0 := wz.heap.size + 2) (m := 3) (Gd := fun k => k < wz.heap.size ∧ ¬ k = w1.heap.size) (List.length_map _) (by omega) hbw (fun k hk => ⟨by have := hk.1; omega, hk.2⟩) hsz HK1.out HK2.out HK3.out HK4.out hown hgrow hat
      have hc1 := hv1.cell
      have hf1 := hv1.frozen
      have HC := Lib.hid hc2
      have HKP := Lib.hid hkp
      have HKF := Lib.hid hkf
      clear hv1 hc2 hkp hkf hown hgrow hat
      gi_wp2_with (fail)
      exact ⟨HKF.out _, HKP.out, by show ColI _ _ _ ((pre ++ [(x1, x2)]).map fun x : Nat × Int => x.2) _; rw [List.map_append]; exact HC.out⟩
    case done =>
      rintro D X rfl ⟨⟨v, k1, k2, k3⟩, k4⟩ hdef
      have hcell := k1.cell
      have HDEF := Lib.hid hdef
      have hlv : (lvI C 0 s (amts ps ins m)).map (·.2) = cs := by rw [HCL.out, lvI_snd]; rfl
      rw [hlv] at k2
      have HR := Lib.hid (show (X.putObj wz.heap.size (.deferred none)).ownsRow w.heap.size 3 1 v cs.length (ints cs) from own_row_kept k2 (fun g cur _ hc => put_cells hc hdef rfl))
      have HB4 := Lib.hid (below_put (o' := .deferred none) k4 (by omega : w.heap.size ≤ wz.heap.size))
      clear k1 k2 k3 k4 hdef hlv
      go_wp2_with (fail)
      refine ⟨by simp, .inl ⟨_, _, rfl, run_takeDeferred HDEF.out, ?_⟩⟩
      exact ⟨.tuple #[v, .int .i64 0], by simp [results, Try.results13, go_sem], v, rfl, HR.out, HB4.out⟩
  · have hne : (r != 0) = true := by rw [bne_iff_ne]; exact h1
    have HR := Lib.hid hr
    have hce : cs = [] := by rw [HCS.out, if_neg h1]
    have HE := Lib.hid hce
    obtain ⟨x0, x1⟩ := lin_cells HL.out
    clear hr h1 hce
    go_enter Try.func13, Try.ntmps13
    go_wp2_with (fail)
    rw [← hW]
    clear hW
    go_at_call 30
    refine (HC.out _ HR.out).mono ?_
    rintro e w1 ⟨rfl, b1⟩
    have HB1 := Lib.hid (below_join HB.out b1 HB.out.size)
    clear b1 x0 x1
    go_wp2_with (fail)
    exact retTT rfl rfl rfl rfl ⟨_, rfl, by rw [HE.out]; exact World.ownsRow_nil _ _ _ _, HB1.out⟩
end Go.Proofs.Ythghinkicaafmaa
