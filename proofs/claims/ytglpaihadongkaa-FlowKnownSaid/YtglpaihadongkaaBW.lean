/-
  DERIVED. Critical of the landed package (stage 5).
-/
import Derived.Test.YtglpaihadongkaaBV
import Derived.Deep.Onto
namespace Go.Proofs.Ytglpaihadongkaa
open Go.RowKit Go.Shelf
set_option maxRecDepth 100000
set_option linter.unusedSimpArgs false
set_option linter.unusedVariables false

theorem Best.gr {N s t : Nat} {L : List (Int × Int × Int)} {lf : List Ar} {v : Int} (h : Best N s t L lf v) : Gr N (ends (arsOf L)) s t lf v := ⟨h.ends_, h.flow, h.value, h.no⟩
theorem Gr.best {N s t : Nat} {L : List (Int × Int × Int)} {lf : List Ar} {v : Int} (h : Gr N (ends (arsOf L)) s t lf v) : Best N s t L lf v := ⟨h.flow, h.net, h.val, h.done⟩
theorem Best.uniq {N s t : Nat} {L : List (Int × Int × Int)} {lf lf' : List Ar} {v v' : Int} (h : Best N s t L lf v) (k : Best N s t L lf' v') (hs : s < N) : v = v' := (h.gr.uniq k.gr hs).1
theorem ends_setCap (l : List Ar) (i : Nat) (c : Int) : ends (setCap l i c) = (ends l).modify i fun a => (a.1, a.2.1, c) := by
  unfold ends setCap
  apply List.ext_getElem?
  intro j
  simp only [List.getElem?_map, List.getElem?_modify]
  by_cases e : i = j
  · subst e; cases l[i]? <;> simp
  · simp [e]
theorem arsOf_zero (L : List (Int × Int × Int)) (i : Nat) : arsOf (zeroAt L i) = setCap (arsOf L) i 0 := by
  unfold arsOf zeroAt setCap
  apply List.ext_getElem?
  intro j
  simp only [List.getElem?_map, List.getElem?_modify]
  by_cases e : i = j
  · subst e; cases L[i]? <;> simp [arOf]
  · simp [e]
theorem ends_zero {lf : List Ar} {L : List (Int × Int × Int)} (h : ends lf = ends (arsOf L)) (i : Nat) : ends (setCap lf i 0) = ends (arsOf (zeroAt L i)) := by
  rw [arsOf_zero, ends_setCap, ends_setCap, h]
theorem ntOk_zero {N : Int} {l : List (Int × Int × Int)} (h : ntOk N l = true) (k : Nat) : ntOk N (zeroAt l k) = true := by
  obtain ⟨h1, h2, h3, h4⟩ := ntOk_iff.1 h
  refine ntOk_iff.2 ⟨h1, h2, by rw [zeroAt_len]; exact h3, fun a ha => ?_⟩
  obtain ⟨j, hj⟩ := List.getElem?_of_mem ha
  unfold zeroAt at hj
  rw [List.getElem?_modify] at hj
  obtain ⟨b, hb, e⟩ := Option.map_eq_some_iff.1 hj
  have hb' := h4 b (List.mem_of_getElem? hb)
  split at e
  · subst e
    obtain ⟨g1, g2, g3, g4, g5⟩ := arOk_iff.1 hb'
    exact arOk_iff.2 ⟨g1, g2, g3, Int.le_refl 0, (by decide : (0 : Int) ≤ 100000000)⟩
  · subst e; exact hb'
/-- Without an arc the greatest value is less. -/
def CrAt (N s t : Nat) (l : List (Int × Int × Int)) (val : Int) (i : Nat) : Prop := ∃ lf v, Best N s t (zeroAt l i) lf v ∧ v < val
noncomputable def crAt (N s t : Nat) (l : List (Int × Int × Int)) (val : Int) (i : Nat) : Bool := @decide (CrAt N s t l val i) (Classical.propDecidable _)
theorem crAt_iff {N s t : Nat} {l : List (Int × Int × Int)} {val : Int} {i : Nat} : crAt N s t l val i = true ↔ CrAt N s t l val i := by unfold crAt; exact @decide_eq_true_iff _ (Classical.propDecidable _)
theorem crAt_best {N s t : Nat} {l : List (Int × Int × Int)} {val v : Int} {i : Nat} {lf : List Ar} (h : Best N s t (zeroAt l i) lf v) (hs : s < N) : crAt N s t l val i = decide (v < val) := by
  rw [Bool.eq_iff_iff, crAt_iff, decide_eq_true_iff]
  exact ⟨fun ⟨lf', v', h', hlt⟩ => by rw [h.uniq h' hs]; exact hlt, fun hlt => ⟨lf, v, h, hlt⟩⟩
theorem crAt_idle {N s t : Nat} {l : List (Int × Int × Int)} {val : Int} {i : Nat} {lf : List Ar} {a : Ar} (h : Best N s t l lf val) (hs : s < N) (ha : lf[i]? = some a) (hx : a.x = 0) : crAt N s t l val i = false := by
  have hg := h.gr.idle hs ha hx
  rw [ends_zero h.ends_] at hg
  rw [crAt_best hg.best hs]
  exact decide_eq_false (by omega)
set_option maxHeartbeats 4000000 in
theorem c_CriticalE (N : Int) (L : Value) (l : List (Int × Int × Int)) (s t : Int) (w : World) (hL : PtSl w L l) (r : Int) (hr : nfault N l s t = r) (h0 : r ≠ 0) :
    Calls Try.prog 25 #[ntV N L, .int .i64 s, .int .i64 t] w fun e w' => e = .returned (.tuple #[.slice none 0 0, .int .i64 r]) ∧ Below w.heap.size w w' := by
  obtain ⟨A, c, rfl, hc1, hc2⟩ := hL.shape
  obtain ⟨W, hW⟩ : ∃ W, W = w.alloc (.cells #[.int .i64 N, .slice A l.length c] 24) := ⟨_, rfl⟩
  have B0 : Below w.heap.size w W := by subst hW; exact (Below.refl _ _).alloc (Nat.le_refl _) _
  have HB0 := Lib.hid B0
  have HX := Lib.hid (show W.heap[w.heap.size]? = some (.cells #[.int .i64 N, .slice A l.length c] 24 (0, 0)) by subst hW; exact heap_alloc_new _ _)
  have x0 : W.cell? ⟨w.heap.size, 0, none⟩ = some (.int .i64 N) := cell_of HX.out rfl
  have x1 : W.cell? ⟨w.heap.size, 1, none⟩ = some (.slice A l.length c) := cell_of HX.out rfl
  have HF := Lib.hid (c_fault N (.slice A l.length c) l s t W (hL.on B0 (Nat.le_refl _)) r hr)
  have hrz : (r != 0) = true := by rw [bne_iff_ne]; exact h0
  unfold ntV at HF ⊢
  clear B0 hL hr h0
  rw [hW] at x0 x1
  go_enter Try.func25, Try.ntmps25
  go_wp2_with (fail)
  rw [← hW]
  clear hW x0 x1
  go_at_call 31
  refine HF.out.mono ?_
  rintro e w1 ⟨rfl, hb⟩
  have HB := Lib.hid (below_join HB0.out hb HB0.out.size)
  clear hb
  go_wp2_with (fail)
  exact retTT rfl rfl rfl rfl ⟨rfl, HB.out⟩
/-- What Critical returns for a net and two nodes. -/
def CrPost (N s t : Nat) (l : List (Int × Int × Int)) (w : World) (e : Ending) (w' : World) : Prop :=
  ∃ (lf : List Ar) (val : Int) (v : Value) (xs : List Nat), e = .returned (.tuple #[v, .int .i64 0]) ∧ Best N s t l lf val ∧ xs = (List.range l.length).filter (crAt N s t l val) ∧ w'.ownsRow w.heap.size 3 1 v xs.length (ints (nats xs)) ∧ Below w.heap.size w w'
set_option maxHeartbeats 16000000 in
theorem c_Critical0 (N s t : Nat) (L : Value) (l : List (Int × Int × Int)) (hs : s < N) (ht : t < N) (hst : s ≠ t) (w : World) (hL : PtSl w L l) (hok : ntOk (N : Int) l = true) :
    Calls Try.prog 25 #[ntV (N : Int) L, .int .i64 (s : Int), .int .i64 (t : Int)] w (CrPost N s t l w) := by
  obtain ⟨A, c, rfl, hc1, hc2⟩ := hL.shape
  have hl128 := (ntOk_iff.1 hok).2.2.1
  have hf0 : nfault (N : Int) l (s : Int) (t : Int) = 0 := by
    unfold nfault
    rw [if_pos hok, show ndOk (N : Int) (s : Int) = true from ndOk_iff.2 (by omega), show ndOk (N : Int) (t : Int) = true from ndOk_iff.2 (by omega)]
    have : ((s : Int) == (t : Int)) = false := by rw [beq_eq_false_iff_ne]; omega
    rw [this]; rfl
  obtain ⟨W, hW⟩ : ∃ W, W = w.alloc (.cells #[.int .i64 (N : Int), .slice A l.length c] 24) := ⟨_, rfl⟩
  have B0 : Below w.heap.size w W := by subst hW; exact (Below.refl _ _).alloc (Nat.le_refl _) _
  have hzw : w.heap.size < W.heap.size := by subst hW; simp
  have HB0 := Lib.hid B0
  have HX := Lib.hid (show W.heap[w.heap.size]? = some (.cells #[.int .i64 (N : Int), .slice A l.length c] 24 (0, 0)) by subst hW; exact heap_alloc_new _ _)
  have x0 : W.cell? ⟨w.heap.size, 0, none⟩ = some (.int .i64 (N : Int)) := cell_of HX.out rfl
  have x1 : W.cell? ⟨w.heap.size, 1, none⟩ = some (.slice A l.length c) := cell_of HX.out rfl
  have hLW := hL.on B0 (Nat.le_refl _)
  have HOK := Lib.hid hok
  have HG2 := Lib.hid (fun (X : World) (L' : Value) (k : Nat) (hX : PtSl X L' (zeroAt l k)) => c_greatest N s t L' (zeroAt l k) hs ht hst X hX (ntOk_zero hok k))
  have HW := Lib.hid (fun (X : World) (k : Nat) (hk : k < l.length) (hX : PtSl X (.slice A l.length c) l) => c_without (N : Int) (.slice A l.length c) l k hk hl128 X hX)
  have HF := Lib.hid (c_fault (N : Int) (.slice A l.length c) l s t W hLW 0 hf0)
  have HG := Lib.hid (fun (X : World) (hX : PtSl X (.slice A l.length c) l) => c_greatest N s t (.slice A l.length c) l hs ht hst X hX hok)
  have HLW := Lib.hid hLW
  unfold ntV at HF HG HG2 HW ⊢
  clear B0 hL hok hf0 hLW
  rw [hW] at x0 x1
  go_enter Try.func25, Try.ntmps25
  go_wp2_with (fail)
  rw [← hW]
  clear hW x0 x1
  go_at_call 31
  refine HF.out.mono ?_
  rintro e w1 ⟨rfl, hb⟩
  have HX1 := Lib.hid ((hb.block _ (at_lt HX.out)).trans HX.out)
  have x0 : w1.cell? ⟨w.heap.size, 0, none⟩ = some (.int .i64 (N : Int)) := cell_of HX1.out rfl
  have x1 : w1.cell? ⟨w.heap.size, 1, none⟩ = some (.slice A l.length c) := cell_of HX1.out rfl
  have HB1 := Lib.hid (below_join HB0.out hb HB0.out.size)
  have HL1 := Lib.hid (HLW.out.on hb (Nat.le_refl _))
  have hz1 : W.heap.size ≤ w1.heap.size := hb.size
  clear hb
  go_wp2_with (fail)
  go_at_call 35
  refine (HG.out _ HL1.out).mono ?_
  rintro e w2 ⟨r, lf, val, rfl, hbest, hsh, hrr, hbR, -, -, hb2⟩
  obtain ⟨A1, n1, c1, hE⟩ := hsh.es
  obtain ⟨A2, n2, c2, hR⟩ := hsh.rs
  unfold Rs.val Rs.M
  rw [hE, hR]
  have HE := Lib.hid hE
  have HR := Lib.hid hR
  obtain ⟨b9, hb9⟩ : ∃ b, b = w2.heap.size := ⟨_, rfl⟩
  obtain ⟨V, hV⟩ : ∃ V, V = w2.alloc (.cells #[.slice A1 n1 c1, .slice A2 n2 c2, .slice (some ⟨r.bM, r.oM, none⟩) N r.cM] 64) := ⟨_, rfl⟩
  have hzV : V.heap.size = b9 + 1 := by subst hV; simp [hb9]
  have hzb : w1.heap.size ≤ b9 := by rw [hb9]; exact hb2.size
  have HBV := Lib.hid (show Below w.heap.size w V by subst hV; exact (below_join HB1.out hb2 HB1.out.size).alloc (by omega) _)
  have H9 := Lib.hid (show V.heap[b9]? = some (.cells #[.slice A1 n1 c1, .slice A2 n2 c2, .slice (some ⟨r.bM, r.oM, none⟩) N r.cM] 64 (0, 0)) by subst hV; exact row_new _ _ _ hb9)
  have HRR := Lib.hid (show Row V r.bR r.oR (rooms lf) by subst hV; exact hrr.kept fun cs t fr h => old_heap _ h)
  have HXV := Lib.hid (show V.heap[w.heap.size]? = some (.cells #[.int .i64 (N : Int), .slice A l.length c] 24 (0, 0)) by subst hV; exact old_heap _ ((hb2.block _ (by omega)).trans HX1.out))
  have HLV := Lib.hid (HL1.out.on (show Below w1.heap.size w1 V by subst hV; exact hb2.alloc hb2.size _) (Nat.le_refl _))
  have v1 : V.cell? ⟨w.heap.size, 1, none⟩ = some (.slice A l.length c) := cell_of HXV.out rfl
  have hll : lf.length = l.length := by rw [ends_len hbest.ends_, arsOf_len]
  have HSH := Lib.hid hsh
  have HBEST := Lib.hid hbest
  have HLL := Lib.hid hll
  obtain ⟨i1, hi1, hz1', hz2, hz3⟩ := info_parts int_info
  rw [hV] at v1
  clear hb2 hrr hsh hbest hE hR x0 x1 hll
  go_wp2_with (fail)
  rw [← hV]
  rw [← hb9]
  clear hV v1 hb9
  go_loopw [11, 32] (fun v i wr => ∃ k : Nat, k ≤ l.length ∧ i = .int .i64 (k : Int) ∧ Hid (Below V.heap.size V wr) ∧ Hid (wr.ownsRow V.heap.size 3 1 v ((List.range k).filter (crAt N s t l val)).length (ints (nats ((List.range k).filter (crAt N s t l val)))))) (fun _ i _ => l.length - (intOf i).toNat)
  case atStart => exact ⟨0, Nat.zero_le _, rfl, Lib.hid (Below.refl _ _), Lib.hid (World.ownsRow_nil _ _ _ _)⟩
  case round =>
    obtain ⟨k, hk, rfl, hB, ho⟩ := hrel
    have hki : ((k : Nat) : Int).toNat = k := by omega
    have h9 := (hB.out.block _ (at_lt H9.out)).trans H9.out
    obtain ⟨y0, y1, y2⟩ := three_cells h9
    by_cases hlt : k < l.length
    · obtain ⟨a, ha⟩ : ∃ a, lf[k]? = some a := ⟨_, List.getElem?_eq_getElem (by rw [HLL.out]; exact hlt)⟩
      have HC := Lib.hid (c_carried r N k lf a ha (by rw [HLL.out]; exact hl128) HSH.out wr (HRR.out.kept fun cs t fr h => (hB.out.block _ (at_lt h)).trans h))
      unfold Rs.val Rs.M at HC
      rw [HE.out, HR.out] at HC
      have HAK := Lib.hid ha
      have hln : ((List.range k).filter (crAt N s t l val)).length ≤ 128 := Nat.le_trans (List.length_filter_le _ _) (by rw [List.length_range]; omega)
      obtain ⟨nn, hnn⟩ : ∃ n, n = ((List.range k).filter (crAt N s t l val)).length := ⟨_, rfl⟩
      rw [← hnn] at ho hln
      have HNN := Lib.hid hnn
      obtain ⟨As, ns, cs, rfl⟩ := own_shape ho.out
      clear h9 ha hnn
      go_wp2_with (fail)
      go_at_call 36
      refine HC.out.mono ?_
      rintro e w3 ⟨rfl, hb3⟩
      have HB3 := Lib.hid (below_join hB.out hb3 hB.out.size)
      have HO3 := Lib.hid (own_row_kept ho.out fun g cur _ hc => (hb3.block _ (at_lt hc)).trans hc)
      have hz3' := HB3.out.size
      obtain ⟨x, hx⟩ : ∃ x, x = a.x := ⟨_, rfl⟩
      rw [← hx]
      have HXA := Lib.hid hx
      clear hb3 y0 y1 y2 hx
      by_cases hx0 : x = 0
      · have hno := crAt_idle HBEST.out hs HAK.out (by rw [← HXA.out]; exact hx0)
        have hxb : (x == 0) = true := by rw [hx0]; rfl
        have HO := Lib.hid (show w3.ownsRow V.heap.size 3 1 (.slice As ns cs) ((List.range (k + 1)).filter (crAt N s t l val)).length (ints (nats ((List.range (k + 1)).filter (crAt N s t l val)))) by
          rw [range_filter, hno]
          simp only [Bool.false_eq_true, if_false, List.append_nil]
          rw [← HNN.out]; exact HO3.out)
        clear hno hx0
        go_wp2_with (fail)
        go_roundw
        case rel => exact ⟨k + 1, by omega, by go_num, HB3, HO⟩
        case measure => simp only [intOf]; omega
      · have hxb : (x == 0) = false := by rw [beq_eq_false_iff_ne]; exact hx0
        have h3X := (HB3.out.block _ (by omega)).trans HXV.out
        have x0 : w3.cell? ⟨w.heap.size, 0, none⟩ = some (.int .i64 (N : Int)) := cell_of h3X rfl
        have x1 : w3.cell? ⟨w.heap.size, 1, none⟩ = some (.slice A l.length c) := cell_of h3X rfl
        have HWI := Lib.hid (HW.out w3 k hlt (HLV.out.on HB3.out (Nat.le_refl _)))
        clear h3X hx0
        go_wp2_with (fail)
        go_at_call 40
        refine HWI.out.mono ?_
        rintro e w4 ⟨L4, rfl, hpt4, hb4⟩
        have HG4 := Lib.hid (HG2.out w4 L4 k hpt4)
        have HB4 := Lib.hid (below_join HB3.out hb4 HB3.out.size)
        have HO4 := Lib.hid (own_row_kept HO3.out fun g cur _ hc => (hb4.block _ (at_lt hc)).trans hc)
        have hz4 := hb4.size
        clear hpt4 hb4 x0 x1 HWI
        go_wp2_with (fail)
        go_at_call 35
        refine HG4.out.mono ?_
        rintro e w5 ⟨r5, lf5, val5, rfl, hbest5, hsh5, -, -, -, -, hb5⟩
        obtain ⟨A5, n5, c5, hE5⟩ := hsh5.es
        obtain ⟨A6, n6, c6, hR5⟩ := hsh5.rs
        unfold Rs.val Rs.M
        rw [hE5, hR5]
        have hcr := crAt_best (val := val) hbest5 hs
        have hz5 := hb5.size
        obtain ⟨U, hU⟩ : ∃ U, U = w5.alloc (.cells #[.slice A5 n5 c5, .slice A6 n6 c6, .slice (some ⟨r5.bM, r5.oM, none⟩) N r5.cM] 64) := ⟨_, rfl⟩
        have HBU := Lib.hid (show Below V.heap.size V U by subst hU; exact (below_join HB4.out hb5 HB4.out.size).alloc (by omega) _)
        have HOU := Lib.hid (show U.ownsRow V.heap.size 3 1 (.slice As ns cs) nn (ints (nats ((List.range k).filter (crAt N s t l val)))) by subst hU; exact own_row_kept HO4.out fun g cur _ hc => old_heap _ ((hb5.block _ (at_lt hc)).trans hc))
        have hzU : w5.heap.size + 1 = U.heap.size := by subst hU; simp
        have HCR := Lib.hid hcr
        clear hbest5 hsh5 hb5 hE5 hR5 hcr HG4
        rcases hcmp : decide (val5 < val) with _ | _
        · have HO := Lib.hid (show U.ownsRow V.heap.size 3 1 (.slice As ns cs) ((List.range (k + 1)).filter (crAt N s t l val)).length (ints (nats ((List.range (k + 1)).filter (crAt N s t l val)))) by
            rw [range_filter, HCR.out, hcmp]
            simp only [Bool.false_eq_true, if_false, List.append_nil]
            rw [← HNN.out]; exact HOU.out)
          go_wp2_with (fail)
          rw [← hU]
          go_roundw
          case rel => exact ⟨k + 1, by omega, by go_num, HBU, HO⟩
          case measure => simp only [intOf]; omega
        · subst hU
          clear hzU
          go_wp2_with (at_builtin; refine wpList_append_lies _ rfl _ _ 25 rfl V.heap.size 3 i1 (.int .i64 0) 1 8 Try.underlying25 hi1 hz1' hz2 hz3 rfl (by decide) (.slice As ns cs) nn _ rfl (HOU.out.alloc _) ⟨w5.heap.size + 1, 0, none⟩ 1 1 [.int .i64 (k : Int)] rfl rfl (World.news_of_block (row_new _ _ _ (by simp))) (by simp [Value.oneCell']) (by decide) (by unfold maxLen; omega) (by omega) (by simp; omega) ((w5.alloc (.cells #[.slice A5 n5 c5, .slice A6 n6 c6, .slice (some ⟨r5.bM, r5.oM, none⟩) N r5.cM] 64)).heap.size + 1) (by simp) ?_; intro g4 cap4 Z hown hgrow _ _; have HBZ := Lib.hid ((HBU.out.alloc HBU.out.size _).grown hgrow (by simp; omega) (fun k hk => (ownsRow_lt HOU.out hk).1)); have HOZ := Lib.hid hown; clear hown hgrow)
          have HO := Lib.hid (show Z.ownsRow V.heap.size 3 1 (.slice (some ⟨g4, 0, none⟩) (nn + 1) cap4) ((List.range (k + 1)).filter (crAt N s t l val)).length (ints (nats ((List.range (k + 1)).filter (crAt N s t l val)))) by
            rw [range_filter, HCR.out, hcmp]
            simp only [if_true, List.length_append, List.length_singleton]
            rw [← HNN.out, show nats ((List.range k).filter (crAt N s t l val) ++ [k]) = nats ((List.range k).filter (crAt N s t l val)) ++ [(k : Int)] by simp [nats], ints_snoc]
            exact HOZ.out)
          go_roundw
          case rel => exact ⟨k + 1, by omega, by go_num, HBZ, HO⟩
          case measure => simp only [intOf]; omega
    · obtain rfl : k = l.length := by omega
      have HP := Lib.hid (fun (hd : True) => show CrPost N s t l w (.returned (.tuple #[u11, .int .i64 0])) wr from ⟨lf, val, u11, _, rfl, HBEST.out, rfl, own_mono ho.out HBV.out.size, below_join HBV.out hB.out HBV.out.size⟩)
      clear h9
      go_wp2_with (fail)
      exact retTT rfl rfl rfl rfl (HP.out trivial)
end Go.Proofs.Ytglpaihadongkaa
