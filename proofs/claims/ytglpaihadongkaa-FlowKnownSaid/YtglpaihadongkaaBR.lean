/-
  DERIVED. Cut of the landed package (stage 5).
-/
import Derived.Test.YtglpaihadongkaaBQ
namespace Go.Proofs.Ytglpaihadongkaa
open Go.RowKit Go.Shelf
set_option maxRecDepth 100000
set_option linter.unusedSimpArgs false
set_option linter.unusedVariables false
set_option maxHeartbeats 4000000 in
theorem c_CutE (N : Int) (L : Value) (l : List (Int × Int × Int)) (s t : Int) (w : World) (hL : PtSl w L l) (r : Int) (hr : nfault N l s t = r) (h0 : r ≠ 0) :
    Calls Try.prog 22 #[ntV N L, .int .i64 s, .int .i64 t] w fun e w' => e = .returned (.tuple #[.slice none 0 0, .int .i64 r]) ∧ Below w.heap.size w w' := by
  obtain ⟨A, c, rfl, hc1, hc2⟩ := hL.shape
  obtain ⟨W, hW⟩ : ∃ W, W = w.alloc (.cells #[.int .i64 N, .slice A l.length c] 24) := ⟨_, rfl⟩
  have B0 : Below w.heap.size w W := by subst hW; exact (Below.refl _ _).alloc (Nat.le_refl _) _
  have HB0 := Lib.hid B0
  have HX := Lib.hid (show W.heap[w.heap.size]? = some (.cells #[.int .i64 N, .slice A l.length c] 24 (0, 0)) by subst hW; exact heap_alloc_new _ _)
  have x0 : W.cell? ⟨w.heap.size, 0, none⟩ = some (.int .i64 N) := cell_of HX.out rfl
  have x1 : W.cell? ⟨w.heap.size, 1, none⟩ = some (.slice A l.length c) := cell_of HX.out rfl
  have HF := Lib.hid (c_fault N (.slice A l.length c) l s t W (hL.on B0 (Nat.le_refl _)) r hr)
  have hrz : (r != 0) = true := by rw [bne_iff_ne]; exact h0
  unfold ntV at HF ⊢
  clear B0 hL hr h0
  rw [hW] at x0 x1
  go_enter Try.func22, Try.ntmps22
  go_wp2_with (fail)
  rw [← hW]
  clear hW x0 x1
  go_at_call 31
  refine HF.out.mono ?_
  rintro e w1 ⟨rfl, hb⟩
  have HB := Lib.hid (below_join HB0.out hb HB0.out.size)
  clear hb
  go_wp2_with (fail)
  exact retTT rfl rfl rfl rfl ⟨rfl, HB.out⟩
/-- What Cut returns for a net and two nodes. -/
def CtPost (N s t : Nat) (l : List (Int × Int × Int)) (w : World) (e : Ending) (w' : World) : Prop :=
  ∃ (lf : List Ar) (val : Int) (v : Value) (xs : List Nat), e = .returned (.tuple #[v, .int .i64 0]) ∧ Best N s t l lf val ∧ xs = (List.range N).filter (reachB lf s) ∧ w'.ownsRow w.heap.size 3 1 v xs.length (ints (nats xs)) ∧ Below w.heap.size w w'
theorem far_filter {l : List Ar} {s N : Nat} {F : List Int} (h : IsFar l s (ff F)) : (List.range N).filter (fun n => ff F n != -1) = (List.range N).filter (reachB l s) := by
  refine List.filter_congr fun n _ => ?_
  rw [Bool.eq_iff_iff, reachB_iff, h.iff n, bne_iff_ne]
theorem range_filter {f : Nat → Bool} (k : Nat) : (List.range (k + 1)).filter f = (List.range k).filter f ++ if f k then [k] else [] := by
  rw [List.range_succ, List.filter_append]
  congr 1
  cases h : f k <;> simp [h]
set_option maxHeartbeats 8000000 in
theorem c_Cut0 (N s t : Nat) (L : Value) (l : List (Int × Int × Int)) (hs : s < N) (ht : t < N) (hst : s ≠ t) (w : World) (hL : PtSl w L l) (hok : ntOk (N : Int) l = true) :
    Calls Try.prog 22 #[ntV (N : Int) L, .int .i64 (s : Int), .int .i64 (t : Int)] w (CtPost N s t l w) := by
  obtain ⟨A, c, rfl, hc1, hc2⟩ := hL.shape
  have hl128 := (ntOk_iff.1 hok).2.2.1
  have hf0 : nfault (N : Int) l (s : Int) (t : Int) = 0 := by
    unfold nfault
    rw [if_pos hok, show ndOk (N : Int) (s : Int) = true from ndOk_iff.2 (by omega), show ndOk (N : Int) (t : Int) = true from ndOk_iff.2 (by omega)]
    have : ((s : Int) == (t : Int)) = false := by rw [beq_eq_false_iff_ne]; omega
    rw [this]; rfl
  obtain ⟨W, hW⟩ : ∃ W, W = w.alloc (.cells #[.int .i64 (N : Int), .slice A l.length c] 24) := ⟨_, rfl⟩
  have B0 : Below w.heap.size w W := by subst hW; exact (Below.refl _ _).alloc (Nat.le_refl _) _
  have hzw : w.heap.size < W.heap.size := by subst hW; simp
  have HB0 := Lib.hid B0
  have HX := Lib.hid (show W.heap[w.heap.size]? = some (.cells #[.int .i64 (N : Int), .slice A l.length c] 24 (0, 0)) by subst hW; exact heap_alloc_new _ _)
  have x0 : W.cell? ⟨w.heap.size, 0, none⟩ = some (.int .i64 (N : Int)) := cell_of HX.out rfl
  have x1 : W.cell? ⟨w.heap.size, 1, none⟩ = some (.slice A l.length c) := cell_of HX.out rfl
  have hLW := hL.on B0 (Nat.le_refl _)
  have HF := Lib.hid (c_fault (N : Int) (.slice A l.length c) l s t W hLW 0 hf0)
  have HG := Lib.hid (fun (X : World) (hX : PtSl X (.slice A l.length c) l) => c_greatest N s t (.slice A l.length c) l hs ht hst X hX hok)
  have HLW := Lib.hid hLW
  have HOK := Lib.hid hok
  unfold ntV at HF HG ⊢
  clear B0 hL hok hf0 hLW
  rw [hW] at x0 x1
  go_enter Try.func22, Try.ntmps22
  go_wp2_with (fail)
  rw [← hW]
  clear hW x0 x1
  go_at_call 31
  refine HF.out.mono ?_
  rintro e w1 ⟨rfl, hb⟩
  have HX1 := Lib.hid ((hb.block _ (at_lt HX.out)).trans HX.out)
  have x0 : w1.cell? ⟨w.heap.size, 0, none⟩ = some (.int .i64 (N : Int)) := cell_of HX1.out rfl
  have x1 : w1.cell? ⟨w.heap.size, 1, none⟩ = some (.slice A l.length c) := cell_of HX1.out rfl
  have HB1 := Lib.hid (below_join HB0.out hb HB0.out.size)
  have HL1 := Lib.hid (HLW.out.on hb (Nat.le_refl _))
  have hz1 : W.heap.size ≤ w1.heap.size := hb.size
  clear hb
  go_wp2_with (fail)
  go_at_call 35
  refine (HG.out _ HL1.out).mono ?_
  rintro e w2 ⟨r, lf, val, rfl, hbest, hsh, hrr, hbR, -, hfx, hb2⟩
  have hnl : ∀ a ∈ lf, a.u < N ∧ a.v < N := hbest.flow.nodes
  have hok2 := HOK.out
  have hN2 := (ntOk_iff.1 hok2).1
  have hN64 := (ntOk_iff.1 hok2).2.1
  obtain ⟨A1, n1, c1, hE⟩ := hsh.es
  obtain ⟨A2, n2, c2, hR⟩ := hsh.rs
  unfold Rs.val Rs.M
  rw [hE, hR]
  have HE := Lib.hid hE
  have HR := Lib.hid hR
  obtain ⟨b9, hb9⟩ : ∃ b, b = w2.heap.size := ⟨_, rfl⟩
  obtain ⟨V, hV⟩ : ∃ V, V = w2.alloc (.cells #[.slice A1 n1 c1, .slice A2 n2 c2, .slice (some ⟨r.bM, r.oM, none⟩) N r.cM] 64) := ⟨_, rfl⟩
  have hzV : V.heap.size = b9 + 1 := by subst hV; simp [hb9]
  have hzb : w1.heap.size ≤ b9 := by rw [hb9]; exact hb2.size
  have HBV := Lib.hid (show Below w.heap.size w V by subst hV; exact (below_join HB1.out hb2 HB1.out.size).alloc (by omega) _)
  have H9 := Lib.hid (show V.heap[b9]? = some (.cells #[.slice A1 n1 c1, .slice A2 n2 c2, .slice (some ⟨r.bM, r.oM, none⟩) N r.cM] 64 (0, 0)) by subst hV; exact row_new _ _ _ hb9)
  have HRR := Lib.hid (show Row V r.bR r.oR (rooms lf) by subst hV; exact hrr.kept fun cs t fr h => old_heap _ h)
  have HDI := Lib.hid (c_distances r N s lf (by omega) hs (by rw [ends_len hbest.ends_, arsOf_len]; omega) hnl hsh V (by subst hV; simp; omega) (fun Y hY => hfx Y ⟨Nat.le_trans (by subst hV; simp) hY.size, fun k cs t fr hk hc => hY.same k cs t fr (by have := at_lt hc; omega) (by subst hV; exact old_heap _ hc)⟩) HRR.out)
  unfold Rs.val Rs.M at HDI
  rw [hE, hR] at HDI
  have HXV := Lib.hid (show V.heap[w.heap.size]? = some (.cells #[.int .i64 (N : Int), .slice A l.length c] 24 (0, 0)) by subst hV; exact old_heap _ ((hb2.block _ (by omega)).trans HX1.out))
  have v1 : V.cell? ⟨w.heap.size, 1, none⟩ = some (.slice A l.length c) := cell_of HXV.out rfl
  have hll : lf.length = l.length := by rw [ends_len hbest.ends_, arsOf_len]
  have HSH := Lib.hid hsh
  have HBEST := Lib.hid hbest
  have HLL := Lib.hid hll
  obtain ⟨i1, hi1, hz1', hz2, hz3⟩ := info_parts int_info
  rw [hV] at v1
  clear hb2 hrr hsh hbest hE hR x0 x1 hll hfx
  go_wp2_with (fail)
  rw [← hV]
  rw [← hb9]
  clear hV v1 hb9
  obtain ⟨y0, y1, y2⟩ := three_cells H9.out
  go_at_call 38
  refine HDI.out.mono ?_
  rintro e w3 ⟨F, g, rfl, hrow, hFl, hfar, -, -, hb3⟩
  have HROW := Lib.hid hrow
  have HFL := Lib.hid hFl
  have HFAR := Lib.hid hfar
  have HB3 := Lib.hid (below_join HBV.out hb3 HBV.out.size)
  clear hrow hFl hfar hb3 y0 y1 y2 HDI
  go_wp2_with (fail)
  go_loopw [11, 32] (fun v i wr => ∃ k : Nat, k ≤ N ∧ i = .int .i64 (k : Int) ∧ Hid (Below w3.heap.size w3 wr) ∧ Hid (wr.ownsRow w3.heap.size 3 1 v ((List.range k).filter (fun n => ff F n != -1)).length (ints (nats ((List.range k).filter (fun n => ff F n != -1)))))) (fun _ i _ => N - (intOf i).toNat)
  case atStart => exact ⟨0, Nat.zero_le _, rfl, Lib.hid (Below.refl _ _), Lib.hid (World.ownsRow_nil _ _ _ _)⟩
  case round =>
    obtain ⟨k, hk, rfl, hB, ho⟩ := hrel
    have hki : ((k : Nat) : Int).toNat = k := by omega
    by_cases hlt : k < N
    · have hkF : F[k]? = some (ff F k) := ff_at (by rw [HFL.out]; exact hlt)
      have y0 := ((HROW.out.kept (Y := wr) fun cs t fr h => (hB.out.block _ (at_lt h)).trans h) k _ hkF).1
      rw [Nat.zero_add] at y0
      have hkN' : (k : Int) < (N : Int) := by omega
      have hln : ((List.range k).filter (fun n => ff F n != -1)).length ≤ 64 := Nat.le_trans (List.length_filter_le _ _) (by rw [List.length_range]; omega)
      obtain ⟨nn, hnn⟩ : ∃ n, n = ((List.range k).filter (fun n => ff F n != -1)).length := ⟨_, rfl⟩
      obtain ⟨x, hx⟩ : ∃ x, x = ff F k := ⟨_, rfl⟩
      rw [← hnn] at ho hln
      rw [← hx] at y0
      have HNN := Lib.hid hnn
      have HXX := Lib.hid hx
      obtain ⟨As, ns, cs, rfl⟩ := own_shape ho.out
      have hz3' := hB.out.size
      clear hkF hnn hx
      by_cases hf : x = -1
      · have hf' : (x != -1) = false := by rw [hf]; rfl
        have HO := Lib.hid (show wr.ownsRow w3.heap.size 3 1 (.slice As ns cs) ((List.range (k + 1)).filter (fun n => ff F n != -1)).length (ints (nats ((List.range (k + 1)).filter (fun n => ff F n != -1)))) by
          rw [range_filter, show (ff F k != -1) = false by rw [← HXX.out]; exact hf']
          simp only [Bool.false_eq_true, if_false, List.append_nil]
          rw [← HNN.out]; exact ho.out)
        clear hf
        go_wp2_with (fail)
        go_roundw
        case rel => exact ⟨k + 1, by omega, by go_num, hB, HO⟩
        case measure => simp only [intOf]; omega
      · have hf' : (x != -1) = true := by rw [bne_iff_ne]; exact hf
        clear hf
        go_wp2_with (at_builtin; refine wpList_append_lies _ rfl _ _ 25 rfl w3.heap.size 3 i1 (.int .i64 0) 1 8 Try.underlying25 hi1 hz1' hz2 hz3 rfl (by decide) (.slice As ns cs) nn _ rfl (ho.out.alloc _) ⟨wr.heap.size, 0, none⟩ 1 1 [.int .i64 (k : Int)] rfl rfl (World.news_of_block (heap_alloc_new _ _)) (by simp [Value.oneCell']) (by decide) (by unfold maxLen; omega) (by omega) (by simp; omega) (wr.heap.size + 1) (by simp) ?_; intro g4 cap4 Z hown hgrow _ _; have HBZ := Lib.hid ((hB.out.alloc hB.out.size _).grown hgrow (by simp; omega) (fun k hk => (ownsRow_lt ho.out hk).1)); have HOZ := Lib.hid hown; clear hown hgrow)
        have HO := Lib.hid (show Z.ownsRow w3.heap.size 3 1 (.slice (some ⟨g4, 0, none⟩) (nn + 1) cap4) ((List.range (k + 1)).filter (fun n => ff F n != -1)).length (ints (nats ((List.range (k + 1)).filter (fun n => ff F n != -1)))) by
          rw [range_filter, show (ff F k != -1) = true by rw [← HXX.out]; exact hf']
          simp only [if_true, List.length_append, List.length_singleton]
          rw [← HNN.out, show nats ((List.range k).filter (fun n => ff F n != -1) ++ [k]) = nats ((List.range k).filter (fun n => ff F n != -1)) ++ [(k : Int)] by simp [nats], ints_snoc]
          exact HOZ.out)
        go_roundw
        case rel => exact ⟨k + 1, by omega, by go_num, HBZ, HO⟩
        case measure => simp only [intOf]; omega
    · obtain rfl : N = k := by omega
      have HP := Lib.hid (fun (hd : True) => show CtPost N s t l w (.returned (.tuple #[u11, .int .i64 0])) wr from ⟨lf, val, u11, _, rfl, HBEST.out, (far_filter HFAR.out), own_mono ho.out HB3.out.size, below_join HB3.out hB.out HB3.out.size⟩)
      go_wp2_with (fail)
      exact retTT rfl rfl rfl rfl (HP.out trivial)
end Go.Proofs.Ytglpaihadongkaa
