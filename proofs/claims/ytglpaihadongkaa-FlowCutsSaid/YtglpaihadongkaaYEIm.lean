/-
  DERIVED. Several texts in one.
-/
import Derived.Test.YtglpaihadongkaaEH
import Derived.Test.YtglpaihadongkaaDI
set_option linter.unusedVariables false
set_option linter.unusedSimpArgs false

/- DERIVED. The reference's Cut (stage 5). -/
namespace Go.Proofs.Ytglpaihadongkaa
open Go.RowKit Go.Shelf
set_option maxRecDepth 100000
set_option linter.unusedSimpArgs false
set_option linter.unusedVariables false

theorem d_CutE (N : Int) (L : Value) (l : List (Int × Int × Int)) (s t : Int) (w : World) (hL : PtSl w L l) (r : Int) (hr : nfault N l s t = r) (h0 : r ≠ 0) :
    Calls Try.prog 23 #[ntV N L, .int .i64 s, .int .i64 t] w fun e w' => e = .returned (.tuple #[.slice none 0 0, .int .i64 r]) ∧ Below w.heap.size w w' := by
  obtain ⟨A, c, rfl, hc1, hc2⟩ := hL.shape
  obtain ⟨W, hW⟩ : ∃ W, W = w.alloc (.cells #[.int .i64 N, .slice A l.length c] 24) := ⟨_, rfl⟩
  have B0 : Below w.heap.size w W := by subst hW; exact (Below.refl _ _).alloc (Nat.le_refl _) _
  have HB0 := Lib.hid B0
  have HX := Lib.hid (show W.heap[w.heap.size]? = some (.cells #[.int .i64 N, .slice A l.length c] 24 (0, 0)) by subst hW; exact heap_alloc_new _ _)
  have x0 : W.cell? ⟨w.heap.size, 0, none⟩ = some (.int .i64 N) := cell_of HX.out rfl
  have x1 : W.cell? ⟨w.heap.size, 1, none⟩ = some (.slice A l.length c) := cell_of HX.out rfl
  have HF := Lib.hid (d_asked N (.slice A l.length c) l s t W (hL.on B0 (Nat.le_refl _)) r hr)
  have hrz : (r != 0) = true := by rw [bne_iff_ne]; exact h0
  unfold ntV at HF ⊢
  clear B0 hL hr h0
  rw [hW] at x0 x1
  go_enter Try.func23, Try.ntmps23
  go_wp2_with (fail)
  rw [← hW]
  clear hW x0 x1
  go_at_call 33
  refine HF.out.mono ?_
  rintro e w1 ⟨rfl, hb⟩
  have HB := Lib.hid (below_join HB0.out hb HB0.out.size)
  clear hb
  go_wp2_with (fail)
  exact retTT rfl rfl rfl rfl ⟨rfl, HB.out⟩
theorem reach_is {N s : Nat} {lf : List Ar} {B : List Stp} {seen : List Nat} (hR : Srch lf s N B seen) (hC : Clo lf seen seen.length) : ∀ k x, B[k]? = some x → x.is = reachB lf s k := fun k x hk => by
  rw [Bool.eq_iff_iff, reachB_iff, hR.done hC]
  exact hR.is_ k x hk
set_option maxHeartbeats 16000000 in
theorem d_Cut0 (N s t : Nat) (L : Value) (l : List (Int × Int × Int)) (hs : s < N) (ht : t < N) (hst : s ≠ t) (w : World) (hL : PtSl w L l) (hok : ntOk (N : Int) l = true) :
    Calls Try.prog 23 #[ntV (N : Int) L, .int .i64 (s : Int), .int .i64 (t : Int)] w (CtPost N s t l w) := by
  obtain ⟨A, c, rfl, hc1, hc2⟩ := hL.shape
  have hN64 := (ntOk_iff.1 hok).2.1
  obtain ⟨W, hW⟩ : ∃ W, W = w.alloc (.cells #[.int .i64 (N : Int), .slice A l.length c] 24) := ⟨_, rfl⟩
  have B0 : Below w.heap.size w W := by subst hW; exact (Below.refl _ _).alloc (Nat.le_refl _) _
  have HB0 := Lib.hid B0
  have HX := Lib.hid (show W.heap[w.heap.size]? = some (.cells #[.int .i64 (N : Int), .slice A l.length c] 24 (0, 0)) by subst hW; exact heap_alloc_new _ _)
  have HP := Lib.hid (fun (X : World) (hX : Below W.heap.size W X) => (⟨⟨cell_of ((hX.block _ (at_lt HX.out)).trans HX.out) rfl, cell_of ((hX.block _ (at_lt HX.out)).trans HX.out) rfl⟩, (hL.on B0 (Nat.le_refl _)).on hX (Nat.le_refl _)⟩ : (X.cell? ⟨w.heap.size, 0, none⟩ = some (.int .i64 (N : Int)) ∧ X.cell? ⟨w.heap.size, 1, none⟩ = some (.slice A l.length c)) ∧ PtSl X (.slice A l.length c) l))
  have HF := Lib.hid (fun (X : World) (hX : PtSl X (.slice A l.length c) l) => d_asked (N : Int) (.slice A l.length c) l (s : Int) (t : Int) X hX 0 (nfault_ok hok hs ht hst))
  have HG := Lib.hid (fun (X : World) (hX : PtSl X (.slice A l.length c) l) => d_greatest N s t (.slice A l.length c) l hs ht hst X hX hok)
  have HR := Lib.hid (fun (lf : List Ar) (v : Int) (h : Best N s t l lf v) (F : Value) (X : World) (hX : PtSl X (.slice A l.length c) l) (hF : IntSl X F (xsOf lf)) => c_reached N s (.slice A l.length c) l lf F hs X hX hF hok h.ends_ h.flow.fits)
  obtain ⟨⟨x0, x1⟩, pt⟩ := HP.out W (Below.refl _ _)
  have HF1 := Lib.hid (HF.out W pt)
  obtain ⟨i1, hi1, hz1', hz2, hz3⟩ := info_parts int_info
  unfold ntV at HF1 HG HR ⊢
  clear B0 hL hok hst pt HF
  rw [hW] at x0 x1
  go_enter Try.func23, Try.ntmps23
  go_wp2_with (fail)
  rw [← hW]
  clear hW x0 x1
  go_at_call 33
  refine HF1.out.mono ?_
  rintro e w1 ⟨rfl, hb⟩
  have HB1 := Lib.hid hb
  clear hb
  go_wp2_with (fail)
  go_region_held3 (fun X => X.cell? ⟨w.heap.size, 0, none⟩ = some (.int .i64 (N : Int)) ∧ X.cell? ⟨w.heap.size, 1, none⟩ = some (.slice A l.length c))
    (first | exact (HP.out v2 HBv2.out).1 | exact (HP.out v1 HBv1.out).1 | exact (HP.out w1 HB1.out).1)
    (first
      | (go_at_call 37; (with_reducible refine (HG.out w1.drew (HP.out w1.drew HB1.out.drew).2).mono ?_); rintro e v1 ⟨lf, F, rfl, hbest, hF, bb0⟩; have HBv1 := Lib.hid (below_join HB1.out.drew bb0 HB1.out.size); have HBE := Lib.hid hbest; have HF1 := Lib.hid hF; clear bb0 hbest hF)
      | (go_at_call 39; (with_reducible refine (HR.out lf _ HBE.out F v1 (HP.out v1 HBv1.out).2 HF1.out).mono ?_); rintro e v2 ⟨g, B, seen, rfl, hSB, hg, hR, hC, bb0⟩; have HBv2 := Lib.hid (below_join HBv1.out bb0 HBv1.out.size); have HSB := Lib.hid hSB; have HLN := Lib.hid hR.len; have HIS := Lib.hid (reach_is hR hC); clear bb0 hSB hR hC hg)
      | fail)
  clear HF1 HG HR
  have HB2 := Lib.hid (below_join HB0.out HBv2.out HB0.out.size)
  have hz2' := HBv2.out.size
  go_wp2_with (fail)
  go_loopw [10, 11] (fun v i wr => ∃ k : Nat, k ≤ N ∧ i = .int .i64 (k : Int) ∧ Hid (Below v2.heap.size v2 wr) ∧ Hid (wr.ownsRow v2.heap.size 3 1 v ((List.range k).filter (reachB lf s)).length (ints (nats ((List.range k).filter (reachB lf s)))))) (fun _ i _ => N - (intOf i).toNat)
  case atStart => exact ⟨0, Nat.zero_le _, rfl, Lib.hid (Below.refl _ _), Lib.hid (World.ownsRow_nil _ _ _ _)⟩
  case round =>
    obtain ⟨k, hk, rfl, hB, ho⟩ := hrel
    have hki : ((k : Nat) : Int).toNat = k := by omega
    obtain ⟨x0, -⟩ := (HP.out wr (below_join HBv2.out hB.out HBv2.out.size)).1
    by_cases hlt : k < N
    · obtain ⟨bt, hbt⟩ : ∃ x, B[k]? = some x := ⟨_, List.getElem?_eq_getElem (by rw [HLN.out]; exact hlt)⟩
      obtain ⟨-, -, -, c3⟩ := StpAt.cells (show StpAt wr g B from (hB.out.block _ (at_lt HSB.out)).trans HSB.out) hbt
      have HI := Lib.hid (HIS.out k bt hbt)
      have hkN' : (k : Int) < (N : Int) := by omega
      have hln : ((List.range k).filter (reachB lf s)).length ≤ 64 := Nat.le_trans (List.length_filter_le _ _) (by rw [List.length_range]; omega)
      obtain ⟨nn, hnn⟩ : ∃ n, n = ((List.range k).filter (reachB lf s)).length := ⟨_, rfl⟩
      rw [← hnn] at ho hln
      have HNN := Lib.hid hnn
      obtain ⟨As, ns, cs, rfl⟩ := own_shape ho.out
      have hz3' := hB.out.size
      clear hbt hnn
      rcases hbi : bt.is with _ | _
      · have HO := Lib.hid (show wr.ownsRow v2.heap.size 3 1 (.slice As ns cs) ((List.range (k + 1)).filter (reachB lf s)).length (ints (nats ((List.range (k + 1)).filter (reachB lf s)))) by
          rw [range_filter, ← HI.out, hbi]
          simp only [Bool.false_eq_true, if_false, List.append_nil]
          rw [← HNN.out]; exact ho.out)
        rw [hbi] at c3
        clear hbi
        go_wp2_with (fail)
        go_roundw
        case rel => exact ⟨k + 1, by omega, by go_num, hB, HO⟩
        case measure => simp only [intOf]; omega
      · have HBI := Lib.hid hbi
        rw [hbi] at c3
        clear hbi
        go_wp2_with (at_builtin; refine wpList_append_lies _ rfl _ _ 25 rfl v2.heap.size 3 i1 (.int .i64 0) 1 8 Try.underlying25 hi1 hz1' hz2 hz3 rfl (by decide) (.slice As ns cs) nn _ rfl (ho.out.alloc _) ⟨wr.heap.size, 0, none⟩ 1 1 [.int .i64 (k : Int)] rfl rfl (World.news_of_block (heap_alloc_new _ _)) (by simp [Value.oneCell']) (by decide) (by unfold maxLen; omega) (by omega) (by simp; omega) (wr.heap.size + 1) (by simp) ?_; intro g4 cap4 Z hown hgrow _ _; have HBZ := Lib.hid ((hB.out.alloc hB.out.size _).grown hgrow (by simp; omega) (fun k hk => (ownsRow_lt ho.out hk).1)); have HOZ := Lib.hid hown; clear hown hgrow)
        have HO := Lib.hid (show Z.ownsRow v2.heap.size 3 1 (.slice (some ⟨g4, 0, none⟩) (nn + 1) cap4) ((List.range (k + 1)).filter (reachB lf s)).length (ints (nats ((List.range (k + 1)).filter (reachB lf s)))) by
          rw [range_filter, ← HI.out, HBI.out]
          simp only [if_true, List.length_append, List.length_singleton]
          rw [← HNN.out, show nats ((List.range k).filter (reachB lf s) ++ [k]) = nats ((List.range k).filter (reachB lf s)) ++ [(k : Int)] by simp [nats], ints_snoc]
          exact HOZ.out)
        go_roundw
        case rel => exact ⟨k + 1, by omega, by go_num, HBZ, HO⟩
        case measure => simp only [intOf]; omega
    · obtain rfl : N = k := by omega
      have HPO := Lib.hid (fun (hd : True) => show CtPost N s t l w (.returned (.tuple #[u10, .int .i64 0])) wr from ⟨lf, _, u10, _, rfl, HBE.out, rfl, own_mono ho.out HB2.out.size, below_join HB2.out hB.out HB2.out.size⟩)
      go_wp2_with (fail)
      exact retTT rfl rfl rfl rfl (HPO.out trivial)
end Go.Proofs.Ytglpaihadongkaa

/- DERIVED. The reference's Critical (stage 5). -/
namespace Go.Proofs.Ytglpaihadongkaa
open Go.RowKit Go.Shelf
set_option maxRecDepth 100000
set_option linter.unusedSimpArgs false
set_option linter.unusedVariables false

theorem news_pt {X : World} {b o c : Nat} {l m : List (Int × Int × Int)} {i : Nat} (h : PtSl X (.slice (some ⟨b, o, none⟩) l.length c) l) (hm : ∀ j x, m[j]? = some x → l[i + j]? = some x) : ∀ j u, (cellsA m)[j]? = some u → X.cell? ((⟨b, o + i * 3, none⟩ : Addr).add j) = some u := by
  intro j u hj
  obtain ⟨p, hp, hu⟩ := cellsA_of hj
  obtain ⟨b', o', c', e, hlt, -, -, y0, y1, y2⟩ := h.at_ (hm _ _ hp)
  injection e with e _ _
  injection e with e
  injection e with e1 e2
  subst e1 e2
  have e : (⟨b, o + i * 3, none⟩ : Addr).add j = ⟨b, o + i * 3 + j, none⟩ := by unfold Addr.add; split <;> simp_all
  rw [e]
  rcases hu with ⟨e3, rfl⟩ | ⟨e3, rfl⟩ | ⟨e3, rfl⟩
  · rw [show o + i * 3 + j = o + (i + j / 3) * 3 by omega]; exact y0
  · rw [show o + i * 3 + j = o + (i + j / 3) * 3 + 1 by omega]; exact y1
  · rw [show o + i * 3 + j = o + (i + j / 3) * 3 + 2 by omega]; exact y2
theorem rest_run {l : List (Int × Int × Int)} {b o c j : Nat} (hj : j ≤ l.length) (hc : l.length ≤ c) (hm : c ≤ maxLen) : ∃ ad cc, (∀ W' : World, (Instr.slice 22 (.slice (some ⟨b, o, none⟩) l.length c) (some (.int .i64 (j : Int))) none none).run Try.prog W' = .ok (.slice (some ad) (l.length - j) cc) W') ∧
    ∀ X : World, PtSl X (.slice (some ⟨b, o, none⟩) l.length c) l → ∀ i u, (cellsA (l.drop j))[i]? = some u → X.cell? (ad.add i) = some u := by
  have hu := Try.underlying22
  obtain ⟨i0, hi0, hz0, hz1, hz2⟩ := info_parts arc_info
  have hjc : (j : Int) ≤ (l.length : Int) := by omega
  have hlc : (l.length : Int) ≤ (c : Int) := by omega
  unfold maxLen at hm
  by_cases h : c = j
  · have hl : l.length = j := by omega
    refine ⟨⟨b, o, none⟩, 0, fun W' => ?_, fun X hX i u hi => ?_⟩
    · rw [hl, h]
      go_simp
    · rw [List.drop_eq_nil_of_le (by omega)] at hi
      simp [cellsA] at hi
  · refine ⟨⟨b, o + j * 3, none⟩, c - j, fun W' => ?_, fun X hX => news_pt hX (fun i x hx => by rw [List.getElem?_drop] at hx; exact hx)⟩
    go_simp
theorem ntOk_erase {N : Int} {l : List (Int × Int × Int)} (h : ntOk N l = true) (k : Nat) : ntOk N (l.eraseIdx k) = true := by
  obtain ⟨h1, h2, h3, h4⟩ := ntOk_iff.1 h
  exact ntOk_iff.2 ⟨h1, h2, by have := List.length_eraseIdx_le l k; omega, fun a ha => h4 a (List.mem_of_mem_eraseIdx ha)⟩
theorem d_CriticalE (N : Int) (L : Value) (l : List (Int × Int × Int)) (s t : Int) (w : World) (hL : PtSl w L l) (r : Int) (hr : nfault N l s t = r) (h0 : r ≠ 0) :
    Calls Try.prog 26 #[ntV N L, .int .i64 s, .int .i64 t] w fun e w' => e = .returned (.tuple #[.slice none 0 0, .int .i64 r]) ∧ Below w.heap.size w w' := by
  obtain ⟨A, c, rfl, hc1, hc2⟩ := hL.shape
  obtain ⟨W, hW⟩ : ∃ W, W = w.alloc (.cells #[.int .i64 N, .slice A l.length c] 24) := ⟨_, rfl⟩
  have B0 : Below w.heap.size w W := by subst hW; exact (Below.refl _ _).alloc (Nat.le_refl _) _
  have HB0 := Lib.hid B0
  have HX := Lib.hid (show W.heap[w.heap.size]? = some (.cells #[.int .i64 N, .slice A l.length c] 24 (0, 0)) by subst hW; exact heap_alloc_new _ _)
  have x0 : W.cell? ⟨w.heap.size, 0, none⟩ = some (.int .i64 N) := cell_of HX.out rfl
  have x1 : W.cell? ⟨w.heap.size, 1, none⟩ = some (.slice A l.length c) := cell_of HX.out rfl
  have HF := Lib.hid (d_MaxE N (.slice A l.length c) l s t W (hL.on B0 (Nat.le_refl _)) r hr h0)
  have hrz : (r != 0) = true := by rw [bne_iff_ne]; exact h0
  unfold ntV at HF ⊢
  clear B0 hL hr h0
  rw [hW] at x0 x1
  go_enter Try.func26, Try.ntmps26
  go_wp2_with (fail)
  rw [← hW]
  clear hW x0 x1
  go_at_call 20
  refine HF.out.mono ?_
  rintro e w1 ⟨rfl, hb⟩
  have HB := Lib.hid (below_join HB0.out hb HB0.out.size)
  clear hb
  go_wp2_with (fail)
  exact retTT rfl rfl rfl rfl ⟨rfl, HB.out⟩
set_option maxHeartbeats 16000000 in
theorem d_Critical0 (N s t : Nat) (L : Value) (l : List (Int × Int × Int)) (hs : s < N) (ht : t < N) (hst : s ≠ t) (w : World) (hL : PtSl w L l) (hok : ntOk (N : Int) l = true) :
    Calls Try.prog 26 #[ntV (N : Int) L, .int .i64 (s : Int), .int .i64 (t : Int)] w (CrPost N s t l w) := by
  obtain ⟨A, c, rfl, hc1, hc2⟩ := hL.shape
  have hc3 := hc2
  have hl128 := (ntOk_iff.1 hok).2.2.1
  unfold maxLen at hc2
  obtain ⟨W, hW⟩ : ∃ W, W = w.alloc (.cells #[.int .i64 (N : Int), .slice A l.length c] 24) := ⟨_, rfl⟩
  have B0 : Below w.heap.size w W := by subst hW; exact (Below.refl _ _).alloc (Nat.le_refl _) _
  have HB0 := Lib.hid B0
  have HX := Lib.hid (show W.heap[w.heap.size]? = some (.cells #[.int .i64 (N : Int), .slice A l.length c] 24 (0, 0)) by subst hW; exact heap_alloc_new _ _)
  have HP := Lib.hid (fun (X : World) (hX : Below W.heap.size W X) => (⟨⟨cell_of ((hX.block _ (at_lt HX.out)).trans HX.out) rfl, cell_of ((hX.block _ (at_lt HX.out)).trans HX.out) rfl⟩, (hL.on B0 (Nat.le_refl _)).on hX (Nat.le_refl _)⟩ : (X.cell? ⟨w.heap.size, 0, none⟩ = some (.int .i64 (N : Int)) ∧ X.cell? ⟨w.heap.size, 1, none⟩ = some (.slice A l.length c)) ∧ PtSl X (.slice A l.length c) l))
  have HM := Lib.hid (fun (X : World) (hX : PtSl X (.slice A l.length c) l) => d_Max0 N s t (.slice A l.length c) l hs ht hst X hX hok)
  have HM2 := Lib.hid (fun (k : Nat) (L' : Value) (X : World) (hX : PtSl X L' (l.eraseIdx k)) => d_Max0 N s t L' (l.eraseIdx k) hs ht hst X hX (ntOk_erase hok k))
  have HCE := Lib.hid (fun (k : Nat) (hk : k < l.length) (lf : List Ar) (v val : Int) (h : Best N s t (l.eraseIdx k) lf v) => crAt_erase (val := val) h hok hs hk)
  obtain ⟨⟨x0, x1⟩, pt⟩ := HP.out W (Below.refl _ _)
  have HM1 := Lib.hid (HM.out W pt)
  obtain ⟨i1, hi1, hz1', hz2, hz3⟩ := info_parts int_info
  obtain ⟨i0, hi0, hzz1, hzz2, hzz3⟩ := info_parts arc_info
  have HC3 := Lib.hid hc3
  unfold ntV at HM1 HM2 ⊢
  clear B0 hL hok hst pt HM hc3
  rw [hW] at x0 x1
  go_enter Try.func26, Try.ntmps26
  go_wp2_with (fail)
  rw [← hW]
  clear hW x0 x1
  go_at_call 20
  refine HM1.out.mono ?_
  rintro e v1 ⟨lf, val, F, rfl, hbest, hF, hb⟩
  have HBv1 := Lib.hid hb
  have HBE := Lib.hid hbest
  have HB1 := Lib.hid (below_join HB0.out hb HB0.out.size)
  obtain ⟨⟨x0, x1⟩, -⟩ := HP.out v1 hb
  clear hb hbest hF
  go_wp2_with (fail)
  clear x0 x1
  go_loopw [11, 31] (fun v i wr => ∃ k : Nat, k ≤ l.length ∧ i = .int .i64 (k : Int) ∧ Hid (Below v1.heap.size v1 wr) ∧ Hid (wr.ownsRow v1.heap.size 3 1 v ((List.range k).filter (crAt N s t l val)).length (ints (nats ((List.range k).filter (crAt N s t l val)))))) (fun _ i _ => l.length - (intOf i).toNat)
  case atStart => exact ⟨0, Nat.zero_le _, rfl, Lib.hid (Below.refl _ _), Lib.hid (World.ownsRow_nil _ _ _ _)⟩
  case round =>
    obtain ⟨k, hk, rfl, hB, ho⟩ := hrel
    obtain ⟨wa, hwa⟩ : ∃ z, z = wr := ⟨_, rfl⟩
    subst hwa
    have hki : ((k : Nat) : Int).toNat = k := by omega
    by_cases hlt : k < l.length
    · have HBa := Lib.hid (below_join HBv1.out hB.out HBv1.out.size)
      obtain ⟨⟨x0, x1⟩, pt⟩ := HP.out wa HBa.out
      obtain ⟨p, hp⟩ : ∃ p, l[k]? = some p := ⟨_, List.getElem?_eq_getElem hlt⟩
      obtain ⟨rb, ro, rc, e, hrb, -, -, -, -, -⟩ := pt.at_ hp
      injection e with e1 hle e2
      clear hle hp
      subst e1 e2
      obtain ⟨ad, cc, hrun, hnw⟩ := rest_run (l := l) (b := rb) (o := ro) (c := c) (j := k + 1) (by omega) hc1 HC3.out
      have HNW := Lib.hid hnw
      have HPT := Lib.hid pt
      obtain ⟨j, hj⟩ : ∃ j, j = k + 1 := ⟨_, rfl⟩
      have HJ := Lib.hid hj
      rw [← hj] at hrun HNW
      have hjw : IntKind.i64.wrap ((k : Int) + 1) = (j : Int) := by rw [hj]; simp [IntKind.wrap, IntKind.bits, IntKind.signed]; omega
      have hkc : (k : Int) ≤ (c : Int) := by omega
      have hjl : j ≤ l.length := by omega
      have hln : ((List.range k).filter (crAt N s t l val)).length ≤ 128 := Nat.le_trans (List.length_filter_le _ _) (by rw [List.length_range]; omega)
      obtain ⟨nn, hnn⟩ : ∃ n, n = ((List.range k).filter (crAt N s t l val)).length := ⟨_, rfl⟩
      rw [← hnn] at ho hln
      have HNN := Lib.hid hnn
      obtain ⟨As, ns, cs, rfl⟩ := own_shape ho.out
      have hz3' := hB.out.size
      have HTK := Lib.hid (show (cellsA (l.take k)).length = k * 3 by rw [cellsA_len, List.length_take, Nat.min_eq_left (by omega)])
      have HDR := Lib.hid (show (cellsA (l.drop j)).length = (l.length - j) * 3 by rw [cellsA_len, List.length_drop])
      have HN1 := Lib.hid (show ∀ i u, (cellsA (l.take k))[i]? = some u → wa.cell? ((⟨rb, ro, none⟩ : Addr).add i) = some u by have h := news_pt (m := l.take k) (i := 0) pt (fun i x hx => by rw [List.getElem?_take] at hx; rw [Nat.zero_add]; split at hx; exact hx; cases hx); simpa using h)
      clear hnn hnw hj pt
      go_wp2_with (first
        | (at_builtin; refine wpList_append_own _ rfl _ _ 22 rfl wa.heap.size 39 i0 (.agg #[.int .i64 0, .int .i64 0, .int .i64 0]) 3 24 Try.underlying22 hi0 hzz1 hzz2 hzz3 rfl (by decide) (.slice none 0 0) 0 [] rfl (World.ownsRow_nil _ _ _ _) ⟨rb, ro, none⟩ k c (cellsA (l.take k)) rfl HTK.out HN1.out cellsA_one (by unfold maxLen; omega) (by omega) (Nat.le_refl _) ?_; intro q1 Z1 hown hgrow _; have HBZ1 := Lib.hid ((Below.refl wa.heap.size wa).grown hgrow (Nat.le_refl _) (fun k hk => by simp [Value.ownBlock] at hk)); have HO1 := Lib.hid hown; obtain ⟨A1, n1, cc1, rfl⟩ := own_shape hown; obtain ⟨⟨x0', x1'⟩, pt'⟩ := HP.out Z1 (below_join HBa.out HBZ1.out HBa.out.size); have HPT1 := Lib.hid pt'; clear hown hgrow pt' x0 x1)
        | (at_builtin; refine wpList_append_own _ rfl _ _ 22 rfl wa.heap.size 39 i0 (.agg #[.int .i64 0, .int .i64 0, .int .i64 0]) 3 24 Try.underlying22 hi0 hzz1 hzz2 hzz3 rfl (by decide) (.slice A1 n1 cc1) (0 + k) _ rfl HO1.out ad (l.length - j) cc (cellsA (l.drop j)) rfl HDR.out (HNW.out Z1 HPT1.out) cellsA_one (by unfold maxLen; omega) (by omega) HBZ1.out.size ?_; intro q2 Z2 hown hgrow _; have HBZ2 := Lib.hid (HBZ1.out.grown hgrow HBZ1.out.size (fun k hk => (ownsRow_lt HO1.out hk).1)); have HO2 := Lib.hid hown; obtain ⟨A2, n2, cc2, rfl⟩ := own_shape hown; obtain ⟨⟨x0, x1⟩, -⟩ := HP.out Z2 (below_join HBa.out HBZ2.out HBa.out.size); clear hown hgrow x0' x1'))
      have HPE := Lib.hid (show PtSl Z2 (.slice A2 n2 cc2) (l.eraseIdx k) from own_ptSl (by
        have h := HO2.out
        rw [List.nil_append, ← cellsA_append, HJ.out, ← List.eraseIdx_eq_take_drop_succ] at h
        rw [show (l.eraseIdx k).length = 0 + k + (l.length - (k + 1)) by rw [List.length_eraseIdx, if_pos hlt]; omega]
        exact h))
      have HM3 := Lib.hid (HM2.out k _ Z2 HPE.out)
      have HOz := Lib.hid (own_row_kept ho.out fun g cur _ hc => (HBZ2.out.block _ (at_lt hc)).trans hc)
      have HBY2 := Lib.hid (below_join hB.out HBZ2.out hB.out.size)
      clear hrun HNW HO1 HO2 HPT1 HN1 HPE
      go_at_call 20
      refine HM3.out.mono ?_
      rintro e Z3 ⟨lf2, val2, F2, rfl, hbest, hF, hb⟩
      have HB3 := Lib.hid (below_join HBY2.out hb HBY2.out.size)
      have HO3 := Lib.hid (own_row_kept HOz.out fun g cur _ hc => (hb.block _ (at_lt hc)).trans hc)
      have HCR := Lib.hid (HCE.out k hlt lf2 val2 val hbest)
      have hz4 := HB3.out.size
      clear hb hbest hF x0 x1
      rcases hcmp : decide (val2 < val) with _ | _
      · have HO := Lib.hid (show Z3.ownsRow v1.heap.size 3 1 (.slice As ns cs) ((List.range (k + 1)).filter (crAt N s t l val)).length (ints (nats ((List.range (k + 1)).filter (crAt N s t l val)))) by
          rw [range_filter, HCR.out, hcmp]
          simp only [Bool.false_eq_true, if_false, List.append_nil]
          rw [← HNN.out]; exact HO3.out)
        go_wp2_with (fail)
        go_roundw
        case rel => exact ⟨j, hjl, rfl, HB3, by rw [HJ.out]; exact HO⟩
        case measure => simp only [intOf]; have := HJ.out; omega
      · have HCM := Lib.hid hcmp
        go_wp2_with (at_builtin; refine wpList_append_lies _ rfl _ _ 25 rfl v1.heap.size 3 i1 (.int .i64 0) 1 8 Try.underlying25 hi1 hz1' hz2 hz3 rfl (by decide) (.slice As ns cs) nn _ rfl (HO3.out.alloc _) ⟨Z3.heap.size, 0, none⟩ 1 1 [.int .i64 (k : Int)] rfl rfl (World.news_of_block (heap_alloc_new _ _)) (by simp [Value.oneCell']) (by decide) (by unfold maxLen; omega) (by omega) (by simp; omega) (Z3.heap.size + 1) (by simp) ?_; intro g4 cap4 Z hown hgrow _ _; have HBZ := Lib.hid ((HB3.out.alloc HB3.out.size _).grown hgrow (by simp; omega) (fun k hk => (ownsRow_lt HO3.out hk).1)); have HOZ := Lib.hid hown; clear hown hgrow)
        have HO := Lib.hid (show Z.ownsRow v1.heap.size 3 1 (.slice (some ⟨g4, 0, none⟩) (nn + 1) cap4) ((List.range (k + 1)).filter (crAt N s t l val)).length (ints (nats ((List.range (k + 1)).filter (crAt N s t l val)))) by
          rw [range_filter, HCR.out, HCM.out]
          simp only [if_true, List.length_append, List.length_singleton]
          rw [← HNN.out, show nats ((List.range k).filter (crAt N s t l val) ++ [k]) = nats ((List.range k).filter (crAt N s t l val)) ++ [(k : Int)] by simp [nats], ints_snoc]
          exact HOZ.out)
        go_roundw
        case rel => exact ⟨j, hjl, rfl, HBZ, by rw [HJ.out]; exact HO⟩
        case measure => simp only [intOf]; have := HJ.out; omega
    · obtain rfl : k = l.length := by omega
      have HPO := Lib.hid (fun (hd : True) => show CrPost N s t l w (.returned (.tuple #[u11, .int .i64 0])) wa from ⟨lf, val, u11, _, rfl, HBE.out, rfl, own_mono ho.out HB1.out.size, below_join HB1.out hB.out HB1.out.size⟩)
      go_wp2_with (fail)
      exact retTT rfl rfl rfl rfl (HPO.out trivial)
end Go.Proofs.Ytglpaihadongkaa
