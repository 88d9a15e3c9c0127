/-
  DERIVED. The law FlowDual (stage 5).
-/
import Derived.Test.YtglpaihadongkaaCB
namespace Go.Proofs.Ytglpaihadongkaa
open Go.RowKit Go.Shelf
set_option maxRecDepth 100000
set_option linter.unusedSimpArgs false
set_option linter.unusedVariables false

theorem filter_no (g : Nat → Bool) (k : Nat) : (List.range (k + 1)).filter (fun n => n != k && g n) = (List.range k).filter g := by
  rw [range_filter]
  have e : (k != k && g k) = false := by simp
  rw [e]
  simp only [Bool.false_eq_true, if_false, List.append_nil]
  exact List.filter_congr fun n hn => by
    have : (n != k) = true := by rw [bne_iff_ne]; have := List.mem_range.1 hn; omega
    rw [this, Bool.true_and]
theorem filter_yes (g : Nat → Bool) (k : Nat) : (List.range (k + 1)).filter (fun n => n == k || g n) = (List.range k).filter g ++ [k] := by
  rw [range_filter]
  have e : (k == k || g k) = true := by simp
  rw [e, if_pos rfl]
  congr 1
  exact List.filter_congr fun n hn => by
    have : (n == k) = false := by rw [beq_eq_false_iff_ne]; have := List.mem_range.1 hn; omega
    rw [this, Bool.false_or]
theorem fd_yes {s t k : Nat} {g : Nat → Bool} (h : (s < k → g s = true) ∧ g t = false) (hkt : k ≠ t) : (s < k + 1 → (s == k || g s) = true) ∧ (t == k || g t) = false := by
  refine ⟨fun hs => ?_, ?_⟩
  · by_cases e : s = k
    · subst e; simp
    · rw [h.1 (by omega), Bool.or_true]
  · rw [h.2, Bool.or_false, beq_eq_false_iff_ne]; omega
theorem fd_no {s t k : Nat} {g : Nat → Bool} (h : (s < k → g s = true) ∧ g t = false) (hks : k ≠ s) : (s < k + 1 → (s != k && g s) = true) ∧ (t != k && g t) = false := by
  refine ⟨fun hs => ?_, by rw [h.2, Bool.and_false]⟩
  rw [h.1 (by omega), Bool.and_true, bne_iff_ne]; omega
set_option maxHeartbeats 16000000 in
theorem row_FlowDual (w : World) (n : Nat) (hn : n ≤ 255) (L : Value) (l : List (Nat × Nat × Nat)) (hL : EdSl w L l) (a : Nat) (ha : a ≤ 255) (b : Nat) (hb : b ≤ 255) (m : Nat) (hm : m ≤ 65535) :
    Calls Try.prog 6 #[.int .u8 (n : Int), L, .int .u8 (a : Int), .int .u8 (b : Int), .int .u16 (m : Int)] w fun e w' => e = .returned (.bool true) ∧ Below w.heap.size w w' := by
  have hNb : 2 ≤ nodesS n ∧ nodesS n ≤ 10 := by unfold nodesS; omega
  have hl40 : (l.take 40).length ≤ 40 := by rw [List.length_take]; omega
  have hok : ntOk (nodesS n : Int) (arcsS (nodesS n) (l.take 40)) = true := arcsS_ok ⟨hNb.1, by omega⟩ hl40 (fun p hp => hL.small p (List.mem_of_mem_take hp))
  obtain ⟨hs, ht, hst⟩ := endS_ok (a := a) (b := b) hNb.1
  have HSM := Lib.hid (c_small n hn L l a b ha hb w hL)
  unfold SmPost at HSM
  obtain ⟨N, hN⟩ : ∃ N, N = nodesS n := ⟨_, rfl⟩
  rw [← hN] at hNb hok hs ht hst HSM
  obtain ⟨s, hS⟩ : ∃ s, s = a % N := ⟨_, rfl⟩
  obtain ⟨t, hT⟩ : ∃ t, t = endS N a b := ⟨_, rfl⟩
  obtain ⟨ar, hAr⟩ : ∃ r, r = arcsS N (l.take 40) := ⟨_, rfl⟩
  rw [← hS] at hs hst HSM
  rw [← hT] at ht hst HSM
  rw [← hAr] at hok HSM
  have hlen : ar.length ≤ 40 := by rw [hAr]; have := arcsS_len N (l.take 40); omega
  have HOK := Lib.hid hok
  obtain ⟨A, c, rfl, -, -⟩ := hL.shape
  have HM := Lib.hid (fun (A : Option Addr) (c : Nat) (X : World) (hX : PtSl X (.slice A ar.length c) ar) => c_Max0 N s t (.slice A ar.length c) ar hs ht hst X hX hok)
  have HC := Lib.hid (fun (A : Option Addr) (c : Nat) (X : World) (hX : PtSl X (.slice A ar.length c) ar) => c_Cut0 N s t (.slice A ar.length c) ar hs ht hst X hX hok)
  have HA := Lib.hid (fun (A : Option Addr) (c : Nat) (S : Value) (f : Nat → Bool) (X : World) (hX : PtSl X (.slice A ar.length c) ar) (hS : IntSl X S (nats ((List.range N).filter f))) => c_Across (N : Int) (.slice A ar.length c) S ar (nats ((List.range N).filter f)) X hX hS (capS (arsOf ar) f) 0 (acr_filter hok f))
  unfold ntV at HM HC HA HSM
  clear hN hS hT hAr hok hL hl40
  go_enter Try.func6, Try.ntmps6
  go_wp2_with (fail)
  go_at_call 27
  refine HSM.out.mono ?_
  rintro e w1 ⟨P, rfl, hown1, b1⟩
  have HP1 := Lib.hid (own_ptSl hown1)
  have HB1 := Lib.hid b1
  clear hown1 b1
  obtain ⟨A, c, rfl, -, -⟩ := HP1.out.shape
  obtain ⟨V, hV⟩ : ∃ V, V = w1.alloc (.cells #[.int .i64 (N : Int), .slice A ar.length c] 24) := ⟨_, rfl⟩
  have BV : Below w1.heap.size w1 V := by subst hV; exact (Below.refl _ _).alloc (Nat.le_refl _) _
  have HBV := Lib.hid (below_join HB1.out BV HB1.out.size)
  have HLV := Lib.hid (show V.heap[w1.heap.size]? = some (.cells #[.int .i64 (N : Int), .slice A ar.length c] 24 (0, 0)) by subst hV; exact heap_alloc_new _ _)
  have HPV := Lib.hid (HP1.out.on BV (Nat.le_refl _))
  have hzV := at_lt HLV.out
  have HX := Lib.hid (fun (X : World) (hX : Below V.heap.size V X) => (⟨⟨cell_of ((hX.block _ hzV).trans HLV.out) rfl, cell_of ((hX.block _ hzV).trans HLV.out) rfl⟩, HPV.out.on hX (Nat.le_refl _)⟩ : (X.cell? ⟨w1.heap.size, 0, none⟩ = some (.int .i64 (N : Int)) ∧ X.cell? ⟨w1.heap.size, 1, none⟩ = some (.slice A ar.length c)) ∧ PtSl X (.slice A ar.length c) ar))
  clear BV
  obtain ⟨⟨x0, x1⟩, p0⟩ := HX.out V (Below.refl _ _)
  rw [hV] at x0 x1
  go_wp2_with (fail)
  rw [← hV]
  clear hV x0 x1
  go_at_call 19
  refine (HM.out A c V p0).mono ?_
  rintro e w2 ⟨lf, val, v2, rfl, hbest, -, b2⟩
  have HB2 := Lib.hid b2
  have HBEST := Lib.hid hbest
  clear hbest p0 b2
  obtain ⟨⟨x0, x1⟩, p0⟩ := HX.out w2 HB2.out
  go_wp2_with (fail)
  go_at_call 22
  refine (HC.out A c w2 p0).mono ?_
  rintro e w3 ⟨lf3, val3, v3, xs3, rfl, hbest3, hxs, hown3, b3⟩
  obtain rfl := HBEST.out.uniq hbest3 hs
  obtain ⟨hcv, hcs, hct, hcm⟩ := hbest3.cut hs
  obtain ⟨f, hf⟩ : ∃ f, f = reachB lf3 s := ⟨_, rfl⟩
  rw [← hf] at hxs hcv hcs hct hcm
  rw [hxs] at hown3
  have HI3 := Lib.hid (own_intSl (l := nats ((List.range N).filter f)) (by rw [nats_len]; exact hown3))
  obtain ⟨A3, c3, hv3, -, -⟩ := HI3.out.shape
  rw [nats_len] at hv3
  obtain rfl : v3 = _ := hv3
  have HB3 := Lib.hid (below_join HB2.out b3 HB2.out.size)
  have HCM := Lib.hid hcm
  have HCV := Lib.hid hcv
  have HCS := Lib.hid hcs
  have HCT := Lib.hid hct
  clear hbest3 hxs hown3 p0 b3 x0 x1 hcm hcv hcs hct hf HBEST
  obtain ⟨⟨x0, x1⟩, p0⟩ := HX.out w3 HB3.out
  have HAC := Lib.hid (HA.out A c _ f w3 p0 HI3.out)
  rw [← HCV.out] at HAC
  go_wp2_with (fail)
  go_at_call 14
  refine HAC.out.mono ?_
  rintro e w4 ⟨rfl, b4⟩
  have HB4 := Lib.hid (below_join HB3.out b4 HB3.out.size)
  have HI4 := Lib.hid (HI3.out.on b4 (Nat.le_refl _))
  have HT1 := Lib.hid (c_Contains _ (s : Int) _ w4 HI4.out true (by rw [nats_contains, filter_contains f hs]; exact HCS.out))
  have HT2 := Lib.hid (c_Contains _ (t : Int) _ w4 HI4.out false (by rw [nats_contains, filter_contains f ht]; exact HCT.out))
  clear b4 p0 x0 x1 HAC
  obtain ⟨⟨x0, x1⟩, -⟩ := HX.out w4 HB4.out
  go_wp2_with (fail)
  go_at_call 28
  refine HT1.out.mono ?_
  rintro e w5 ⟨rfl, hw5⟩
  obtain rfl : w5 = w4 := hw5
  go_wp2_with (fail)
  go_at_call 28
  refine HT2.out.mono ?_
  rintro e w6 ⟨rfl, hw6⟩
  obtain rfl : w6 = w5 := hw6
  clear HT1 HT2
  go_wp2_with (fail)
  obtain ⟨i1, hi1, hz1', hz2, hz3⟩ := info_parts int_info
  have hz6 : w1.heap.size < w6.heap.size := Nat.lt_of_lt_of_le hzV HB4.out.size
  clear x0 x1
  obtain ⟨W6, hW6⟩ : ∃ W, W = w6 := ⟨_, rfl⟩
  rw [← hW6]
  rw [← hW6] at HB4 HI4 hz6
  clear hW6
  go_loopw [21, 22] (fun o i wr => ∃ (k : Nat) (g : Nat → Bool), k ≤ N ∧ i = .int .i64 (k : Int) ∧ Hid (Below W6.heap.size W6 wr) ∧ Hid (wr.ownsRow W6.heap.size 3 1 o ((List.range k).filter g).length (ints (nats ((List.range k).filter g)))) ∧ Hid ((s < k → g s = true) ∧ g t = false)) (fun _ i _ => N - (intOf i).toNat)
  case atStart => exact ⟨0, fun _ => false, Nat.zero_le _, rfl, Lib.hid (Below.refl _ _), Lib.hid (World.ownsRow_nil _ _ _ _), Lib.hid ⟨fun h => (by cases h), rfl⟩⟩
  case round =>
    obtain ⟨k, g, hk, rfl, hB, ho, hg⟩ := hrel
    have hki : ((k : Nat) : Int).toNat = k := by omega
    obtain ⟨⟨x0, x1⟩, p0⟩ := HX.out wr (below_join HB4.out hB.out HB4.out.size)
    have hzr := hB.out.size
    by_cases hlt : k < N
    · have hd1 : decide ((k : Int) < (N : Int)) = true := decide_eq_true (by omega)
      have hln : ((List.range k).filter g).length ≤ 64 := Nat.le_trans (List.length_filter_le _ _) (by rw [List.length_range]; omega)
      obtain ⟨nn, hnn⟩ : ∃ n, n = ((List.range k).filter g).length := ⟨_, rfl⟩
      rw [← hnn] at ho hln
      have HNN := Lib.hid hnn
      obtain ⟨As, ns, cs, rfl⟩ := own_shape ho.out
      clear hnn
      have HYES := Lib.hid (fd_yes (k := k) hg.out)
      have HNO := Lib.hid (fd_no (k := k) hg.out)
      by_cases hks : k = s
      · have hks' : ((k : Int) == (s : Int)) = true := by rw [hks]; simp
        have hkt : k ≠ t := by omega
        clear hks
        go_wp2_with (at_builtin; refine wpList_append_lies _ rfl _ _ 25 rfl W6.heap.size 3 i1 (.int .i64 0) 1 8 Try.underlying25 hi1 hz1' hz2 hz3 rfl (by decide) (.slice As ns cs) nn _ rfl (ho.out.alloc _) ⟨wr.heap.size, 0, none⟩ 1 1 [.int .i64 (k : Int)] rfl rfl (World.news_of_block (heap_alloc_new _ _)) (by simp [Value.oneCell']) (by decide) (by unfold maxLen; omega) (by omega) (by simp; omega) (wr.heap.size + 1) (by simp) ?_; intro g4 cap4 Z hown hgrow _ _; have HBZ := Lib.hid ((hB.out.alloc hB.out.size _).grown hgrow (by simp; omega) (fun k hk => (ownsRow_lt ho.out hk).1)); have HOZ := Lib.hid hown; clear hown hgrow)
        have HO := Lib.hid (show Z.ownsRow W6.heap.size 3 1 (.slice (some ⟨g4, 0, none⟩) (nn + 1) cap4) ((List.range (k + 1)).filter (fun n => n == k || g n)).length (ints (nats ((List.range (k + 1)).filter (fun n => n == k || g n)))) by
          rw [filter_yes, List.length_append, List.length_singleton, ← HNN.out, show nats ((List.range k).filter g ++ [k]) = nats ((List.range k).filter g) ++ [(k : Int)] by simp [nats], ints_snoc]
          exact HOZ.out)
        go_roundw
        case rel => exact ⟨k + 1, _, by omega, by go_num, HBZ, HO, Lib.hid (HYES.out hkt)⟩
        case measure => simp only [intOf]; omega
      · have hks' : ((k : Int) == (s : Int)) = false := by rw [beq_eq_false_iff_ne]; omega
        by_cases hkt : k = t
        · have hkt' : ((k : Int) != (t : Int)) = false := by rw [hkt]; simp
          go_wp2_with (fail)
          have HO := Lib.hid (show wr.ownsRow W6.heap.size 3 1 (.slice As ns cs) ((List.range (k + 1)).filter (fun n => n != k && g n)).length (ints (nats ((List.range (k + 1)).filter (fun n => n != k && g n)))) by rw [filter_no, ← HNN.out]; exact ho.out)
          go_roundw
          case rel => exact ⟨k + 1, _, by omega, by go_num, hB, HO, Lib.hid (HNO.out hks)⟩
          case measure => simp only [intOf]; omega
        · have hkt' : ((k : Int) != (t : Int)) = true := by rw [bne_iff_ne]; omega
          rcases hbt : (bits BinOp.and IntKind.u16 ((m : Int) / 2 ^ k) 1 == 1) with _ | _
          · go_wp2_with (fail)
            have HO := Lib.hid (show wr.ownsRow W6.heap.size 3 1 (.slice As ns cs) ((List.range (k + 1)).filter (fun n => n != k && g n)).length (ints (nats ((List.range (k + 1)).filter (fun n => n != k && g n)))) by rw [filter_no, ← HNN.out]; exact ho.out)
            go_roundw
            case rel => exact ⟨k + 1, _, by omega, by go_num, hB, HO, Lib.hid (HNO.out hks)⟩
            case measure => simp only [intOf]; omega
          · skip
            go_wp2_with (at_builtin; refine wpList_append_lies _ rfl _ _ 25 rfl W6.heap.size 3 i1 (.int .i64 0) 1 8 Try.underlying25 hi1 hz1' hz2 hz3 rfl (by decide) (.slice As ns cs) nn _ rfl (ho.out.alloc _) ⟨wr.heap.size, 0, none⟩ 1 1 [.int .i64 (k : Int)] rfl rfl (World.news_of_block (heap_alloc_new _ _)) (by simp [Value.oneCell']) (by decide) (by unfold maxLen; omega) (by omega) (by simp; omega) (wr.heap.size + 1) (by simp) ?_; intro g4 cap4 Z hown hgrow _ _; have HBZ := Lib.hid ((hB.out.alloc hB.out.size _).grown hgrow (by simp; omega) (fun k hk => (ownsRow_lt ho.out hk).1)); have HOZ := Lib.hid hown; clear hown hgrow)
            have HO := Lib.hid (show Z.ownsRow W6.heap.size 3 1 (.slice (some ⟨g4, 0, none⟩) (nn + 1) cap4) ((List.range (k + 1)).filter (fun n => n == k || g n)).length (ints (nats ((List.range (k + 1)).filter (fun n => n == k || g n)))) by
              rw [filter_yes, List.length_append, List.length_singleton, ← HNN.out, show nats ((List.range k).filter g ++ [k]) = nats ((List.range k).filter g) ++ [(k : Int)] by simp [nats], ints_snoc]
              exact HOZ.out)
            go_roundw
            case rel => exact ⟨k + 1, _, by omega, by go_num, HBZ, HO, Lib.hid (HYES.out hkt)⟩
            case measure => simp only [intOf]; omega
    · obtain rfl : k = N := by omega
      have hd1 : decide ((k : Int) < (k : Int)) = false := by simp
      have HO := Lib.hid (own_intSl (l := nats ((List.range k).filter g)) (by rw [nats_len]; exact ho.out))
      obtain ⟨A5, c5, hv5, -, -⟩ := HO.out.shape
      subst hv5
      have HAC := Lib.hid (HA.out A c _ g wr p0 HO.out)
      have HG := Lib.hid (HCM.out g (hg.out.1 hs) hg.out.2)
      obtain ⟨q, hq⟩ : ∃ q, q = capS (arsOf ar) g := ⟨_, rfl⟩
      rw [← hq] at HAC HG
      have hvq : ¬ q < val := by have := HG.out.1; omega
      have hdq : decide (q < val) = false := decide_eq_false hvq
      have HBr := Lib.hid (below_join HB4.out hB.out HB4.out.size)
      clear ho hg p0 hq hvq
      go_wp2_with (fail)
      go_at_call 14
      refine HAC.out.mono ?_
      rintro e w7 ⟨rfl, b7⟩
      have HB7 := Lib.hid (below_join HBr.out b7 HBr.out.size)
      have HO7 := Lib.hid (HO.out.on b7 (Nat.le_refl _))
      have HI7 := Lib.hid (HI4.out.on (below_join hB.out b7 hB.out.size) (Nat.le_refl _))
      clear b7 x0 x1 HAC
      have HWK := Lib.hid (fun (X : World) => c_works X)
      by_cases hqv : q = val
      · have hqb : (q == val) = true := by rw [hqv]; simp
        have HMEM := Lib.hid (HG.out.2 hqv)
        have hfl : ((List.range k).filter f).length ≤ 64 := Nat.le_trans (List.length_filter_le _ _) (by rw [List.length_range]; omega)
        clear hqv
        go_wp2_with (fail)
        go_loopw [124] (fun i wr => ∃ j : Nat, j ≤ ((List.range k).filter f).length ∧ i = .int .i64 (j : Int) ∧ Hid (wr = w7)) (fun i _ => ((List.range k).filter f).length - (intOf i).toNat)
        case atStart => exact ⟨0, Nat.zero_le _, rfl, Lib.hid rfl⟩
        case round =>
          obtain ⟨j, hj, rfl, hwr⟩ := hrel
          obtain rfl := hwr.out
          have hji : ((j : Nat) : Int).toNat = j := by omega
          by_cases hjl : j < ((List.range k).filter f).length
          · obtain ⟨x, hx⟩ : ∃ x, ((List.range k).filter f)[j]? = some x := ⟨_, List.getElem?_eq_getElem hjl⟩
            obtain ⟨hxr, hfx⟩ := List.mem_filter.1 (List.mem_of_getElem? hx)
            have hxk := List.mem_range.1 hxr
            obtain ⟨b9, o9, c9, e9, -, -, -, y0⟩ := HI7.out.at_ (nats_get hx)
            injection e9 with e1 hle e2
            clear hle
            subst e1 e2
            have HT := Lib.hid (c_Contains _ (x : Int) _ wr HO7.out true (by rw [nats_contains, filter_contains g hxk]; exact HMEM.out x hfx))
            clear hx hxr hfx
            go_wp2_with (fail)
            go_at_call 28
            refine HT.out.mono ?_
            rintro e w9 ⟨rfl, hw9⟩
            obtain rfl : w9 = wr := hw9
            clear HT
            go_wp2_with (fail)
            go_roundw
            case rel => exact ⟨j + 1, by omega, by go_num, Lib.hid (by first | rfl | trivial)⟩
            case measure => simp only [intOf]; omega
          · obtain rfl : j = ((List.range k).filter f).length := by omega
            go_wp2_with (fail)
            go_at_call 18
            refine (HWK.out _).mono ?_
            rintro e w8 ⟨rfl, b8⟩
            have HB8 := Lib.hid (below_join HBV.out (below_join HB7.out b8 HB7.out.size) HBV.out.size)
            clear b8
            go_wp2_with (fail)
            go_ret
            exact ⟨rfl, HB8.out⟩
      · have hqb : (q == val) = false := by rw [beq_eq_false_iff_ne]; exact hqv
        clear hqv
        go_wp2_with (fail)
        go_at_call 18
        refine (HWK.out _).mono ?_
        rintro e w8 ⟨rfl, b8⟩
        have HB8 := Lib.hid (below_join HBV.out (below_join HB7.out b8 HB7.out.size) HBV.out.size)
        clear b8
        go_wp2_with (fail)
        go_ret
        exact ⟨rfl, HB8.out⟩
end Go.Proofs.Ytglpaihadongkaa
