/-
  DERIVED. Several texts in one.
-/
import Derived.Test.YtpokpgnclohiiaaGreatPB2
import Derived.Test.YtpokpgnclohiiaaGreatPB1
import Derived.RegionTactic
import Derived.Deep.RegionHeld3
set_option linter.unusedVariables false
set_option linter.unusedSimpArgs false

namespace Go.Proofs.YtpokpgnclohiiaaGreat
open Go.RowKit
set_option maxRecDepth 100000
set_option linter.unusedVariables false
set_option linter.unusedSimpArgs false

set_option maxHeartbeats 8000000 in
theorem c_memNeg (p : SP) (s : SiteD) (d : Nat) (n : Int) (w : World) (h : SiAt w p s) (hd : ∀ X : World, SiAt X p s → Calls Tryz.prog 39 #[siV p s, .int .u8 (d : Int)] X fun e w' => (∃ f, e = .returned (.tuple #[.int .i64 (cntD s d), f])) ∧ Below X.heap.size X w') (hn : ixB n (cntD s d) = false) :
    Calls Tryz.prog 28 #[siV p s, .int .u8 (d : Int), .int .i64 n] w fun e w' => ∃ v, e = .returned v ∧ w'.ownsRow w.heap.size 3 1 v (memD s d n).length (ints (memD s d n)) ∧ Below w.heap.size w w' := by
  have HV := Lib.hid hd
  have HM := Lib.hid (show memD s d n = [] by unfold memD; rw [hn]; rfl)
  have HN := Lib.hid hn
  clear hd hn
  unfold siV at HV
  rw [HM.out]
  unfold siV
  obtain ⟨W, hW⟩ : ∃ W, W = w.alloc (.cells #[.slice p.a1 s.feeds.length p.c1, .slice p.a2 s.brks.length p.c2, .slice p.a3 s.loops.length p.c3, .slice p.a4 s.racks.length p.c4, .int .i64 s.sw, .slice p.a5 s.links.length p.c5, .slice p.a6 s.hosts.length p.c6] 29) := ⟨_, rfl⟩
  have B0 : Below w.heap.size w W := by subst hW; exact (Below.refl _ _).alloc (Nat.le_refl _) _
  have HB0 := Lib.hid B0
  have HX := Lib.hid (show SiBox W w.heap.size p s by subst hW; exact siBox_new _ _ _)
  have HA := Lib.hid (h.on B0 (Nat.le_refl _))
  have HF := Lib.hid (fun (X : World) (hX : Below W.heap.size W X) => (let z := HX.out.on hX (Nat.le_refl _); ⟨z.c0, z.c1, z.c2, z.c3, z.c4, z.c5, z.c6⟩ : X.cell? ⟨w.heap.size, 0, none⟩ = some (.slice p.a1 s.feeds.length p.c1) ∧ X.cell? ⟨w.heap.size, 1, none⟩ = some (.slice p.a2 s.brks.length p.c2) ∧ X.cell? ⟨w.heap.size, 2, none⟩ = some (.slice p.a3 s.loops.length p.c3) ∧ X.cell? ⟨w.heap.size, 3, none⟩ = some (.slice p.a4 s.racks.length p.c4) ∧ X.cell? ⟨w.heap.size, 4, none⟩ = some (.int .i64 s.sw) ∧ X.cell? ⟨w.heap.size, 5, none⟩ = some (.slice p.a5 s.links.length p.c5) ∧ X.cell? ⟨w.heap.size, 6, none⟩ = some (.slice p.a6 s.hosts.length p.c6)))
  have m1 := h.feeds.1; have m2 := h.brks.1; have m3 := h.loops.1; have m4 := h.racks.1; have m5 := h.links.1; have m6 := h.hosts.1
  have n1 := h.feeds.2.1; have n2 := h.brks.2.1; have n3 := h.loops.2.1; have n4 := h.racks.2.1; have n5 := h.links.2.1; have n6 := h.hosts.2.1
  unfold maxLen at n1 n2 n3 n4 n5 n6
  have KW := Lib.hid (Below.refl W.heap.size W)
  have hlw : w.heap.size < W.heap.size := HX.out.lt
  clear B0 h
  obtain ⟨f0, f1, f2, f3, f4, f5, f6⟩ := HF.out W KW.out
  rw [hW] at f0 f1 f2 f3 f4 f5 f6
  go_enter Tryz.func28, Tryz.ntmps28
  go_wp2_with (fail)
  rw [← hW]
  clear hW f0 f1 f2 f3 f4 f5 f6
  go_at_call 39
  refine (HV.out W HA.out).mono ?_
  rintro e w1 ⟨⟨f, rfl⟩, b1⟩
  have K1 := Lib.hid b1
  clear b1
  obtain ⟨cc, hcc⟩ : ∃ c, cntD s d = c := ⟨_, rfl⟩
  rw [hcc] at HN ⊢
  go_wp2_with (fail)
  go_at_call 45
  refine (c_isIndex n cc false HN.out w1).mono ?_
  rintro e w2 ⟨rfl, b2⟩
  have K2 := Lib.hid (below_join K1.out b2 K1.out.size)
  clear b2
  go_wp2_with (fail)
  go_ret
  exact ⟨_, rfl, World.ownsRow_nil _ _ _ _, below_join HB0.out K2.out HB0.out.size⟩
set_option maxHeartbeats 16000000 in
theorem c_mem1 (p : SP) (s : SiteD) (hok : siteOk s = true) (n : Int) (hix : ixB n (s.hosts.length : Int) = true) (w : World) (h : SiAt w p s) :
    Calls Tryz.prog 28 #[siV p s, .int .u8 1, .int .i64 n] w fun e w' => ∃ v, e = .returned v ∧ w'.ownsRow w.heap.size 3 1 v (nats ((List.range s.hosts.length).filter (fun h => domAt s h 1 == n))).length (ints (nats ((List.range s.hosts.length).filter (fun h => domAt s h 1 == n)))) ∧ Below w.heap.size w w' := by
  have hsok := siteOk_iff.1 hok
  have hnh := hsok.nhosts
  have HV := Lib.hid (fun (X : World) (hX : SiAt X p s) => c_doms1 p s hok X hX)
  have HSOK := Lib.hid hsok
  have HIX := Lib.hid hix
  unfold siV at HV
  clear hok hsok hix
  unfold siV
  obtain ⟨W, hW⟩ : ∃ W, W = w.alloc (.cells #[.slice p.a1 s.feeds.length p.c1, .slice p.a2 s.brks.length p.c2, .slice p.a3 s.loops.length p.c3, .slice p.a4 s.racks.length p.c4, .int .i64 s.sw, .slice p.a5 s.links.length p.c5, .slice p.a6 s.hosts.length p.c6] 29) := ⟨_, rfl⟩
  have B0 : Below w.heap.size w W := by subst hW; exact (Below.refl _ _).alloc (Nat.le_refl _) _
  have HB0 := Lib.hid B0
  have HX := Lib.hid (show SiBox W w.heap.size p s by subst hW; exact siBox_new _ _ _)
  have HA := Lib.hid (h.on B0 (Nat.le_refl _))
  have HF := Lib.hid (fun (X : World) (hX : Below W.heap.size W X) => (let z := HX.out.on hX (Nat.le_refl _); ⟨z.c0, z.c1, z.c2, z.c3, z.c4, z.c5, z.c6⟩ : X.cell? ⟨w.heap.size, 0, none⟩ = some (.slice p.a1 s.feeds.length p.c1) ∧ X.cell? ⟨w.heap.size, 1, none⟩ = some (.slice p.a2 s.brks.length p.c2) ∧ X.cell? ⟨w.heap.size, 2, none⟩ = some (.slice p.a3 s.loops.length p.c3) ∧ X.cell? ⟨w.heap.size, 3, none⟩ = some (.slice p.a4 s.racks.length p.c4) ∧ X.cell? ⟨w.heap.size, 4, none⟩ = some (.int .i64 s.sw) ∧ X.cell? ⟨w.heap.size, 5, none⟩ = some (.slice p.a5 s.links.length p.c5) ∧ X.cell? ⟨w.heap.size, 6, none⟩ = some (.slice p.a6 s.hosts.length p.c6)))
  have m1 := h.feeds.1; have m2 := h.brks.1; have m3 := h.loops.1; have m4 := h.racks.1; have m5 := h.links.1; have m6 := h.hosts.1
  have n1 := h.feeds.2.1; have n2 := h.brks.2.1; have n3 := h.loops.2.1; have n4 := h.racks.2.1; have n5 := h.links.2.1; have n6 := h.hosts.2.1
  unfold maxLen at n1 n2 n3 n4 n5 n6
  have KW := Lib.hid (Below.refl W.heap.size W)
  have hlw : w.heap.size < W.heap.size := HX.out.lt
  clear B0 h
  obtain ⟨f0, f1, f2, f3, f4, f5, f6⟩ := HF.out W KW.out
  rw [hW] at f0 f1 f2 f3 f4 f5 f6
  go_enter Tryz.func28, Tryz.ntmps28
  go_wp2_with (fail)
  rw [← hW]
  clear hW f0 f1 f2 f3 f4 f5 f6
  go_at_call 39
  refine (HV.out W HA.out).mono ?_
  rintro e w1 ⟨bs, bt, rfl, hb1, ha1, hr1, b1⟩
  have K1 := Lib.hid b1
  have HB1 := Lib.hid hb1
  have HA1 := Lib.hid ha1
  have HR1 := Lib.hid hr1
  clear b1 hb1 ha1 hr1
  go_wp2_with (fail)
  go_at_call 45
  refine (c_isIndex n (s.hosts.length : Int) true HIX.out w1).mono ?_
  rintro e w2 ⟨rfl, b2⟩
  have K2 := Lib.hid (below_join K1.out b2 K1.out.size)
  have KK := Lib.hid b2
  clear b2
  have HB2 := Lib.hid (HB1.out.on KK.out (Nat.le_refl _))
  have HA2 := Lib.hid (HA1.out.on KK.out (Nat.le_refl _))
  have HR2 := Lib.hid (HR1.out.on KK.out (Nat.le_refl _))
  have HC := Lib.hid (fun (k : Nat) (hk : k < s.hosts.length) (X : World) (hb : SiBox X bs p s) (ha : SiAt X p s) (hr : RkBox X bt bs) (hsok : SiteOk s) => (show Calls Tryz.prog 57 #[.int .i64 (k : Int)] X fun e w' => e = .returned (.int .i64 (k : Int)) ∧ Below X.heap.size X w' from c_dom2 (k : Int) X))
  obtain ⟨i1, hi1, hz1, hz2, hz3⟩ := info_parts int_info
  obtain ⟨f0, f1, f2, f3, f4, f5, f6⟩ := HF.out w2 K2.out
  go_wp2_with (fail)
  clear f0 f1 f2 f3 f4 f5 f6
  go_loopw [9, 24] (fun v i wr => ∃ k : Nat, k ≤ s.hosts.length ∧ i = .int .i64 (k : Int) ∧ Hid (Below w2.heap.size w2 wr) ∧ Hid (wr.ownsRow w2.heap.size 3 1 v (nats ((List.range k).filter (fun h => domAt s h 1 == n))).length (ints (nats ((List.range k).filter (fun h => domAt s h 1 == n)))))) (fun _ i _ => s.hosts.length - (intOf i).toNat)
  case atStart => exact ⟨0, Nat.zero_le _, rfl, Lib.hid (Below.refl _ _), Lib.hid (World.ownsRow_nil _ _ _ _)⟩
  case round =>
    obtain ⟨k, hk, rfl, hB, ho⟩ := hrel
    have hki : ((k : Nat) : Int).toNat = k := by omega
    by_cases hlt : k < s.hosts.length
    · have hkl : (k : Int) < (s.hosts.length : Int) := by omega
      have hln : (nats ((List.range k).filter (fun h => domAt s h 1 == n))).length ≤ 16 := by rw [nats_len]; exact Nat.le_trans (List.length_filter_le _ _) (by rw [List.length_range]; omega)
      obtain ⟨nn, hnn⟩ : ∃ m, m = (nats ((List.range k).filter (fun h => domAt s h 1 == n))).length := ⟨_, rfl⟩
      obtain ⟨x, hx⟩ : ∃ x, x = (k : Int) := ⟨_, rfl⟩
      rw [← hnn] at ho hln
      have HNN := Lib.hid hnn
      have HXX := Lib.hid (show domAt s k 1 = x from hx.symm)
      have HC1 := Lib.hid (show Calls Tryz.prog 57 #[.int .i64 (k : Int)] wr fun e w' => e = .returned (.int .i64 x) ∧ Below wr.heap.size wr w' from (HC.out k hlt wr (HB2.out.on hB.out (Nat.le_refl _)) (HA2.out.on hB.out (Nat.le_refl _)) (HR2.out.on hB.out (Nat.le_refl _)) HSOK.out).mono (fun e w' h => ⟨by rw [hx]; exact h.1, h.2⟩))
      obtain ⟨As, cs, rfl⟩ := own_shape ho.out
      have hz3' := hB.out.size
      clear hnn hx
      go_wp2_with (fail)
      go_at_call 57
      refine HC1.out.mono ?_
      rintro e wz ⟨rfl, bz⟩
      have HBz := Lib.hid (below_join hB.out bz hB.out.size)
      have HOz := Lib.hid (own_on ho.out bz (Nat.le_refl _))
      have hz4 := bz.size
      clear bz
      rcases hf : (x == n) with _ | _
      · have HO := Lib.hid (show wz.ownsRow w2.heap.size 3 1 (.slice As nn cs) (nats ((List.range (k + 1)).filter (fun h => domAt s h 1 == n))).length (ints (nats ((List.range (k + 1)).filter (fun h => domAt s h 1 == n)))) by
          rw [range_filter, show (domAt s k 1 == n) = false by rw [HXX.out]; exact hf]
          simp only [Bool.false_eq_true, if_false, List.append_nil]
          rw [← HNN.out]; exact HOz.out)
        go_wp2_with (fail)
        go_roundw
        case rel => exact ⟨k + 1, by omega, by go_num, HBz, HO⟩
        case measure => simp only [intOf]; omega
      · have HFF := Lib.hid hf
        go_wp2_with (at_builtin; refine wpList_append_lies _ rfl _ _ 49 rfl w2.heap.size 3 i1 (.int .i64 0) 1 8 Tryz.underlying49 hi1 hz1 hz2 hz3 rfl (by decide) (.slice As nn cs) nn _ rfl (HOz.out.alloc _) ⟨wz.heap.size, 0, none⟩ 1 1 [.int .i64 (k : Int)] rfl rfl (World.news_of_block (heap_alloc_new _ _)) (by simp [Value.oneCell']) (by decide) (by unfold maxLen; omega) (by omega) (by simp; omega) (wz.heap.size + 1) (by simp) ?_; intro g4 cap4 Z hown hgrow _ _; have HBZ := Lib.hid ((HBz.out.alloc HBz.out.size _).grown hgrow (by simp; omega) (fun k hk => (ownsRow_lt HOz.out hk).1)); have HOZ := Lib.hid hown; clear hown hgrow)
        have HO := Lib.hid (show Z.ownsRow w2.heap.size 3 1 (.slice (some ⟨g4, 0, none⟩) (nn + 1) cap4) (nats ((List.range (k + 1)).filter (fun h => domAt s h 1 == n))).length (ints (nats ((List.range (k + 1)).filter (fun h => domAt s h 1 == n)))) by
          rw [range_filter, show (domAt s k 1 == n) = true by rw [HXX.out]; exact HFF.out]
          simp only [if_true]
          rw [show nats (((List.range k).filter (fun h => domAt s h 1 == n)) ++ [k]) = (nats ((List.range k).filter (fun h => domAt s h 1 == n))) ++ [(k : Int)] by simp [nats], List.length_append, List.length_singleton, ← HNN.out, ints_snoc]
          exact HOZ.out)
        go_roundw
        case rel => exact ⟨k + 1, by omega, by go_num, HBZ, HO⟩
        case measure => simp only [intOf]; omega
    · obtain rfl : k = s.hosts.length := by omega
      go_wp2_with (fail)
      go_ret
      exact ⟨_, rfl, own_mono ho.out (Nat.le_trans HB0.out.size K2.out.size), below_join HB0.out (below_join K2.out hB.out K2.out.size) HB0.out.size⟩
set_option maxHeartbeats 16000000 in
theorem c_mem2 (p : SP) (s : SiteD) (hok : siteOk s = true) (n : Int) (hix : ixB n (s.racks.length : Int) = true) (w : World) (h : SiAt w p s) :
    Calls Tryz.prog 28 #[siV p s, .int .u8 2, .int .i64 n] w fun e w' => ∃ v, e = .returned v ∧ w'.ownsRow w.heap.size 3 1 v (nats ((List.range s.hosts.length).filter (fun h => domAt s h 2 == n))).length (ints (nats ((List.range s.hosts.length).filter (fun h => domAt s h 2 == n)))) ∧ Below w.heap.size w w' := by
  have hsok := siteOk_iff.1 hok
  have hnh := hsok.nhosts
  have HV := Lib.hid (fun (X : World) (hX : SiAt X p s) => c_doms2 p s hok X hX)
  have HSOK := Lib.hid hsok
  have HIX := Lib.hid hix
  unfold siV at HV
  clear hok hsok hix
  unfold siV
  obtain ⟨W, hW⟩ : ∃ W, W = w.alloc (.cells #[.slice p.a1 s.feeds.length p.c1, .slice p.a2 s.brks.length p.c2, .slice p.a3 s.loops.length p.c3, .slice p.a4 s.racks.length p.c4, .int .i64 s.sw, .slice p.a5 s.links.length p.c5, .slice p.a6 s.hosts.length p.c6] 29) := ⟨_, rfl⟩
  have B0 : Below w.heap.size w W := by subst hW; exact (Below.refl _ _).alloc (Nat.le_refl _) _
  have HB0 := Lib.hid B0
  have HX := Lib.hid (show SiBox W w.heap.size p s by subst hW; exact siBox_new _ _ _)
  have HA := Lib.hid (h.on B0 (Nat.le_refl _))
  have HF := Lib.hid (fun (X : World) (hX : Below W.heap.size W X) => (let z := HX.out.on hX (Nat.le_refl _); ⟨z.c0, z.c1, z.c2, z.c3, z.c4, z.c5, z.c6⟩ : X.cell? ⟨w.heap.size, 0, none⟩ = some (.slice p.a1 s.feeds.length p.c1) ∧ X.cell? ⟨w.heap.size, 1, none⟩ = some (.slice p.a2 s.brks.length p.c2) ∧ X.cell? ⟨w.heap.size, 2, none⟩ = some (.slice p.a3 s.loops.length p.c3) ∧ X.cell? ⟨w.heap.size, 3, none⟩ = some (.slice p.a4 s.racks.length p.c4) ∧ X.cell? ⟨w.heap.size, 4, none⟩ = some (.int .i64 s.sw) ∧ X.cell? ⟨w.heap.size, 5, none⟩ = some (.slice p.a5 s.links.length p.c5) ∧ X.cell? ⟨w.heap.size, 6, none⟩ = some (.slice p.a6 s.hosts.length p.c6)))
  have m1 := h.feeds.1; have m2 := h.brks.1; have m3 := h.loops.1; have m4 := h.racks.1; have m5 := h.links.1; have m6 := h.hosts.1
  have n1 := h.feeds.2.1; have n2 := h.brks.2.1; have n3 := h.loops.2.1; have n4 := h.racks.2.1; have n5 := h.links.2.1; have n6 := h.hosts.2.1
  unfold maxLen at n1 n2 n3 n4 n5 n6
  have KW := Lib.hid (Below.refl W.heap.size W)
  have hlw : w.heap.size < W.heap.size := HX.out.lt
  clear B0 h
  obtain ⟨f0, f1, f2, f3, f4, f5, f6⟩ := HF.out W KW.out
  rw [hW] at f0 f1 f2 f3 f4 f5 f6
  go_enter Tryz.func28, Tryz.ntmps28
  go_wp2_with (fail)
  rw [← hW]
  clear hW f0 f1 f2 f3 f4 f5 f6
  go_at_call 39
  refine (HV.out W HA.out).mono ?_
  rintro e w1 ⟨bs, bt, rfl, hb1, ha1, hr1, b1⟩
  have K1 := Lib.hid b1
  have HB1 := Lib.hid hb1
  have HA1 := Lib.hid ha1
  have HR1 := Lib.hid hr1
  clear b1 hb1 ha1 hr1
  go_wp2_with (fail)
  go_at_call 45
  refine (c_isIndex n (s.racks.length : Int) true HIX.out w1).mono ?_
  rintro e w2 ⟨rfl, b2⟩
  have K2 := Lib.hid (below_join K1.out b2 K1.out.size)
  have KK := Lib.hid b2
  clear b2
  have HB2 := Lib.hid (HB1.out.on KK.out (Nat.le_refl _))
  have HA2 := Lib.hid (HA1.out.on KK.out (Nat.le_refl _))
  have HR2 := Lib.hid (HR1.out.on KK.out (Nat.le_refl _))
  have HC := Lib.hid (fun (k : Nat) (hk : k < s.hosts.length) (X : World) (hb : SiBox X bs p s) (ha : SiAt X p s) (hr : RkBox X bt bs) (hsok : SiteOk s) => (show Calls Tryz.prog 58 #[.int .i64 (k : Int), .pointer (some ⟨bs, 0, none⟩)] X fun e w' => e = .returned (.int .i64 (rackAt s k)) ∧ Below X.heap.size X w' from c_dom3 bs p s k hk X hb ha))
  obtain ⟨i1, hi1, hz1, hz2, hz3⟩ := info_parts int_info
  obtain ⟨f0, f1, f2, f3, f4, f5, f6⟩ := HF.out w2 K2.out
  go_wp2_with (fail)
  clear f0 f1 f2 f3 f4 f5 f6
  go_loopw [9, 24] (fun v i wr => ∃ k : Nat, k ≤ s.hosts.length ∧ i = .int .i64 (k : Int) ∧ Hid (Below w2.heap.size w2 wr) ∧ Hid (wr.ownsRow w2.heap.size 3 1 v (nats ((List.range k).filter (fun h => domAt s h 2 == n))).length (ints (nats ((List.range k).filter (fun h => domAt s h 2 == n)))))) (fun _ i _ => s.hosts.length - (intOf i).toNat)
  case atStart => exact ⟨0, Nat.zero_le _, rfl, Lib.hid (Below.refl _ _), Lib.hid (World.ownsRow_nil _ _ _ _)⟩
  case round =>
    obtain ⟨k, hk, rfl, hB, ho⟩ := hrel
    have hki : ((k : Nat) : Int).toNat = k := by omega
    by_cases hlt : k < s.hosts.length
    · have hkl : (k : Int) < (s.hosts.length : Int) := by omega
      have hln : (nats ((List.range k).filter (fun h => domAt s h 2 == n))).length ≤ 16 := by rw [nats_len]; exact Nat.le_trans (List.length_filter_le _ _) (by rw [List.length_range]; omega)
      obtain ⟨nn, hnn⟩ : ∃ m, m = (nats ((List.range k).filter (fun h => domAt s h 2 == n))).length := ⟨_, rfl⟩
      obtain ⟨x, hx⟩ : ∃ x, x = (rackAt s k) := ⟨_, rfl⟩
      rw [← hnn] at ho hln
      have HNN := Lib.hid hnn
      have HXX := Lib.hid (show domAt s k 2 = x from hx.symm)
      have HC1 := Lib.hid (show Calls Tryz.prog 58 #[.int .i64 (k : Int), .pointer (some ⟨bs, 0, none⟩)] wr fun e w' => e = .returned (.int .i64 x) ∧ Below wr.heap.size wr w' from (HC.out k hlt wr (HB2.out.on hB.out (Nat.le_refl _)) (HA2.out.on hB.out (Nat.le_refl _)) (HR2.out.on hB.out (Nat.le_refl _)) HSOK.out).mono (fun e w' h => ⟨by rw [hx]; exact h.1, h.2⟩))
      obtain ⟨As, cs, rfl⟩ := own_shape ho.out
      have hz3' := hB.out.size
      clear hnn hx
      go_wp2_with (fail)
      go_at_call 58
      refine HC1.out.mono ?_
      rintro e wz ⟨rfl, bz⟩
      have HBz := Lib.hid (below_join hB.out bz hB.out.size)
      have HOz := Lib.hid (own_on ho.out bz (Nat.le_refl _))
      have hz4 := bz.size
      clear bz
      rcases hf : (x == n) with _ | _
      · have HO := Lib.hid (show wz.ownsRow w2.heap.size 3 1 (.slice As nn cs) (nats ((List.range (k + 1)).filter (fun h => domAt s h 2 == n))).length (ints (nats ((List.range (k + 1)).filter (fun h => domAt s h 2 == n)))) by
          rw [range_filter, show (domAt s k 2 == n) = false by rw [HXX.out]; exact hf]
          simp only [Bool.false_eq_true, if_false, List.append_nil]
          rw [← HNN.out]; exact HOz.out)
        go_wp2_with (fail)
        go_roundw
        case rel => exact ⟨k + 1, by omega, by go_num, HBz, HO⟩
        case measure => simp only [intOf]; omega
      · have HFF := Lib.hid hf
        go_wp2_with (at_builtin; refine wpList_append_lies _ rfl _ _ 49 rfl w2.heap.size 3 i1 (.int .i64 0) 1 8 Tryz.underlying49 hi1 hz1 hz2 hz3 rfl (by decide) (.slice As nn cs) nn _ rfl (HOz.out.alloc _) ⟨wz.heap.size, 0, none⟩ 1 1 [.int .i64 (k : Int)] rfl rfl (World.news_of_block (heap_alloc_new _ _)) (by simp [Value.oneCell']) (by decide) (by unfold maxLen; omega) (by omega) (by simp; omega) (wz.heap.size + 1) (by simp) ?_; intro g4 cap4 Z hown hgrow _ _; have HBZ := Lib.hid ((HBz.out.alloc HBz.out.size _).grown hgrow (by simp; omega) (fun k hk => (ownsRow_lt HOz.out hk).1)); have HOZ := Lib.hid hown; clear hown hgrow)
        have HO := Lib.hid (show Z.ownsRow w2.heap.size 3 1 (.slice (some ⟨g4, 0, none⟩) (nn + 1) cap4) (nats ((List.range (k + 1)).filter (fun h => domAt s h 2 == n))).length (ints (nats ((List.range (k + 1)).filter (fun h => domAt s h 2 == n)))) by
          rw [range_filter, show (domAt s k 2 == n) = true by rw [HXX.out]; exact HFF.out]
          simp only [if_true]
          rw [show nats (((List.range k).filter (fun h => domAt s h 2 == n)) ++ [k]) = (nats ((List.range k).filter (fun h => domAt s h 2 == n))) ++ [(k : Int)] by simp [nats], List.length_append, List.length_singleton, ← HNN.out, ints_snoc]
          exact HOZ.out)
        go_roundw
        case rel => exact ⟨k + 1, by omega, by go_num, HBZ, HO⟩
        case measure => simp only [intOf]; omega
    · obtain rfl : k = s.hosts.length := by omega
      go_wp2_with (fail)
      go_ret
      exact ⟨_, rfl, own_mono ho.out (Nat.le_trans HB0.out.size K2.out.size), below_join HB0.out (below_join K2.out hB.out K2.out.size) HB0.out.size⟩
set_option maxHeartbeats 16000000 in
theorem c_mem3 (p : SP) (s : SiteD) (hok : siteOk s = true) (n : Int) (hix : ixB n 4 = true) (w : World) (h : SiAt w p s) :
    Calls Tryz.prog 28 #[siV p s, .int .u8 3, .int .i64 n] w fun e w' => ∃ v, e = .returned v ∧ w'.ownsRow w.heap.size 3 1 v (nats ((List.range s.hosts.length).filter (fun h => domAt s h 3 == n))).length (ints (nats ((List.range s.hosts.length).filter (fun h => domAt s h 3 == n)))) ∧ Below w.heap.size w w' := by
  have hsok := siteOk_iff.1 hok
  have hnh := hsok.nhosts
  have HV := Lib.hid (fun (X : World) (hX : SiAt X p s) => c_doms3 p s hok X hX)
  have HSOK := Lib.hid hsok
  have HIX := Lib.hid hix
  unfold siV at HV
  clear hok hsok hix
  unfold siV
  obtain ⟨W, hW⟩ : ∃ W, W = w.alloc (.cells #[.slice p.a1 s.feeds.length p.c1, .slice p.a2 s.brks.length p.c2, .slice p.a3 s.loops.length p.c3, .slice p.a4 s.racks.length p.c4, .int .i64 s.sw, .slice p.a5 s.links.length p.c5, .slice p.a6 s.hosts.length p.c6] 29) := ⟨_, rfl⟩
  have B0 : Below w.heap.size w W := by subst hW; exact (Below.refl _ _).alloc (Nat.le_refl _) _
  have HB0 := Lib.hid B0
  have HX := Lib.hid (show SiBox W w.heap.size p s by subst hW; exact siBox_new _ _ _)
  have HA := Lib.hid (h.on B0 (Nat.le_refl _))
  have HF := Lib.hid (fun (X : World) (hX : Below W.heap.size W X) => (let z := HX.out.on hX (Nat.le_refl _); ⟨z.c0, z.c1, z.c2, z.c3, z.c4, z.c5, z.c6⟩ : X.cell? ⟨w.heap.size, 0, none⟩ = some (.slice p.a1 s.feeds.length p.c1) ∧ X.cell? ⟨w.heap.size, 1, none⟩ = some (.slice p.a2 s.brks.length p.c2) ∧ X.cell? ⟨w.heap.size, 2, none⟩ = some (.slice p.a3 s.loops.length p.c3) ∧ X.cell? ⟨w.heap.size, 3, none⟩ = some (.slice p.a4 s.racks.length p.c4) ∧ X.cell? ⟨w.heap.size, 4, none⟩ = some (.int .i64 s.sw) ∧ X.cell? ⟨w.heap.size, 5, none⟩ = some (.slice p.a5 s.links.length p.c5) ∧ X.cell? ⟨w.heap.size, 6, none⟩ = some (.slice p.a6 s.hosts.length p.c6)))
  have m1 := h.feeds.1; have m2 := h.brks.1; have m3 := h.loops.1; have m4 := h.racks.1; have m5 := h.links.1; have m6 := h.hosts.1
  have n1 := h.feeds.2.1; have n2 := h.brks.2.1; have n3 := h.loops.2.1; have n4 := h.racks.2.1; have n5 := h.links.2.1; have n6 := h.hosts.2.1
  unfold maxLen at n1 n2 n3 n4 n5 n6
  have KW := Lib.hid (Below.refl W.heap.size W)
  have hlw : w.heap.size < W.heap.size := HX.out.lt
  clear B0 h
  obtain ⟨f0, f1, f2, f3, f4, f5, f6⟩ := HF.out W KW.out
  rw [hW] at f0 f1 f2 f3 f4 f5 f6
  go_enter Tryz.func28, Tryz.ntmps28
  go_wp2_with (fail)
  rw [← hW]
  clear hW f0 f1 f2 f3 f4 f5 f6
  go_at_call 39
  refine (HV.out W HA.out).mono ?_
  rintro e w1 ⟨bs, bt, rfl, hb1, ha1, hr1, b1⟩
  have K1 := Lib.hid b1
  have HB1 := Lib.hid hb1
  have HA1 := Lib.hid ha1
  have HR1 := Lib.hid hr1
  clear b1 hb1 ha1 hr1
  go_wp2_with (fail)
  go_at_call 45
  refine (c_isIndex n 4 true HIX.out w1).mono ?_
  rintro e w2 ⟨rfl, b2⟩
  have K2 := Lib.hid (below_join K1.out b2 K1.out.size)
  have KK := Lib.hid b2
  clear b2
  have HB2 := Lib.hid (HB1.out.on KK.out (Nat.le_refl _))
  have HA2 := Lib.hid (HA1.out.on KK.out (Nat.le_refl _))
  have HR2 := Lib.hid (HR1.out.on KK.out (Nat.le_refl _))
  have HC := Lib.hid (fun (k : Nat) (hk : k < s.hosts.length) (X : World) (hb : SiBox X bs p s) (ha : SiAt X p s) (hr : RkBox X bt bs) (hsok : SiteOk s) => (show Calls Tryz.prog 59 #[.int .i64 (k : Int), .pointer (some ⟨bt, 0, none⟩)] X fun e w' => e = .returned (.int .i64 (rkAt s k).row) ∧ Below X.heap.size X w' from c_dom4 bs bt p s hsok k hk X hb ha hr))
  obtain ⟨i1, hi1, hz1, hz2, hz3⟩ := info_parts int_info
  obtain ⟨f0, f1, f2, f3, f4, f5, f6⟩ := HF.out w2 K2.out
  go_wp2_with (fail)
  clear f0 f1 f2 f3 f4 f5 f6
  go_loopw [9, 24] (fun v i wr => ∃ k : Nat, k ≤ s.hosts.length ∧ i = .int .i64 (k : Int) ∧ Hid (Below w2.heap.size w2 wr) ∧ Hid (wr.ownsRow w2.heap.size 3 1 v (nats ((List.range k).filter (fun h => domAt s h 3 == n))).length (ints (nats ((List.range k).filter (fun h => domAt s h 3 == n)))))) (fun _ i _ => s.hosts.length - (intOf i).toNat)
  case atStart => exact ⟨0, Nat.zero_le _, rfl, Lib.hid (Below.refl _ _), Lib.hid (World.ownsRow_nil _ _ _ _)⟩
  case round =>
    obtain ⟨k, hk, rfl, hB, ho⟩ := hrel
    have hki : ((k : Nat) : Int).toNat = k := by omega
    by_cases hlt : k < s.hosts.length
    · have hkl : (k : Int) < (s.hosts.length : Int) := by omega
      have hln : (nats ((List.range k).filter (fun h => domAt s h 3 == n))).length ≤ 16 := by rw [nats_len]; exact Nat.le_trans (List.length_filter_le _ _) (by rw [List.length_range]; omega)
      obtain ⟨nn, hnn⟩ : ∃ m, m = (nats ((List.range k).filter (fun h => domAt s h 3 == n))).length := ⟨_, rfl⟩
      obtain ⟨x, hx⟩ : ∃ x, x = (rkAt s k).row := ⟨_, rfl⟩
      rw [← hnn] at ho hln
      have HNN := Lib.hid hnn
      have HXX := Lib.hid (show domAt s k 3 = x from hx.symm)
      have HC1 := Lib.hid (show Calls Tryz.prog 59 #[.int .i64 (k : Int), .pointer (some ⟨bt, 0, none⟩)] wr fun e w' => e = .returned (.int .i64 x) ∧ Below wr.heap.size wr w' from (HC.out k hlt wr (HB2.out.on hB.out (Nat.le_refl _)) (HA2.out.on hB.out (Nat.le_refl _)) (HR2.out.on hB.out (Nat.le_refl _)) HSOK.out).mono (fun e w' h => ⟨by rw [hx]; exact h.1, h.2⟩))
      obtain ⟨As, cs, rfl⟩ := own_shape ho.out
      have hz3' := hB.out.size
      clear hnn hx
      go_wp2_with (fail)
      go_at_call 59
      refine HC1.out.mono ?_
      rintro e wz ⟨rfl, bz⟩
      have HBz := Lib.hid (below_join hB.out bz hB.out.size)
      have HOz := Lib.hid (own_on ho.out bz (Nat.le_refl _))
      have hz4 := bz.size
      clear bz
      rcases hf : (x == n) with _ | _
      · have HO := Lib.hid (show wz.ownsRow w2.heap.size 3 1 (.slice As nn cs) (nats ((List.range (k + 1)).filter (fun h => domAt s h 3 == n))).length (ints (nats ((List.range (k + 1)).filter (fun h => domAt s h 3 == n)))) by
          rw [range_filter, show (domAt s k 3 == n) = false by rw [HXX.out]; exact hf]
          simp only [Bool.false_eq_true, if_false, List.append_nil]
          rw [← HNN.out]; exact HOz.out)
        go_wp2_with (fail)
        go_roundw
        case rel => exact ⟨k + 1, by omega, by go_num, HBz, HO⟩
        case measure => simp only [intOf]; omega
      · have HFF := Lib.hid hf
        go_wp2_with (at_builtin; refine wpList_append_lies _ rfl _ _ 49 rfl w2.heap.size 3 i1 (.int .i64 0) 1 8 Tryz.underlying49 hi1 hz1 hz2 hz3 rfl (by decide) (.slice As nn cs) nn _ rfl (HOz.out.alloc _) ⟨wz.heap.size, 0, none⟩ 1 1 [.int .i64 (k : Int)] rfl rfl (World.news_of_block (heap_alloc_new _ _)) (by simp [Value.oneCell']) (by decide) (by unfold maxLen; omega) (by omega) (by simp; omega) (wz.heap.size + 1) (by simp) ?_; intro g4 cap4 Z hown hgrow _ _; have HBZ := Lib.hid ((HBz.out.alloc HBz.out.size _).grown hgrow (by simp; omega) (fun k hk => (ownsRow_lt HOz.out hk).1)); have HOZ := Lib.hid hown; clear hown hgrow)
        have HO := Lib.hid (show Z.ownsRow w2.heap.size 3 1 (.slice (some ⟨g4, 0, none⟩) (nn + 1) cap4) (nats ((List.range (k + 1)).filter (fun h => domAt s h 3 == n))).length (ints (nats ((List.range (k + 1)).filter (fun h => domAt s h 3 == n)))) by
          rw [range_filter, show (domAt s k 3 == n) = true by rw [HXX.out]; exact HFF.out]
          simp only [if_true]
          rw [show nats (((List.range k).filter (fun h => domAt s h 3 == n)) ++ [k]) = (nats ((List.range k).filter (fun h => domAt s h 3 == n))) ++ [(k : Int)] by simp [nats], List.length_append, List.length_singleton, ← HNN.out, ints_snoc]
          exact HOZ.out)
        go_roundw
        case rel => exact ⟨k + 1, by omega, by go_num, HBZ, HO⟩
        case measure => simp only [intOf]; omega
    · obtain rfl : k = s.hosts.length := by omega
      go_wp2_with (fail)
      go_ret
      exact ⟨_, rfl, own_mono ho.out (Nat.le_trans HB0.out.size K2.out.size), below_join HB0.out (below_join K2.out hB.out K2.out.size) HB0.out.size⟩
set_option maxHeartbeats 16000000 in
theorem c_mem4 (p : SP) (s : SiteD) (hok : siteOk s = true) (n : Int) (hix : ixB n (s.feeds.length : Int) = true) (w : World) (h : SiAt w p s) :
    Calls Tryz.prog 28 #[siV p s, .int .u8 4, .int .i64 n] w fun e w' => ∃ v, e = .returned v ∧ w'.ownsRow w.heap.size 3 1 v (nats ((List.range s.hosts.length).filter (fun h => domAt s h 4 == n))).length (ints (nats ((List.range s.hosts.length).filter (fun h => domAt s h 4 == n)))) ∧ Below w.heap.size w w' := by
  have hsok := siteOk_iff.1 hok
  have hnh := hsok.nhosts
  have HV := Lib.hid (fun (X : World) (hX : SiAt X p s) => c_doms4 p s hok X hX)
  have HSOK := Lib.hid hsok
  have HIX := Lib.hid hix
  unfold siV at HV
  clear hok hsok hix
  unfold siV
  obtain ⟨W, hW⟩ : ∃ W, W = w.alloc (.cells #[.slice p.a1 s.feeds.length p.c1, .slice p.a2 s.brks.length p.c2, .slice p.a3 s.loops.length p.c3, .slice p.a4 s.racks.length p.c4, .int .i64 s.sw, .slice p.a5 s.links.length p.c5, .slice p.a6 s.hosts.length p.c6] 29) := ⟨_, rfl⟩
  have B0 : Below w.heap.size w W := by subst hW; exact (Below.refl _ _).alloc (Nat.le_refl _) _
  have HB0 := Lib.hid B0
  have HX := Lib.hid (show SiBox W w.heap.size p s by subst hW; exact siBox_new _ _ _)
  have HA := Lib.hid (h.on B0 (Nat.le_refl _))
  have HF := Lib.hid (fun (X : World) (hX : Below W.heap.size W X) => (let z := HX.out.on hX (Nat.le_refl _); ⟨z.c0, z.c1, z.c2, z.c3, z.c4, z.c5, z.c6⟩ : X.cell? ⟨w.heap.size, 0, none⟩ = some (.slice p.a1 s.feeds.length p.c1) ∧ X.cell? ⟨w.heap.size, 1, none⟩ = some (.slice p.a2 s.brks.length p.c2) ∧ X.cell? ⟨w.heap.size, 2, none⟩ = some (.slice p.a3 s.loops.length p.c3) ∧ X.cell? ⟨w.heap.size, 3, none⟩ = some (.slice p.a4 s.racks.length p.c4) ∧ X.cell? ⟨w.heap.size, 4, none⟩ = some (.int .i64 s.sw) ∧ X.cell? ⟨w.heap.size, 5, none⟩ = some (.slice p.a5 s.links.length p.c5) ∧ X.cell? ⟨w.heap.size, 6, none⟩ = some (.slice p.a6 s.hosts.length p.c6)))
  have m1 := h.feeds.1; have m2 := h.brks.1; have m3 := h.loops.1; have m4 := h.racks.1; have m5 := h.links.1; have m6 := h.hosts.1
  have n1 := h.feeds.2.1; have n2 := h.brks.2.1; have n3 := h.loops.2.1; have n4 := h.racks.2.1; have n5 := h.links.2.1; have n6 := h.hosts.2.1
  unfold maxLen at n1 n2 n3 n4 n5 n6
  have KW := Lib.hid (Below.refl W.heap.size W)
  have hlw : w.heap.size < W.heap.size := HX.out.lt
  clear B0 h
  obtain ⟨f0, f1, f2, f3, f4, f5, f6⟩ := HF.out W KW.out
  rw [hW] at f0 f1 f2 f3 f4 f5 f6
  go_enter Tryz.func28, Tryz.ntmps28
  go_wp2_with (fail)
  rw [← hW]
  clear hW f0 f1 f2 f3 f4 f5 f6
  go_at_call 39
  refine (HV.out W HA.out).mono ?_
  rintro e w1 ⟨bs, bt, rfl, hb1, ha1, hr1, b1⟩
  have K1 := Lib.hid b1
  have HB1 := Lib.hid hb1
  have HA1 := Lib.hid ha1
  have HR1 := Lib.hid hr1
  clear b1 hb1 ha1 hr1
  go_wp2_with (fail)
  go_at_call 45
  refine (c_isIndex n (s.feeds.length : Int) true HIX.out w1).mono ?_
  rintro e w2 ⟨rfl, b2⟩
  have K2 := Lib.hid (below_join K1.out b2 K1.out.size)
  have KK := Lib.hid b2
  clear b2
  have HB2 := Lib.hid (HB1.out.on KK.out (Nat.le_refl _))
  have HA2 := Lib.hid (HA1.out.on KK.out (Nat.le_refl _))
  have HR2 := Lib.hid (HR1.out.on KK.out (Nat.le_refl _))
  have HC := Lib.hid (fun (k : Nat) (hk : k < s.hosts.length) (X : World) (hb : SiBox X bs p s) (ha : SiAt X p s) (hr : RkBox X bt bs) (hsok : SiteOk s) => (show Calls Tryz.prog 60 #[.int .i64 (k : Int), .pointer (some ⟨bs, 0, none⟩), .pointer (some ⟨bt, 0, none⟩)] X fun e w' => e = .returned (.int .i64 (feedAt s k)) ∧ Below X.heap.size X w' from c_dom5 bs bt p s hsok k hk X hb ha hr))
  obtain ⟨i1, hi1, hz1, hz2, hz3⟩ := info_parts int_info
  obtain ⟨f0, f1, f2, f3, f4, f5, f6⟩ := HF.out w2 K2.out
  go_wp2_with (fail)
  clear f0 f1 f2 f3 f4 f5 f6
  go_loopw [9, 24] (fun v i wr => ∃ k : Nat, k ≤ s.hosts.length ∧ i = .int .i64 (k : Int) ∧ Hid (Below w2.heap.size w2 wr) ∧ Hid (wr.ownsRow w2.heap.size 3 1 v (nats ((List.range k).filter (fun h => domAt s h 4 == n))).length (ints (nats ((List.range k).filter (fun h => domAt s h 4 == n)))))) (fun _ i _ => s.hosts.length - (intOf i).toNat)
  case atStart => exact ⟨0, Nat.zero_le _, rfl, Lib.hid (Below.refl _ _), Lib.hid (World.ownsRow_nil _ _ _ _)⟩
  case round =>
    obtain ⟨k, hk, rfl, hB, ho⟩ := hrel
    have hki : ((k : Nat) : Int).toNat = k := by omega
    by_cases hlt : k < s.hosts.length
    · have hkl : (k : Int) < (s.hosts.length : Int) := by omega
      have hln : (nats ((List.range k).filter (fun h => domAt s h 4 == n))).length ≤ 16 := by rw [nats_len]; exact Nat.le_trans (List.length_filter_le _ _) (by rw [List.length_range]; omega)
      obtain ⟨nn, hnn⟩ : ∃ m, m = (nats ((List.range k).filter (fun h => domAt s h 4 == n))).length := ⟨_, rfl⟩
      obtain ⟨x, hx⟩ : ∃ x, x = (feedAt s k) := ⟨_, rfl⟩
      rw [← hnn] at ho hln
      have HNN := Lib.hid hnn
      have HXX := Lib.hid (show domAt s k 4 = x from hx.symm)
      have HC1 := Lib.hid (show Calls Tryz.prog 60 #[.int .i64 (k : Int), .pointer (some ⟨bs, 0, none⟩), .pointer (some ⟨bt, 0, none⟩)] wr fun e w' => e = .returned (.int .i64 x) ∧ Below wr.heap.size wr w' from (HC.out k hlt wr (HB2.out.on hB.out (Nat.le_refl _)) (HA2.out.on hB.out (Nat.le_refl _)) (HR2.out.on hB.out (Nat.le_refl _)) HSOK.out).mono (fun e w' h => ⟨by rw [hx]; exact h.1, h.2⟩))
      obtain ⟨As, cs, rfl⟩ := own_shape ho.out
      have hz3' := hB.out.size
      clear hnn hx
      go_wp2_with (fail)
      go_at_call 60
      refine HC1.out.mono ?_
      rintro e wz ⟨rfl, bz⟩
      have HBz := Lib.hid (below_join hB.out bz hB.out.size)
      have HOz := Lib.hid (own_on ho.out bz (Nat.le_refl _))
      have hz4 := bz.size
      clear bz
      rcases hf : (x == n) with _ | _
      · have HO := Lib.hid (show wz.ownsRow w2.heap.size 3 1 (.slice As nn cs) (nats ((List.range (k + 1)).filter (fun h => domAt s h 4 == n))).length (ints (nats ((List.range (k + 1)).filter (fun h => domAt s h 4 == n)))) by
          rw [range_filter, show (domAt s k 4 == n) = false by rw [HXX.out]; exact hf]
          simp only [Bool.false_eq_true, if_false, List.append_nil]
          rw [← HNN.out]; exact HOz.out)
        go_wp2_with (fail)
        go_roundw
        case rel => exact ⟨k + 1, by omega, by go_num, HBz, HO⟩
        case measure => simp only [intOf]; omega
      · have HFF := Lib.hid hf
        go_wp2_with (at_builtin; refine wpList_append_lies _ rfl _ _ 49 rfl w2.heap.size 3 i1 (.int .i64 0) 1 8 Tryz.underlying49 hi1 hz1 hz2 hz3 rfl (by decide) (.slice As nn cs) nn _ rfl (HOz.out.alloc _) ⟨wz.heap.size, 0, none⟩ 1 1 [.int .i64 (k : Int)] rfl rfl (World.news_of_block (heap_alloc_new _ _)) (by simp [Value.oneCell']) (by decide) (by unfold maxLen; omega) (by omega) (by simp; omega) (wz.heap.size + 1) (by simp) ?_; intro g4 cap4 Z hown hgrow _ _; have HBZ := Lib.hid ((HBz.out.alloc HBz.out.size _).grown hgrow (by simp; omega) (fun k hk => (ownsRow_lt HOz.out hk).1)); have HOZ := Lib.hid hown; clear hown hgrow)
        have HO := Lib.hid (show Z.ownsRow w2.heap.size 3 1 (.slice (some ⟨g4, 0, none⟩) (nn + 1) cap4) (nats ((List.range (k + 1)).filter (fun h => domAt s h 4 == n))).length (ints (nats ((List.range (k + 1)).filter (fun h => domAt s h 4 == n)))) by
          rw [range_filter, show (domAt s k 4 == n) = true by rw [HXX.out]; exact HFF.out]
          simp only [if_true]
          rw [show nats (((List.range k).filter (fun h => domAt s h 4 == n)) ++ [k]) = (nats ((List.range k).filter (fun h => domAt s h 4 == n))) ++ [(k : Int)] by simp [nats], List.length_append, List.length_singleton, ← HNN.out, ints_snoc]
          exact HOZ.out)
        go_roundw
        case rel => exact ⟨k + 1, by omega, by go_num, HBZ, HO⟩
        case measure => simp only [intOf]; omega
    · obtain rfl : k = s.hosts.length := by omega
      go_wp2_with (fail)
      go_ret
      exact ⟨_, rfl, own_mono ho.out (Nat.le_trans HB0.out.size K2.out.size), below_join HB0.out (below_join K2.out hB.out K2.out.size) HB0.out.size⟩
set_option maxHeartbeats 16000000 in
theorem c_mem5 (p : SP) (s : SiteD) (hok : siteOk s = true) (n : Int) (hix : ixB n (s.loops.length : Int) = true) (w : World) (h : SiAt w p s) :
    Calls Tryz.prog 28 #[siV p s, .int .u8 5, .int .i64 n] w fun e w' => ∃ v, e = .returned v ∧ w'.ownsRow w.heap.size 3 1 v (nats ((List.range s.hosts.length).filter (fun h => domAt s h 5 == n))).length (ints (nats ((List.range s.hosts.length).filter (fun h => domAt s h 5 == n)))) ∧ Below w.heap.size w w' := by
  have hsok := siteOk_iff.1 hok
  have hnh := hsok.nhosts
  have HV := Lib.hid (fun (X : World) (hX : SiAt X p s) => c_doms5 p s hok X hX)
  have HSOK := Lib.hid hsok
  have HIX := Lib.hid hix
  unfold siV at HV
  clear hok hsok hix
  unfold siV
  obtain ⟨W, hW⟩ : ∃ W, W = w.alloc (.cells #[.slice p.a1 s.feeds.length p.c1, .slice p.a2 s.brks.length p.c2, .slice p.a3 s.loops.length p.c3, .slice p.a4 s.racks.length p.c4, .int .i64 s.sw, .slice p.a5 s.links.length p.c5, .slice p.a6 s.hosts.length p.c6] 29) := ⟨_, rfl⟩
  have B0 : Below w.heap.size w W := by subst hW; exact (Below.refl _ _).alloc (Nat.le_refl _) _
  have HB0 := Lib.hid B0
  have HX := Lib.hid (show SiBox W w.heap.size p s by subst hW; exact siBox_new _ _ _)
  have HA := Lib.hid (h.on B0 (Nat.le_refl _))
  have HF := Lib.hid (fun (X : World) (hX : Below W.heap.size W X) => (let z := HX.out.on hX (Nat.le_refl _); ⟨z.c0, z.c1, z.c2, z.c3, z.c4, z.c5, z.c6⟩ : X.cell? ⟨w.heap.size, 0, none⟩ = some (.slice p.a1 s.feeds.length p.c1) ∧ X.cell? ⟨w.heap.size, 1, none⟩ = some (.slice p.a2 s.brks.length p.c2) ∧ X.cell? ⟨w.heap.size, 2, none⟩ = some (.slice p.a3 s.loops.length p.c3) ∧ X.cell? ⟨w.heap.size, 3, none⟩ = some (.slice p.a4 s.racks.length p.c4) ∧ X.cell? ⟨w.heap.size, 4, none⟩ = some (.int .i64 s.sw) ∧ X.cell? ⟨w.heap.size, 5, none⟩ = some (.slice p.a5 s.links.length p.c5) ∧ X.cell? ⟨w.heap.size, 6, none⟩ = some (.slice p.a6 s.hosts.length p.c6)))
  have m1 := h.feeds.1; have m2 := h.brks.1; have m3 := h.loops.1; have m4 := h.racks.1; have m5 := h.links.1; have m6 := h.hosts.1
  have n1 := h.feeds.2.1; have n2 := h.brks.2.1; have n3 := h.loops.2.1; have n4 := h.racks.2.1; have n5 := h.links.2.1; have n6 := h.hosts.2.1
  unfold maxLen at n1 n2 n3 n4 n5 n6
  have KW := Lib.hid (Below.refl W.heap.size W)
  have hlw : w.heap.size < W.heap.size := HX.out.lt
  clear B0 h
  obtain ⟨f0, f1, f2, f3, f4, f5, f6⟩ := HF.out W KW.out
  rw [hW] at f0 f1 f2 f3 f4 f5 f6
  go_enter Tryz.func28, Tryz.ntmps28
  go_wp2_with (fail)
  rw [← hW]
  clear hW f0 f1 f2 f3 f4 f5 f6
  go_at_call 39
  refine (HV.out W HA.out).mono ?_
  rintro e w1 ⟨bs, bt, rfl, hb1, ha1, hr1, b1⟩
  have K1 := Lib.hid b1
  have HB1 := Lib.hid hb1
  have HA1 := Lib.hid ha1
  have HR1 := Lib.hid hr1
  clear b1 hb1 ha1 hr1
  go_wp2_with (fail)
  go_at_call 45
  refine (c_isIndex n (s.loops.length : Int) true HIX.out w1).mono ?_
  rintro e w2 ⟨rfl, b2⟩
  have K2 := Lib.hid (below_join K1.out b2 K1.out.size)
  have KK := Lib.hid b2
  clear b2
  have HB2 := Lib.hid (HB1.out.on KK.out (Nat.le_refl _))
  have HA2 := Lib.hid (HA1.out.on KK.out (Nat.le_refl _))
  have HR2 := Lib.hid (HR1.out.on KK.out (Nat.le_refl _))
  have HC := Lib.hid (fun (k : Nat) (hk : k < s.hosts.length) (X : World) (hb : SiBox X bs p s) (ha : SiAt X p s) (hr : RkBox X bt bs) (hsok : SiteOk s) => (show Calls Tryz.prog 61 #[.int .i64 (k : Int), .pointer (some ⟨bt, 0, none⟩)] X fun e w' => e = .returned (.int .i64 (rkAt s k).loop) ∧ Below X.heap.size X w' from c_dom6 bs bt p s hsok k hk X hb ha hr))
  obtain ⟨i1, hi1, hz1, hz2, hz3⟩ := info_parts int_info
  obtain ⟨f0, f1, f2, f3, f4, f5, f6⟩ := HF.out w2 K2.out
  go_wp2_with (fail)
  clear f0 f1 f2 f3 f4 f5 f6
  go_loopw [9, 24] (fun v i wr => ∃ k : Nat, k ≤ s.hosts.length ∧ i = .int .i64 (k : Int) ∧ Hid (Below w2.heap.size w2 wr) ∧ Hid (wr.ownsRow w2.heap.size 3 1 v (nats ((List.range k).filter (fun h => domAt s h 5 == n))).length (ints (nats ((List.range k).filter (fun h => domAt s h 5 == n)))))) (fun _ i _ => s.hosts.length - (intOf i).toNat)
  case atStart => exact ⟨0, Nat.zero_le _, rfl, Lib.hid (Below.refl _ _), Lib.hid (World.ownsRow_nil _ _ _ _)⟩
  case round =>
    obtain ⟨k, hk, rfl, hB, ho⟩ := hrel
    have hki : ((k : Nat) : Int).toNat = k := by omega
    by_cases hlt : k < s.hosts.length
    · have hkl : (k : Int) < (s.hosts.length : Int) := by omega
      have hln : (nats ((List.range k).filter (fun h => domAt s h 5 == n))).length ≤ 16 := by rw [nats_len]; exact Nat.le_trans (List.length_filter_le _ _) (by rw [List.length_range]; omega)
      obtain ⟨nn, hnn⟩ : ∃ m, m = (nats ((List.range k).filter (fun h => domAt s h 5 == n))).length := ⟨_, rfl⟩
      obtain ⟨x, hx⟩ : ∃ x, x = (rkAt s k).loop := ⟨_, rfl⟩
      rw [← hnn] at ho hln
      have HNN := Lib.hid hnn
      have HXX := Lib.hid (show domAt s k 5 = x from hx.symm)
      have HC1 := Lib.hid (show Calls Tryz.prog 61 #[.int .i64 (k : Int), .pointer (some ⟨bt, 0, none⟩)] wr fun e w' => e = .returned (.int .i64 x) ∧ Below wr.heap.size wr w' from (HC.out k hlt wr (HB2.out.on hB.out (Nat.le_refl _)) (HA2.out.on hB.out (Nat.le_refl _)) (HR2.out.on hB.out (Nat.le_refl _)) HSOK.out).mono (fun e w' h => ⟨by rw [hx]; exact h.1, h.2⟩))
      obtain ⟨As, cs, rfl⟩ := own_shape ho.out
      have hz3' := hB.out.size
      clear hnn hx
      go_wp2_with (fail)
      go_at_call 61
      refine HC1.out.mono ?_
      rintro e wz ⟨rfl, bz⟩
      have HBz := Lib.hid (below_join hB.out bz hB.out.size)
      have HOz := Lib.hid (own_on ho.out bz (Nat.le_refl _))
      have hz4 := bz.size
      clear bz
      rcases hf : (x == n) with _ | _
      · have HO := Lib.hid (show wz.ownsRow w2.heap.size 3 1 (.slice As nn cs) (nats ((List.range (k + 1)).filter (fun h => domAt s h 5 == n))).length (ints (nats ((List.range (k + 1)).filter (fun h => domAt s h 5 == n)))) by
          rw [range_filter, show (domAt s k 5 == n) = false by rw [HXX.out]; exact hf]
          simp only [Bool.false_eq_true, if_false, List.append_nil]
          rw [← HNN.out]; exact HOz.out)
        go_wp2_with (fail)
        go_roundw
        case rel => exact ⟨k + 1, by omega, by go_num, HBz, HO⟩
        case measure => simp only [intOf]; omega
      · have HFF := Lib.hid hf
        go_wp2_with (at_builtin; refine wpList_append_lies _ rfl _ _ 49 rfl w2.heap.size 3 i1 (.int .i64 0) 1 8 Tryz.underlying49 hi1 hz1 hz2 hz3 rfl (by decide) (.slice As nn cs) nn _ rfl (HOz.out.alloc _) ⟨wz.heap.size, 0, none⟩ 1 1 [.int .i64 (k : Int)] rfl rfl (World.news_of_block (heap_alloc_new _ _)) (by simp [Value.oneCell']) (by decide) (by unfold maxLen; omega) (by omega) (by simp; omega) (wz.heap.size + 1) (by simp) ?_; intro g4 cap4 Z hown hgrow _ _; have HBZ := Lib.hid ((HBz.out.alloc HBz.out.size _).grown hgrow (by simp; omega) (fun k hk => (ownsRow_lt HOz.out hk).1)); have HOZ := Lib.hid hown; clear hown hgrow)
        have HO := Lib.hid (show Z.ownsRow w2.heap.size 3 1 (.slice (some ⟨g4, 0, none⟩) (nn + 1) cap4) (nats ((List.range (k + 1)).filter (fun h => domAt s h 5 == n))).length (ints (nats ((List.range (k + 1)).filter (fun h => domAt s h 5 == n)))) by
          rw [range_filter, show (domAt s k 5 == n) = true by rw [HXX.out]; exact HFF.out]
          simp only [if_true]
          rw [show nats (((List.range k).filter (fun h => domAt s h 5 == n)) ++ [k]) = (nats ((List.range k).filter (fun h => domAt s h 5 == n))) ++ [(k : Int)] by simp [nats], List.length_append, List.length_singleton, ← HNN.out, ints_snoc]
          exact HOZ.out)
        go_roundw
        case rel => exact ⟨k + 1, by omega, by go_num, HBZ, HO⟩
        case measure => simp only [intOf]; omega
    · obtain rfl : k = s.hosts.length := by omega
      go_wp2_with (fail)
      go_ret
      exact ⟨_, rfl, own_mono ho.out (Nat.le_trans HB0.out.size K2.out.size), below_join HB0.out (below_join K2.out hB.out K2.out.size) HB0.out.size⟩
theorem c_Members (p : SP) (s : SiteD) (d : Nat) (hd : d < 256) (n : Int) (w : World) (h : SiAt w p s) :
    Calls Tryz.prog 28 #[siV p s, .int .u8 (d : Int), .int .i64 n] w fun e w' => ∃ v, e = .returned v ∧ w'.ownsRow w.heap.size 3 1 v (memD s d n).length (ints (memD s d n)) ∧ Below w.heap.size w w' := by
  rcases hix : ixB n (cntD s d) with _ | _
  · exact c_memNeg p s d n w h (fun X hX => c_doms p s d hd X hX) hix
  · have hm : memD s d n = nats ((List.range s.hosts.length).filter (fun h => domAt s h d == n)) := by unfold memD; rw [hix]; rfl
    rw [hm]
    rcases hok : siteOk s with _ | _
    · exfalso
      have := ixB_iff.1 hix
      unfold cntD at this
      rw [hok] at this
      simp at this
      omega
    · have hc : cntD s d = cntOf s d := by unfold cntD; rw [hok]; rfl
      rw [hc] at hix
      by_cases hno : 1 ≤ d ∧ d ≤ 5
      · rcases (by omega : d = 1 ∨ d = 2 ∨ d = 3 ∨ d = 4 ∨ d = 5) with rfl | rfl | rfl | rfl | rfl
        · exact c_mem1 p s hok n hix w h
        · exact c_mem2 p s hok n hix w h
        · exact c_mem3 p s hok n hix w h
        · exact c_mem4 p s hok n hix w h
        · exact c_mem5 p s hok n hix w h
      · exfalso
        have h0 : cntOf s d = 0 := by unfold cntOf; split <;> first | rfl | (exfalso; omega)
        rw [h0] at hix
        have := ixB_iff.1 hix
        omega
end Go.Proofs.YtpokpgnclohiiaaGreat

namespace Go.Proofs.YtpokpgnclohiiaaGreat
open Go.RowKit
set_option maxRecDepth 100000
set_option linter.unusedVariables false
set_option linter.unusedSimpArgs false

theorem set_else {W : World} {b k o : Nat} {v : Value} {ob : Obj} (h : W.heap[k]? = some ob) (hne : k ≠ b) : (W.setCell ⟨b, o, none⟩ v).heap[k]? = some ob := by
  rw [Below.heap_setCell _ ⟨b, o, none⟩ v k hne]; exact h
theorem old_heap {X : World} {b : Nat} {o : Obj} (o' : Obj) (h : X.heap[b]? = some o) : (X.alloc o').heap[b]? = some o := (Below.heap_alloc _ _ _ (at_lt h)).trans h
end Go.Proofs.YtpokpgnclohiiaaGreat

namespace Go.Proofs.YtpokpgnclohiiaaGreat
set_option linter.unusedVariables false
set_option linter.unusedSimpArgs false

structure Hst where
  phase : Nat
  fw : Int
  deriving DecidableEq
structure Rep where
  svc : Int
  host : Int
  deriving DecidableEq
structure Nr where
  svc : Int
  lat : Int
structure Svc where
  cores : Int
  reps : Int
  least : Int
  dom : Nat
  spread : Int
  apart : List Int
  near : List Nr
  fw : Int
structure WorldD where
  hosts : List Hst
  reps : List Rep
/-- The elements of a list name other services, strictly ascending. -/
def othGo (own many : Int) : Int → List Int → Bool
  | _, [] => true
  | last, x :: l => if x ≤ last ∨ many ≤ x ∨ x = own then false else othGo own many x l
def othB (own many : Int) (l : List Int) : Bool := othGo own many (-1) l
theorem othGo_cons_ok {own many last x : Int} {l : List Int} (h : ¬ (x ≤ last ∨ many ≤ x ∨ x = own)) : othGo own many last (x :: l) = othGo own many x l := by
  rw [othGo, if_neg h]
theorem othGo_cons_no {own many last x : Int} {l : List Int} (h : x ≤ last ∨ many ≤ x ∨ x = own) : othGo own many last (x :: l) = false := by
  rw [othGo, if_pos h]
def nearBad (n : Nr) : Bool := !inB n.lat 0 1000000
def keepB (s : Svc) : Bool :=
  inB s.cores 1 1000 && (inB s.reps 0 24 && (inB s.least 0 s.reps && (inB s.fw 0 1000000 && (decide (s.dom ≤ 5) && (inB s.spread (if s.dom = 0 then 0 else 1) (if s.dom = 0 then 0 else 24) && !s.near.any nearBad)))))
def nameB (s : Svc) (own many : Int) : Bool := othB own many s.apart && othB own many (s.near.map (·.svc))
def svcB (s : Svc) (own many : Int) : Bool := keepB s && nameB s own many
def sumR (l : List Svc) : Int := (l.map (·.reps)).sum
/-- What a valid wish is. -/
def WishOk (l : List Svc) : Prop := l.length ≤ 8 ∧ (∀ (i : Nat) s, l[i]? = some s → svcB s i l.length = true) ∧ sumR l ≤ 24
theorem keepB_iff {s : Svc} : keepB s = true ↔ (1 ≤ s.cores ∧ s.cores ≤ 1000) ∧ (0 ≤ s.reps ∧ s.reps ≤ 24) ∧ (0 ≤ s.least ∧ s.least ≤ s.reps) ∧ (0 ≤ s.fw ∧ s.fw ≤ 1000000) ∧ s.dom ≤ 5 ∧ ((if s.dom = 0 then 0 else 1) ≤ s.spread ∧ s.spread ≤ (if s.dom = 0 then 0 else 24)) ∧ ∀ n ∈ s.near, 0 ≤ n.lat ∧ n.lat ≤ 1000000 := by
  unfold keepB
  simp only [Bool.and_eq_true, inB_iff, decide_eq_true_eq, Bool.not_eq_true', List.any_eq_false, nearBad]
  simp [inB_iff]
/-- The replicas are in order. -/
def lessR (a b : Rep) : Bool := decide (a.svc < b.svc) || (a.svc == b.svc && decide (a.host < b.host))
theorem lessR_iff {a b : Rep} : lessR a b = true ↔ a.svc < b.svc ∨ a.svc = b.svc ∧ a.host < b.host := by simp [lessR]
def ascB : List Rep → Bool
  | a :: b :: l => lessR a b && ascB (b :: l)
  | _ => true
theorem ascB_iff {l : List Rep} : ascB l = true ↔ ∀ (i : Nat) a b, l[i]? = some a → l[i + 1]? = some b → lessR a b = true := by
  induction l with
  | nil => simp [ascB]
  | cons x l ih =>
    cases l with
    | nil => simp [ascB]
    | cons y l =>
      rw [ascB, Bool.and_eq_true, ih]
      constructor
      · rintro ⟨h0, h⟩ i a b ha hb
        cases i with
        | zero => simp at ha hb; subst ha hb; exact h0
        | succ i => exact h i a b (by simpa using ha) (by simpa using hb)
      · intro h
        exact ⟨h 0 x y rfl rfl, fun i a b ha hb => h (i + 1) a b (by simpa using ha) (by simpa using hb)⟩
/-- The hosts of a service. -/
def whereD (l : List Rep) (s : Int) : List Int := (l.filter (fun r => r.svc == s)).map (·.host)
def coresAt (ss : List Svc) (k : Int) : Int := ((ss[k.toNat]?).map (·.cores)).getD 0
/-- The cores in use: sums wrap around. -/
def usedStep (ss : List Svc) (host : Int) (acc : Int) (r : Rep) : Int := if (r.host == host && ixB r.svc ss.length) = true then IntKind.i64.wrap (acc + coresAt ss r.svc) else acc
def usedD (ss : List Svc) (l : List Rep) (host : Int) : Int := l.foldl (usedStep ss host) 0
theorem used_snoc (ss : List Svc) (l : List Rep) (r : Rep) (host : Int) : usedD ss (l ++ [r]) host = usedStep ss host (usedD ss l host) r := by
  unfold usedD; rw [List.foldl_append]; rfl
/-- A valid world. -/
def hstOk (h : Hst) : Bool := decide (h.phase ≤ 4) && inB h.fw 0 1000000
def repOk (ns nh : Int) (r : Rep) : Bool := ixB r.svc ns && ixB r.host nh
def WorldOk (s : SiteD) (ss : List Svc) (w : WorldD) : Prop :=
  siteOk s = true ∧ WishOk ss ∧ w.hosts.length = s.hosts.length ∧ (∀ h ∈ w.hosts, hstOk h = true) ∧ w.reps.length ≤ 24 ∧ (∀ r ∈ w.reps, repOk ss.length s.hosts.length r = true) ∧ ascB w.reps = true
end Go.Proofs.YtpokpgnclohiiaaGreat

namespace Go.Proofs.YtpokpgnclohiiaaGreat
set_option linter.unusedVariables false
set_option linter.unusedSimpArgs false

def sumN (f : Nat → Int) : Nat → Int
  | 0 => 0
  | n + 1 => sumN f n + f n
theorem sumN_ext {f g : Nat → Int} : ∀ {n : Nat}, (∀ i, i < n → f i = g i) → sumN f n = sumN g n := by
  intro n
  induction n with
  | zero => intro _; rfl
  | succ n ih => intro h; rw [sumN, sumN, ih fun i hi => h i (by omega), h n (by omega)]
theorem sumN_add (f g : Nat → Int) (n : Nat) : sumN (fun i => f i + g i) n = sumN f n + sumN g n := by
  induction n with
  | zero => rfl
  | succ n ih => simp only [sumN, ih]; omega
theorem sumN_zero (n : Nat) : sumN (fun _ => 0) n = 0 := by
  induction n with
  | zero => rfl
  | succ n ih => simp only [sumN, ih]; omega
theorem sumN_one (a : Nat) (c : Int) (n : Nat) : sumN (fun i => if a = i then c else 0) n = if a < n then c else 0 := by
  induction n with
  | zero => simp [sumN]
  | succ n ih =>
    rw [sumN, ih]
    by_cases h : a = n
    · subst h; simp
    · rw [if_neg h]
      by_cases h2 : a < n
      · rw [if_pos h2, if_pos (by omega)]; omega
      · rw [if_neg h2, if_neg (by omega)]; omega
theorem sumN_bound {f : Nat → Int} {m : Int} : ∀ {n : Nat}, (∀ i, i < n → 0 ≤ f i ∧ f i ≤ m) → 0 ≤ sumN f n ∧ sumN f n ≤ m * n := by
  intro n
  induction n with
  | zero => intro _; simp [sumN]
  | succ n ih =>
    intro h
    have h1 := ih fun i hi => h i (by omega)
    have h2 := h n (by omega)
    rw [sumN, show ((n + 1 : Nat) : Int) = n + 1 by omega, Int.mul_add]
    omega
/-- How much the replicas weigh, service by service. -/
theorem sum_weights (c : Nat → Int) (n : Nat) : ∀ {l : List Rep}, (∀ r ∈ l, 0 ≤ r.svc ∧ r.svc < n) → sumN (fun i => (((whereD l i).length : Nat) : Int) * c i) n = (l.map fun r => c r.svc.toNat).sum := by
  intro l
  induction l with
  | nil => intro _; simp [whereD, sumN_zero]
  | cons r l ih =>
    intro h
    have h0 := h r (by simp)
    obtain ⟨a, ha⟩ : ∃ a : Nat, r.svc = a := ⟨r.svc.toNat, by omega⟩
    rw [List.map_cons, List.sum_cons, ← ih fun x hx => h x (by simp [hx])]
    have e : ∀ i, i < n → (((whereD (r :: l) i).length : Nat) : Int) * c i = (if a = i then c a else 0) + (((whereD l i).length : Nat) : Int) * c i := by
      intro i hi
      unfold whereD
      rw [List.filter_cons]
      by_cases e : a = i
      · subst e
        rw [if_pos (by rw [ha]; simp), if_pos rfl, List.map_cons, List.length_cons, Int.natCast_add, Int.add_mul]
        simp; omega
      · rw [if_neg (by rw [ha]; simp; omega), if_neg e]; omega
    rw [sumN_ext e, sumN_add, sumN_one, if_pos (by omega), ha]
    simp
theorem sum_runs (n : Nat) {l : List Rep} (h : ∀ r ∈ l, 0 ≤ r.svc ∧ r.svc < n) : sumN (fun i => (((whereD l i).length : Nat) : Int)) n = l.length := by
  have := sum_weights (fun _ => 1) n h
  simp only [Int.mul_one] at this
  rw [this]
  clear this h
  induction l with
  | nil => rfl
  | cons x l ih => rw [List.map_cons, List.sum_cons, ih, List.length_cons]; omega
/-- The cores in use where no sum wraps around. -/
def usedN (ss : List Svc) (l : List Rep) (host : Int) : Int := (l.map fun r => if r.host = host then coresAt ss r.svc else 0).sum
theorem used_eq {ss : List Svc} {host : Int} (hc : ∀ s ∈ ss, 1 ≤ s.cores ∧ s.cores ≤ 1000) : ∀ {l : List Rep}, (∀ r ∈ l, 0 ≤ r.svc ∧ r.svc < ss.length) → l.length ≤ 100 → ∀ acc : Int, 0 ≤ acc → acc ≤ 1000 * (100 - l.length) → l.foldl (usedStep ss host) acc = acc + usedN ss l host ∧ 0 ≤ usedN ss l host ∧ usedN ss l host ≤ 1000 * l.length := by
  intro l
  induction l with
  | nil => intro _ _ acc _ _; simp [usedN]
  | cons r l ih =>
    intro h hl acc h0 h1
    rw [List.length_cons] at hl h1
    have hr := h r (by simp)
    have hcr : 1 ≤ coresAt ss r.svc ∧ coresAt ss r.svc ≤ 1000 := by
      have hlt : r.svc.toNat < ss.length := by omega
      unfold coresAt
      rw [List.getElem?_eq_getElem hlt]
      exact hc _ (List.getElem_mem hlt)
    have hix : ixB r.svc ss.length = true := ixB_iff.2 hr
    rw [List.foldl_cons]
    have hN : usedN ss (r :: l) host = (if r.host = host then coresAt ss r.svc else 0) + usedN ss l host := by simp [usedN]
    have hstep : usedStep ss host acc r = acc + if r.host = host then coresAt ss r.svc else 0 := by
      unfold usedStep
      rw [hix, Bool.and_true]
      by_cases e : r.host = host
      · rw [if_pos (by simp [e]), if_pos e]
        unfold IntKind.wrap
        simp [IntKind.signed, IntKind.bits]
        omega
      · rw [if_neg (by simp [e]), if_neg e]; simp
    have key := ih (fun x hx => h x (by simp [hx])) (by omega) (usedStep ss host acc r) (by rw [hstep]; split <;> omega) (by rw [hstep]; split <;> omega)
    rw [key.1, hN, hstep, List.length_cons]
    refine ⟨by omega, ?_, ?_⟩
    · split <;> omega
    · split <;> omega
theorem sum_used {ss : List Svc} (nh : Nat) : ∀ {l : List Rep}, (∀ r ∈ l, 0 ≤ r.host ∧ r.host < nh) → sumN (fun i => usedN ss l i) nh = (l.map fun r => coresAt ss r.svc).sum := by
  intro l
  induction l with
  | nil => intro _; simp [usedN, sumN_zero]
  | cons r l ih =>
    intro h
    have h0 := h r (by simp)
    obtain ⟨a, ha⟩ : ∃ a : Nat, r.host = a := ⟨r.host.toNat, by omega⟩
    rw [List.map_cons, List.sum_cons, ← ih fun x hx => h x (by simp [hx])]
    have e : ∀ i, i < nh → usedN ss (r :: l) i = (if a = i then coresAt ss r.svc else 0) + usedN ss l i := by
      intro i hi
      unfold usedN
      rw [List.map_cons, List.sum_cons, ha]
      congr 1
      by_cases e : a = i
      · rw [if_pos e, if_pos (by omega)]
      · rw [if_neg e, if_neg (by omega)]
    rw [sumN_ext e, sumN_add, sumN_one, if_pos (by omega)]
/-- What the law of sums adds up. -/
theorem sums_ok {s : SiteD} {ss : List Svc} {w : WorldD} (h : WorldOk s ss w) :
    sumN (fun i => (((whereD w.reps i).length : Nat) : Int)) ss.length = w.reps.length ∧
    sumN (fun i => (((whereD w.reps i).length : Nat) : Int) * coresAt ss i) ss.length = sumN (fun i => usedD ss w.reps i) s.hosts.length ∧
    (∀ i : Int, 0 ≤ usedD ss w.reps i ∧ usedD ss w.reps i ≤ 24000) ∧ (∀ i : Nat, i < ss.length → 1 ≤ coresAt ss i ∧ coresAt ss i ≤ 1000) := by
  obtain ⟨h1, ⟨h2, h3, h4⟩, h5, h6, h7, h8, h9⟩ := h
  have hsv : ∀ r ∈ w.reps, 0 ≤ r.svc ∧ r.svc < ss.length := fun r hr => by
    have := h8 r hr
    unfold repOk at this
    rw [Bool.and_eq_true, ixB_iff, ixB_iff] at this
    exact this.1
  have hho : ∀ r ∈ w.reps, 0 ≤ r.host ∧ r.host < s.hosts.length := fun r hr => by
    have := h8 r hr
    unfold repOk at this
    rw [Bool.and_eq_true, ixB_iff, ixB_iff] at this
    exact this.2
  have hco : ∀ x ∈ ss, 1 ≤ x.cores ∧ x.cores ≤ 1000 := fun x hx => by
    obtain ⟨i, hi⟩ := List.getElem?_of_mem hx
    have := h3 i x hi
    unfold svcB at this
    rw [Bool.and_eq_true, keepB_iff] at this
    exact this.1.1
  have hu : ∀ i : Int, usedD ss w.reps i = usedN ss w.reps i ∧ 0 ≤ usedN ss w.reps i ∧ usedN ss w.reps i ≤ 1000 * w.reps.length := fun i => by
    have := used_eq (host := i) hco hsv (by omega) 0 (by omega) (by omega)
    unfold usedD
    rw [this.1]
    exact ⟨by omega, this.2⟩
  refine ⟨sum_runs _ hsv, ?_, fun i => ?_, fun i hi => ?_⟩
  · rw [sum_weights (fun i => coresAt ss i) _ hsv, sumN_ext (fun i _ => (hu i).1), sum_used _ hho]
    rfl
  · have := hu i; omega
  · unfold coresAt
    rw [show ((i : Nat) : Int).toNat = i by omega, List.getElem?_eq_getElem hi]
    exact hco _ (List.getElem_mem hi)
end Go.Proofs.YtpokpgnclohiiaaGreat

namespace Go.Proofs.YtpokpgnclohiiaaGreat
open Go.RowKit
attribute [local go_sem] Oper.semAt_some
set_option maxRecDepth 100000
set_option linter.unusedVariables false
set_option linter.unusedSimpArgs false

theorem wrap_in {x : Int} (h : -9223372036854775808 ≤ x) (h2 : x ≤ 9223372036854775807) : IntKind.i64.wrap x = x := by
  unfold IntKind.wrap
  simp [IntKind.signed, IntKind.bits]
  omega
/-- Rows of k cells, as a slice's address and capacity. -/
def Rv {α : Type} (k : Nat) (F : α → Nat → Value) (w : World) (A : Option Addr) (c : Nat) (l : List α) : Prop :=
  l.length ≤ c ∧ c ≤ maxLen ∧ (A = none → c = 0) ∧ (0 < l.length → ∃ b o, A = some ⟨b, o, none⟩ ∧ b < w.heap.size ∧ ∀ (j : Nat) (x : α), l[j]? = some x → ∀ i, i < k → w.cell? ⟨b, o + j * k + i, none⟩ = some (F x i))
section
variable {α : Type} {k : Nat} {F : α → Nat → Value} {w w' : World} {A : Option Addr} {c : Nat} {l : List α}
theorem Rv.on {B : Nat} (h : Rv k F w A c l) (hb : Below B w w') (hB : w.heap.size ≤ B) : Rv k F w' A c l := by
  obtain ⟨h1, h2, h3, h4⟩ := h
  refine ⟨h1, h2, h3, fun h0 => ?_⟩
  obtain ⟨b, o, e, hlt, hc⟩ := h4 h0
  exact ⟨b, o, e, Nat.lt_of_lt_of_le hlt hb.size, fun j x hj i hi => (hb.cell (p := ⟨b, o + j * k + i, none⟩) (by show b < B; omega)).trans (hc j x hj i hi)⟩
theorem Rv.at_ (h : Rv k F w A c l) {j : Nat} {x : α} (hj : l[j]? = some x) : ∃ b o, A = some ⟨b, o, none⟩ ∧ b < w.heap.size ∧ ∀ i, i < k → w.cell? ⟨b, o + j * k + i, none⟩ = some (F x i) := by
  obtain ⟨h1, h2, -, h4⟩ := h
  obtain ⟨b, o, e, hlt, hc⟩ := h4 (by have := (List.getElem?_eq_some_iff.1 hj).1; omega)
  exact ⟨b, o, e, hlt, fun i hi => hc j x hj i hi⟩
theorem Rv.nil (w : World) : Rv k F w none 0 ([] : List α) := ⟨Nat.le_refl _, Nat.zero_le _, fun _ => rfl, fun h => absurd h (Nat.lt_irrefl _)⟩
theorem Rv.take (h : Rv k F w A c l) (m : Nat) (hm : m ≤ l.length) : Rv k F w A c (l.take m) := by
  obtain ⟨h1, h2, h3, h4⟩ := h
  have hl : (l.take m).length = m := by rw [List.length_take]; omega
  refine ⟨by omega, h2, h3, fun h0 => ?_⟩
  obtain ⟨b, o, e, hlt, hc⟩ := h4 (by omega)
  refine ⟨b, o, e, hlt, fun j x hj => hc j x ?_⟩
  rw [List.getElem?_take] at hj
  split at hj
  · exact hj
  · cases hj
theorem Rv.drop {b o : Nat} (h : Rv k F w (some ⟨b, o, none⟩) c l) (m : Nat) (hm : m ≤ l.length) : Rv k F w (some ⟨b, o + m * k, none⟩) (c - m) (l.drop m) := by
  obtain ⟨h1, h2, h3, h4⟩ := h
  refine ⟨by simp; omega, by omega, (by intro h; cases h), fun h0 => ?_⟩
  obtain ⟨b', o', e, hlt, hc⟩ := h4 (by simp at h0; omega)
  injection e with e
  injection e with e1 e2
  subst e1 e2
  refine ⟨b, o + m * k, rfl, hlt, fun j x hj i hi => ?_⟩
  rw [List.getElem?_drop] at hj
  have := hc (m + j) x hj i hi
  rwa [show o + (m + j) * k + i = o + m * k + j * k + i by rw [Nat.add_mul]; omega] at this
end
/-- Rows as cells. -/
def cellsV {α : Type} (k : Nat) (F : α → Nat → Value) (l : List α) : List Value := l.flatMap fun x => (List.range k).map fun i => F x i
section
variable {α : Type} {k : Nat} {F : α → Nat → Value}
theorem cellsV_at : ∀ {l : List α} {j : Nat} {x : α}, l[j]? = some x → ∀ i, i < k → (cellsV k F l)[j * k + i]? = some (F x i) := by
  intro l
  induction l with
  | nil => intro j x h; simp at h
  | cons y l ih =>
    intro j x h i hi
    have e : cellsV k F (y :: l) = ((List.range k).map fun i => F y i) ++ cellsV k F l := rfl
    rw [e]
    cases j with
    | zero =>
      simp at h
      subst h
      rw [Nat.zero_mul, Nat.zero_add, List.getElem?_append_left (by simp; omega)]
      simp [hi]
    | succ j =>
      rw [List.getElem?_append_right (by simp; rw [Nat.succ_mul]; omega)]
      have := ih (j := j) (x := x) (by simpa using h) i hi
      rw [show (j + 1) * k + i - (List.map (fun i => F y i) (List.range k)).length = j * k + i by simp [Nat.succ_mul]; omega]
      exact this
theorem cellsV_len (l : List α) : (cellsV k F l).length = l.length * k := by
  induction l with
  | nil => simp [cellsV]
  | cons y l ih =>
    have e : cellsV k F (y :: l) = ((List.range k).map fun i => F y i) ++ cellsV k F l := rfl
    rw [e, List.length_append, ih, List.length_cons, Nat.succ_mul]
    simp; omega
/-- What lies in the cells behind a slice's address. -/
theorem Rv.cells {w : World} {A : Option Addr} {c : Nat} {l : List α} (h : Rv k F w A c l) (hk : 0 < k) : ∀ ad, A = some ad → ∀ j u, (cellsV k F l)[j]? = some u → w.cell? (ad.add j) = some u := by
  intro ad hA j u hj
  have hjl := (List.getElem?_eq_some_iff.1 hj).1
  rw [cellsV_len] at hjl
  have hq : j / k < l.length := Nat.div_lt_of_lt_mul (by rw [Nat.mul_comm]; exact hjl)
  obtain ⟨x, hx⟩ : ∃ x, l[j / k]? = some x := ⟨_, List.getElem?_eq_getElem hq⟩
  obtain ⟨b, o, e, -, hc⟩ := h.at_ hx
  rw [hA] at e
  injection e with e
  subst e
  have hr : j % k < k := Nat.mod_lt _ hk
  have hd : j / k * k + j % k = j := by rw [Nat.mul_comm]; exact Nat.div_add_mod j k
  have h1 := cellsV_at (F := F) hx (j % k) hr
  rw [hd, hj] at h1
  injection h1 with h1
  have h2 := hc (j % k) hr
  rw [show o + j / k * k + j % k = o + j by omega] at h2
  rw [h1]
  have e : (⟨b, o, none⟩ : Addr).add j = ⟨b, o + j, none⟩ := by unfold Addr.add; split <;> simp_all
  rw [e]; exact h2
/-- A block of rows is a list in memory. -/
theorem rv_block {l : List α} {w : World} {b : Nat} {T : TypeId} (h : w.heap[b]? = some (.cells (cellsV k F l).toArray T (0, 0))) (hl : l.length ≤ maxLen) : Rv k F w (some ⟨b, 0, none⟩) l.length l := by
  refine ⟨Nat.le_refl _, hl, (by intro h; cases h), fun _ => ⟨b, 0, rfl, at_lt h, fun j x hj i hi => ?_⟩⟩
  rw [Nat.zero_add]
  refine cell_of h ?_
  have := cellsV_at (F := F) hj i hi
  simpa using this
/-- A list that a walk has made is a list in memory. -/
theorem own_rv {w : World} {base : Nat} {T : TypeId} {v : Value} {l : List α} (h : w.ownsRow base T k v l.length (cellsV k F l)) : ∃ A c, v = .slice A l.length c ∧ Rv k F w A c l := by
  have hc := h
  obtain ⟨k1, ⟨e, e2⟩ | ⟨g, cap, cur, e, k3, k4, k5, k6, k7, k8⟩⟩ := h
  · subst e
    obtain rfl : l = [] := List.eq_nil_of_length_eq_zero e2
    exact ⟨none, 0, rfl, Rv.nil _⟩
  · subst e
    refine ⟨some ⟨g, 0, none⟩, cap, rfl, k5, k6, (by intro h; cases h), fun _ => ⟨g, 0, rfl, at_lt k4, fun j x hj i hi => ?_⟩⟩
    have h1 := cellsV_at (F := F) hj i hi
    have h2 := (List.getElem?_eq_some_iff.1 h1).1
    have := hc.cellAt (j * k + i) (by rwa [cellsV_len] at h2)
    rw [show 0 + j * k + i = j * k + i by omega, this, h1]
end
theorem rv_int {α : Type} {k : Nat} {G : α → Nat → Int} {w : World} {A : Option Addr} {c : Nat} {l : List α} (h : Rv k (fun x i => .int .i64 (G x i)) w A c l) : Rw k G w A c l := ⟨h.1, h.2.1, h.2.2.2⟩
def hstV (x : Hst) : Nat → Value
  | 0 => .int .u8 (x.phase : Int)
  | _ => .int .i64 x.fw
def repV (x : Rep) : Nat → Value
  | 0 => .int .i64 x.svc
  | _ => .int .i64 x.host
def nrV (x : Nr) : Nat → Value
  | 0 => .int .i64 x.svc
  | _ => .int .i64 x.lat
def inV (x : Int) (_ : Nat) : Value := .int .i64 x
/-- Where a service's lists lie. -/
structure SvA where
  a1 : Option Addr
  c1 : Nat
  a2 : Option Addr
  c2 : Nat
def svV (x : Svc × SvA) : Nat → Value
  | 0 => .int .i64 x.1.cores
  | 1 => .int .i64 x.1.reps
  | 2 => .int .i64 x.1.least
  | 3 => .int .u8 (x.1.dom : Int)
  | 4 => .int .i64 x.1.spread
  | 5 => .slice x.2.a1 x.1.apart.length x.2.c1
  | 6 => .slice x.2.a2 x.1.near.length x.2.c2
  | _ => .int .i64 x.1.fw
def svA (x : Svc × SvA) : Array Value := #[.int .i64 x.1.cores, .int .i64 x.1.reps, .int .i64 x.1.least, .int .u8 (x.1.dom : Int), .int .i64 x.1.spread, .slice x.2.a1 x.1.apart.length x.2.c1, .slice x.2.a2 x.1.near.length x.2.c2, .int .i64 x.1.fw]
/-- A service's lists. -/
structure SvAt (w : World) (x : Svc × SvA) : Prop where
  apart : Rv 1 inV w x.2.a1 x.2.c1 x.1.apart
  near : Rv 2 nrV w x.2.a2 x.2.c2 x.1.near
  dom : x.1.dom < 256
theorem SvAt.on {w w' : World} {x : Svc × SvA} {B : Nat} (h : SvAt w x) (hb : Below B w w') (hB : w.heap.size ≤ B) : SvAt w' x := ⟨h.apart.on hb hB, h.near.on hb hB, h.dom⟩
/-- A wish's services in memory. -/
structure WiAt (w : World) (A : Option Addr) (c : Nat) (xs : List (Svc × SvA)) : Prop where
  row : Rv 8 svV w A c xs
  each : ∀ x ∈ xs, SvAt w x
theorem WiAt.on {w w' : World} {A : Option Addr} {c : Nat} {xs : List (Svc × SvA)} {B : Nat} (h : WiAt w A c xs) (hb : Below B w w') (hB : w.heap.size ≤ B) : WiAt w' A c xs := ⟨h.row.on hb hB, fun x hx => (h.each x hx).on hb hB⟩
def svs (xs : List (Svc × SvA)) : List Svc := xs.map (·.1)
theorem svs_len (xs : List (Svc × SvA)) : (svs xs).length = xs.length := by simp [svs]
theorem svs_at {xs : List (Svc × SvA)} {i : Nat} {x : Svc × SvA} (h : xs[i]? = some x) : (svs xs)[i]? = some x.1 := by simp [svs, h]
/-- Where a world's lists lie. -/
structure WP where
  a1 : Option Addr
  c1 : Nat
  a2 : Option Addr
  c2 : Nat
def woA (p : WP) (d : WorldD) : Array Value := #[.slice p.a1 d.hosts.length p.c1, .slice p.a2 d.reps.length p.c2]
structure WoAt (w : World) (p : WP) (d : WorldD) : Prop where
  hosts : Rv 2 hstV w p.a1 p.c1 d.hosts
  reps : Rv 2 repV w p.a2 p.c2 d.reps
  phase : ∀ h ∈ d.hosts, h.phase < 256
theorem WoAt.on {w w' : World} {p : WP} {d : WorldD} {B : Nat} (h : WoAt w p d) (hb : Below B w w') (hB : w.heap.size ≤ B) : WoAt w' p d := ⟨h.hosts.on hb hB, h.reps.on hb hB, h.phase⟩
def WoBox (w : World) (b : Nat) (p : WP) (d : WorldD) : Prop := w.heap[b]? = some (.cells (woA p d) 36 (0, 0))
theorem WoBox.on {w w' : World} {b : Nat} {p : WP} {d : WorldD} {B : Nat} (h : WoBox w b p d) (hb : Below B w w') (hB : w.heap.size ≤ B) : WoBox w' b p d := (hb.block _ (Nat.lt_of_lt_of_le (at_lt h) hB)).trans h
theorem WoBox.c0 {w : World} {b : Nat} {p : WP} {d : WorldD} (h : WoBox w b p d) : w.cell? ⟨b, 0, none⟩ = some (.slice p.a1 d.hosts.length p.c1) := cell_of h rfl
theorem WoBox.c1 {w : World} {b : Nat} {p : WP} {d : WorldD} (h : WoBox w b p d) : w.cell? ⟨b, 1, none⟩ = some (.slice p.a2 d.reps.length p.c2) := cell_of h rfl
def WiBox (w : World) (b : Nat) (A : Option Addr) (n c : Nat) : Prop := w.heap[b]? = some (.cells #[.slice A n c] 32 (0, 0))
theorem WiBox.on {w w' : World} {b : Nat} {A : Option Addr} {n c B : Nat} (h : WiBox w b A n c) (hb : Below B w w') (hB : w.heap.size ≤ B) : WiBox w' b A n c := (hb.block _ (Nat.lt_of_lt_of_le (at_lt h) hB)).trans h
theorem WiBox.c0 {w : World} {b : Nat} {A : Option Addr} {n c : Nat} (h : WiBox w b A n c) : w.cell? ⟨b, 0, none⟩ = some (.slice A n c) := cell_of h rfl
theorem box_new (w : World) (cs : Array Value) (T : TypeId) : (w.alloc (.cells cs T)).heap[w.heap.size]? = some (.cells cs T (0, 0)) := heap_alloc_new _ _
theorem box_on {w w' : World} {b : Nat} {o : Obj} {B : Nat} (h : w.heap[b]? = some o) (hb : Below B w w') (hB : w.heap.size ≤ B) : w'.heap[b]? = some o := (hb.block _ (Nat.lt_of_lt_of_le (at_lt h) hB)).trans h
theorem rep_at {w : World} {b o c : Nat} {l : List Rep} (h : Rv 2 repV w (some ⟨b, o, none⟩) c l) {j : Nat} {x : Rep} (hj : l[j]? = some x) : w.cell? ⟨b, o + j * 2, none⟩ = some (.int .i64 x.svc) ∧ w.cell? ⟨b, o + j * 2 + 1, none⟩ = some (.int .i64 x.host) := by
  obtain ⟨b', o', e, -, h0⟩ := h.at_ hj
  injection e with e
  injection e with e1 e2
  subst e1 e2
  exact ⟨h0 0 (by omega), h0 1 (by omega)⟩
theorem hst_at {w : World} {b o c : Nat} {l : List Hst} (h : Rv 2 hstV w (some ⟨b, o, none⟩) c l) {j : Nat} {x : Hst} (hj : l[j]? = some x) : w.cell? ⟨b, o + j * 2, none⟩ = some (.int .u8 (x.phase : Int)) ∧ w.cell? ⟨b, o + j * 2 + 1, none⟩ = some (.int .i64 x.fw) := by
  obtain ⟨b', o', e, -, h0⟩ := h.at_ hj
  injection e with e
  injection e with e1 e2
  subst e1 e2
  exact ⟨h0 0 (by omega), h0 1 (by omega)⟩
theorem near_at {w : World} {b o c : Nat} {l : List Nr} (h : Rv 2 nrV w (some ⟨b, o, none⟩) c l) {j : Nat} {x : Nr} (hj : l[j]? = some x) : w.cell? ⟨b, o + j * 2, none⟩ = some (.int .i64 x.svc) ∧ w.cell? ⟨b, o + j * 2 + 1, none⟩ = some (.int .i64 x.lat) := by
  obtain ⟨b', o', e, -, h0⟩ := h.at_ hj
  injection e with e
  injection e with e1 e2
  subst e1 e2
  exact ⟨h0 0 (by omega), h0 1 (by omega)⟩
theorem int_at {w : World} {b o c : Nat} {l : List Int} (h : Rv 1 inV w (some ⟨b, o, none⟩) c l) {j : Nat} {x : Int} (hj : l[j]? = some x) : w.cell? ⟨b, o + j, none⟩ = some (.int .i64 x) := by
  obtain ⟨b', o', e, -, h0⟩ := h.at_ hj
  injection e with e
  injection e with e1 e2
  subst e1 e2
  have := h0 0 (by omega)
  rwa [Nat.mul_one, Nat.add_zero] at this
theorem sv_at {w : World} {b o c : Nat} {l : List (Svc × SvA)} (h : Rv 8 svV w (some ⟨b, o, none⟩) c l) {j : Nat} {x : Svc × SvA} (hj : l[j]? = some x) :
    w.cell? ⟨b, o + j * 8, none⟩ = some (.int .i64 x.1.cores) ∧ w.cell? ⟨b, o + j * 8 + 1, none⟩ = some (.int .i64 x.1.reps) ∧ w.cell? ⟨b, o + j * 8 + 2, none⟩ = some (.int .i64 x.1.least) ∧ w.cell? ⟨b, o + j * 8 + 3, none⟩ = some (.int .u8 (x.1.dom : Int)) ∧ w.cell? ⟨b, o + j * 8 + 4, none⟩ = some (.int .i64 x.1.spread) ∧ w.cell? ⟨b, o + j * 8 + 5, none⟩ = some (.slice x.2.a1 x.1.apart.length x.2.c1) ∧ w.cell? ⟨b, o + j * 8 + 6, none⟩ = some (.slice x.2.a2 x.1.near.length x.2.c2) ∧ w.cell? ⟨b, o + j * 8 + 7, none⟩ = some (.int .i64 x.1.fw) := by
  obtain ⟨b', o', e, -, h0⟩ := h.at_ hj
  injection e with e
  injection e with e1 e2
  subst e1 e2
  exact ⟨h0 0 (by omega), h0 1 (by omega), h0 2 (by omega), h0 3 (by omega), h0 4 (by omega), h0 5 (by omega), h0 6 (by omega), h0 7 (by omega)⟩
end Go.Proofs.YtpokpgnclohiiaaGreat

namespace Go.Proofs.YtpokpgnclohiiaaGreat
open Go.RowKit
set_option maxRecDepth 100000
set_option linter.unusedVariables false
set_option linter.unusedSimpArgs false

set_option maxHeartbeats 2000000 in
theorem c_woIsFrom (lo hi n : Int) (r : Bool) (hr : inB n lo hi = r) (w : World) : Calls Tryz.prog 72 #[.int .i64 lo, .int .i64 hi, .int .i64 n] w fun e w' => e = .returned (.bool r) ∧ w' = w := by
  unfold inB at hr
  rcases h1 : decide (lo ≤ n) with _ | _
  · rw [h1] at hr
    obtain rfl : false = r := hr
    go_enter Tryz.func72, Tryz.ntmps72
    go_wp2
    go_ret
    exact ⟨rfl, rfl⟩
  · rw [h1] at hr
    obtain rfl : decide (n ≤ hi) = r := hr
    go_enter Tryz.func72, Tryz.ntmps72
    go_wp2
    go_ret
    exact ⟨rfl, rfl⟩
set_option maxHeartbeats 2000000 in
theorem c_woIsIndex (x m : Int) (r : Bool) (hr : ixB x m = r) (w : World) : Calls Tryz.prog 74 #[.int .i64 x, .int .i64 m] w fun e w' => e = .returned (.bool r) ∧ w' = w := by
  unfold ixB at hr
  rcases h1 : decide (0 ≤ x) with _ | _
  · rw [h1] at hr
    obtain rfl : false = r := hr
    go_enter Tryz.func74, Tryz.ntmps74
    go_wp2
    go_ret
    exact ⟨rfl, rfl⟩
  · rw [h1] at hr
    obtain rfl : decide (x < m) = r := hr
    go_enter Tryz.func74, Tryz.ntmps74
    go_wp2
    go_ret
    exact ⟨rfl, rfl⟩
def cmpI (x y : Int) : Int := if x < y then -1 else if y < x then 1 else 0
theorem c_cmpInt (x y : Int) (w : World) : Calls Tryz.prog 115 #[.int .i64 x, .int .i64 y] w fun e w' => e = .returned (.int .i64 (cmpI x y)) ∧ w' = w := by
  unfold cmpI
  have hn : ∀ (z : Int) (w : World), Calls Tryz.prog 123 #[.int .i64 z] w fun e w' => e = .returned (.bool false) ∧ w' = w := by
    intro z w
    go_enter Tryz.func123, Tryz.ntmps123
    go_wp2
    go_ret
    exact ⟨by simp, rfl⟩
  have HN := Lib.hid hn
  clear hn
  by_cases h1 : x < y
  · rw [if_pos h1]
    go_enter Tryz.func115, Tryz.ntmps115
    go_wp2_with (go_at_call 123; refine (HN.out _ _).mono ?_; rintro e w' ⟨rfl, rfl⟩)
    go_ret
    exact ⟨rfl, rfl⟩
  · rw [if_neg h1]
    by_cases h2 : y < x
    · rw [if_pos h2]
      go_enter Tryz.func115, Tryz.ntmps115
      go_wp2_with (go_at_call 123; refine (HN.out _ _).mono ?_; rintro e w' ⟨rfl, rfl⟩)
      go_ret
      exact ⟨rfl, rfl⟩
    · rw [if_neg h2]
      go_enter Tryz.func115, Tryz.ntmps115
      go_wp2_with (go_at_call 123; refine (HN.out _ _).mono ?_; rintro e w' ⟨rfl, rfl⟩)
      go_ret
      exact ⟨rfl, rfl⟩
set_option maxHeartbeats 2000000 in
theorem c_orInt (b : Nat) (x y : Int) (r : Int) (hr : (if x = 0 then y else x) = r) (w : World) (hb : w.heap[b]? = some (.cells #[.int .i64 x, .int .i64 y] 3 (0, 0))) :
    Calls Tryz.prog 114 #[.slice (some ⟨b, 0, none⟩) 2 2] w fun e w' => e = .returned (.int .i64 r) ∧ w' = w := by
  have x0 : w.cell? ⟨b, 0, none⟩ = some (.int .i64 x) := cell_of hb rfl
  have x1 : w.cell? ⟨b, 1, none⟩ = some (.int .i64 y) := cell_of hb rfl
  clear hb
  have HR := Lib.hid hr
  clear hr
  go_enter Tryz.func114, Tryz.ntmps114
  go_wp2_with (fail)
  go_loopw [8] (fun i wr => ∃ k : Nat, k ≤ 2 ∧ i = .int .i64 (k : Int) ∧ wr = w ∧ Hid ((1 ≤ k → x = 0) ∧ (2 ≤ k → y = 0))) (fun i _ => 2 - (intOf i).toNat)
  case atStart => exact ⟨0, by omega, rfl, rfl, Lib.hid ⟨by omega, by omega⟩⟩
  case round =>
    obtain ⟨k, hk, rfl, rfl, hz⟩ := hrel
    match k, hk with
    | 0, _ =>
      rcases hx : (x != 0) with _ | _
      · have HX := Lib.hid (show x = 0 by simpa using hx)
        go_wp2_with (fail)
        go_roundw
        case rel => exact ⟨1, by omega, rfl, trivial, Lib.hid ⟨fun _ => HX.out, by omega⟩⟩
        case measure => simp [intOf]
      · have HX := Lib.hid (show x = r by rw [← HR.out, if_neg (by simpa using hx)])
        go_wp2_with (fail)
        go_ret
        exact ⟨(show Ending.returned (.int .i64 x) = .returned (.int .i64 r) by rw [HX.out]), rfl⟩
    | 1, _ =>
      have HY := Lib.hid (show y = r by rw [← HR.out, if_pos (hz.out.1 (by omega))])
      rcases hy : (y != 0) with _ | _
      · have HX := Lib.hid (show y = 0 by simpa using hy)
        go_wp2_with (fail)
        go_roundw
        case rel => exact ⟨2, by omega, rfl, trivial, Lib.hid ⟨fun _ => hz.out.1 (by omega), fun _ => HX.out⟩⟩
        case measure => simp [intOf]
      · go_wp2_with (fail)
        go_ret
        exact ⟨(show Ending.returned (.int .i64 y) = .returned (.int .i64 r) by rw [HY.out]), rfl⟩
    | 2, _ =>
      have HY := Lib.hid (show 0 = r by rw [← HR.out, if_pos (hz.out.1 (by omega)), hz.out.2 (by omega)])
      go_wp2_with (fail)
      go_ret
      exact ⟨(show Ending.returned (.int .i64 0) = .returned (.int .i64 r) by rw [HY.out]), rfl⟩
def cmpR (a b : Rep) : Int := if cmpI a.svc b.svc = 0 then cmpI a.host b.host else cmpI a.svc b.svc
theorem cmpR_less (a b : Rep) : decide (0 ≤ cmpR a b) = !lessR a b := by
  have h : 0 ≤ cmpR a b ↔ ¬ lessR a b = true := by
    rw [lessR_iff]
    unfold cmpR cmpI
    repeat' split
    all_goals omega
  cases h2 : lessR a b
  · simp [h, h2]
  · simp [h, h2]
set_option maxHeartbeats 4000000 in
theorem c_compare (p q : Rep) (r : Int) (hr : cmpR p q = r) (w : World) : Calls Tryz.prog 99 #[.agg #[.int .i64 p.svc, .int .i64 p.host], .agg #[.int .i64 q.svc, .int .i64 q.host]] w fun e w' => e = .returned (.int .i64 r) ∧ Below w.heap.size w w' := by
  obtain ⟨W1, hW1⟩ : ∃ W, W = w.alloc (.cells #[.int .i64 p.svc, .int .i64 p.host] 85) := ⟨_, rfl⟩
  obtain ⟨W2, hW2⟩ : ∃ W, W = W1.alloc (.cells #[.int .i64 q.svc, .int .i64 q.host] 85) := ⟨_, rfl⟩
  have hs1 : W1.heap.size = w.heap.size + 1 := by rw [hW1, World.size_alloc]
  have hs2 : W2.heap.size = w.heap.size + 2 := by rw [hW2, World.size_alloc]; omega
  have b1 : W1.heap[w.heap.size]? = some (.cells #[.int .i64 p.svc, .int .i64 p.host] 85 (0, 0)) := by rw [hW1]; exact box_new _ _ _
  have b2 : W2.heap[w.heap.size]? = some (.cells #[.int .i64 p.svc, .int .i64 p.host] 85 (0, 0)) := by rw [hW2]; exact old_heap _ b1
  have b3 : W2.heap[w.heap.size + 1]? = some (.cells #[.int .i64 q.svc, .int .i64 q.host] 85 (0, 0)) := by rw [← hs1, hW2]; exact box_new _ _ _
  have HB := Lib.hid (show Below w.heap.size w W2 by rw [hW2]; exact ((hW1 ▸ (Below.refl _ _).alloc (Nat.le_refl _) _ : Below w.heap.size w W1)).alloc (by omega) _)
  have HF := Lib.hid (fun (X : World) (hX : Below W2.heap.size W2 X) => (⟨cell_of (box_on b2 hX (Nat.le_refl _)) rfl, cell_of (box_on b2 hX (Nat.le_refl _)) rfl, cell_of (box_on b3 hX (Nat.le_refl _)) rfl, cell_of (box_on b3 hX (Nat.le_refl _)) rfl⟩ : X.cell? ⟨w.heap.size, 0, none⟩ = some (.int .i64 p.svc) ∧ X.cell? ⟨w.heap.size, 1, none⟩ = some (.int .i64 p.host) ∧ X.cell? ⟨w.heap.size + 1, 0, none⟩ = some (.int .i64 q.svc) ∧ X.cell? ⟨w.heap.size + 1, 1, none⟩ = some (.int .i64 q.host)))
  have HR := Lib.hid (show (if cmpI p.svc q.svc = 0 then cmpI p.host q.host else cmpI p.svc q.svc) = r from hr)
  clear hr b1 b2 b3 hs1 hs2
  obtain ⟨x0, x1, x2, x3⟩ := HF.out W2 (Below.refl _ _)
  generalize hA : w.heap.size = A at *
  go_enter Tryz.func99, Tryz.ntmps99
  go_wp2_with (fail)
  rw [← hW1, ← hW2]
  clear hW1 hW2
  have HO := Lib.hid (c_orInt W2.heap.size (cmpI p.svc q.svc) (cmpI p.host q.host) r HR.out (W2.alloc (.cells #[.int .i64 (cmpI p.svc q.svc), .int .i64 (cmpI p.host q.host)] 3)).drew (box_new W2 _ _))
  have HK := Lib.hid (HF.out (W2.alloc (.cells #[.int .i64 (cmpI p.svc q.svc), .int .i64 (cmpI p.host q.host)] 3)).drew ((Below.refl _ _).alloc (Nat.le_refl _) _).drew)
  go_region_held3 (fun X => X.cell? ⟨A, 0, none⟩ = some (.int .i64 p.svc) ∧ X.cell? ⟨A, 1, none⟩ = some (.int .i64 p.host) ∧ X.cell? ⟨A + 1, 0, none⟩ = some (.int .i64 q.svc) ∧ X.cell? ⟨A + 1, 1, none⟩ = some (.int .i64 q.host))
    (first | exact HF.out W2 (Below.refl _ _) | exact HF.out W2.drew (Below.refl _ _).drew | exact HK.out | fail)
    (first
      | (go_at_call 115; (with_reducible refine (c_cmpInt _ _ _).mono ?_); rintro e w1 ⟨rfl, rfl⟩)
      | (go_at_call 114; refine HO.out.mono ?_; rintro e w1 ⟨rfl, rfl⟩)
      | fail)
  go_wp2_with (fail)
  go_ret
  exact ⟨rfl, below_join HB.out (((Below.refl W2.heap.size W2).alloc (Nat.le_refl _) _).drew) (by have := HB.out.size; omega)⟩
set_option maxHeartbeats 8000000 in
theorem c_ascend (A : Option Addr) (c : Nat) (l : List Rep) (r : Bool) (hr : ascB l = r) (w : World) (h : Rv 2 repV w A c l) :
    Calls Tryz.prog 78 #[.slice A l.length c] w fun e w' => e = .returned (.bool r) ∧ Below w.heap.size w w' := by
  have H := Lib.hid h
  have HR := Lib.hid hr
  have k1 := h.1; have k2 := h.2.1
  unfold maxLen at k2
  clear h hr
  go_enter Tryz.func78, Tryz.ntmps78
  go_wp2_with (fail)
  go_loopw [3] (fun i wr => ∃ k : Nat, (k ≤ l.length ∨ k = 1) ∧ 1 ≤ k ∧ i = .int .i64 (k : Int) ∧ Hid (Below w.heap.size w wr) ∧ Hid (∀ j a b, j + 1 < k → l[j]? = some a → l[j + 1]? = some b → lessR a b = true)) (fun i _ => l.length - (intOf i).toNat)
  case atStart => exact ⟨1, .inr rfl, by omega, rfl, Lib.hid (Below.refl _ _), Lib.hid (fun j a b hj => absurd hj (by omega))⟩
  case round =>
    obtain ⟨k, hk, hk1, rfl, hB, hasc⟩ := hrel
    by_cases hlt : k < l.length
    · obtain ⟨m, hm⟩ : ∃ m, k = m + 1 := ⟨k - 1, by omega⟩
      obtain ⟨x, hx⟩ : ∃ x, l[m]? = some x := ⟨_, List.getElem?_eq_getElem (by omega)⟩
      obtain ⟨y, hy⟩ : ∃ y, l[k]? = some y := ⟨_, List.getElem?_eq_getElem hlt⟩
      obtain ⟨b, o, rfl, -, -⟩ := H.out.at_ hx
      have HF := Lib.hid (fun (X : World) (hX : Below w.heap.size w X) => (let z := rep_at (H.out.on hX (Nat.le_refl _)) hx; let u := rep_at (H.out.on hX (Nat.le_refl _)) hy; (⟨z.1, z.2, u.1, u.2⟩ : X.cell? ⟨b, o + m * 2, none⟩ = some (.int .i64 x.svc) ∧ X.cell? ⟨b, o + m * 2 + 1, none⟩ = some (.int .i64 x.host) ∧ X.cell? ⟨b, o + k * 2, none⟩ = some (.int .i64 y.svc) ∧ X.cell? ⟨b, o + k * 2 + 1, none⟩ = some (.int .i64 y.host))))
      obtain ⟨f0, f1, f2, f3⟩ := HF.out wr hB.out
      have hk2 : ((k : Nat) : Int) < (l.length : Int) := by omega
      have hk3 : IntKind.i64.wrap (((k : Nat) : Int) - 1) = (m : Int) := by rw [show ((k : Nat) : Int) - 1 = (m : Int) by omega]; exact wrap_in (by omega) (by omega)
      have hk0 : (0 : Int) ≤ (m : Int) := by omega
      have hk4 : ((m : Nat) : Int) < (l.length : Int) := by omega
      have hi1 : ((m : Nat) : Int).toNat = m := by omega
      have hi2 : ((k : Nat) : Int).toNat = k := by omega
      have HM := Lib.hid hm
      clear hm
      have HXX := Lib.hid hx
      have HYY := Lib.hid hy
      obtain ⟨z, hz⟩ : ∃ z, cmpR x y = z := ⟨_, rfl⟩
      have HZ := Lib.hid hz
      have HC := Lib.hid (c_compare x y z hz wr.drew)
      clear hx hy hz
      go_wp2_with (fail)
      go_region_held3 (fun X => X.cell? ⟨b, o + m * 2, none⟩ = some (.int .i64 x.svc) ∧ X.cell? ⟨b, o + m * 2 + 1, none⟩ = some (.int .i64 x.host) ∧ X.cell? ⟨b, o + k * 2, none⟩ = some (.int .i64 y.svc) ∧ X.cell? ⟨b, o + k * 2 + 1, none⟩ = some (.int .i64 y.host))
        (first | exact HF.out wr hB.out | exact HF.out w1 HB1.out | fail)
        (first
          | (go_at_call 99; refine HC.out.mono ?_; rintro e w1 ⟨rfl, bb1⟩; have HB1 := Lib.hid (below_join hB.out.drew bb1 hB.out.size); clear bb1)
          | fail)
      rcases hL : lessR x y with _ | _
      · obtain rfl : false = r := by
          rw [← HR.out]
          refine ((Bool.eq_false_iff).2 fun h => ?_).symm
          have := ascB_iff.1 h m x y HXX.out (by rw [← HM.out]; exact HYY.out)
          rw [hL] at this; cases this
        have hd : decide (0 ≤ z) = true := by rw [← HZ.out, cmpR_less, hL]; rfl
        rw [hd]
        go_wp2_with (fail)
        go_ret
        exact ⟨rfl, HB1.out⟩
      · have hd : decide (0 ≤ z) = false := by rw [← HZ.out, cmpR_less, hL]; rfl
        have HN := Lib.hid (show ∀ j a b, j + 1 < k + 1 → l[j]? = some a → l[j + 1]? = some b → lessR a b = true from fun j a b hj ha hb => by
          have hM := HM.out
          by_cases e : j + 1 < k
          · exact hasc.out j a b e ha hb
          · obtain rfl : j = m := by omega
            rw [HXX.out] at ha
            rw [← hM, HYY.out] at hb
            injection ha with ha
            injection hb with hb
            subst ha hb
            exact hL)
        rw [hd]
        go_wp2_with (fail)
        go_roundw
        case rel => exact ⟨k + 1, .inl (by omega), by omega, by go_num, HB1, HN⟩
        case measure => simp only [intOf]; omega
    · obtain rfl : true = r := by
        rw [← HR.out]
        refine (ascB_iff.2 fun i a b ha hb => hasc.out i a b ?_ ha hb).symm
        have := (List.getElem?_eq_some_iff.1 hb).1
        omega
      go_wp2_with (fail)
      go_ret
      exact ⟨rfl, hB.out⟩
set_option maxHeartbeats 4000000 in
theorem c_Less (p q : Rep) (r : Bool) (hr : lessR p q = r) (w : World) : Calls Tryz.prog 54 #[.agg #[.int .i64 p.svc, .int .i64 p.host], .agg #[.int .i64 q.svc, .int .i64 q.host]] w fun e w' => e = .returned (.bool r) ∧ Below w.heap.size w w' := by
  obtain ⟨W1, hW1⟩ : ∃ W, W = w.alloc (.cells #[.int .i64 p.svc, .int .i64 p.host] 85) := ⟨_, rfl⟩
  obtain ⟨W2, hW2⟩ : ∃ W, W = W1.alloc (.cells #[.int .i64 q.svc, .int .i64 q.host] 85) := ⟨_, rfl⟩
  have hs1 : W1.heap.size = w.heap.size + 1 := by rw [hW1, World.size_alloc]
  have b1 : W1.heap[w.heap.size]? = some (.cells #[.int .i64 p.svc, .int .i64 p.host] 85 (0, 0)) := by rw [hW1]; exact box_new _ _ _
  have b2 : W2.heap[w.heap.size]? = some (.cells #[.int .i64 p.svc, .int .i64 p.host] 85 (0, 0)) := by rw [hW2]; exact old_heap _ b1
  have b3 : W2.heap[w.heap.size + 1]? = some (.cells #[.int .i64 q.svc, .int .i64 q.host] 85 (0, 0)) := by rw [← hs1, hW2]; exact box_new _ _ _
  have HB := Lib.hid (show Below w.heap.size w W2 by rw [hW2]; exact ((hW1 ▸ (Below.refl _ _).alloc (Nat.le_refl _) _ : Below w.heap.size w W1)).alloc (by omega) _)
  have x0 : W2.cell? ⟨w.heap.size, 0, none⟩ = some (.int .i64 p.svc) := cell_of b2 rfl
  have x1 : W2.cell? ⟨w.heap.size, 1, none⟩ = some (.int .i64 p.host) := cell_of b2 rfl
  have x2 : W2.cell? ⟨w.heap.size + 1, 0, none⟩ = some (.int .i64 q.svc) := cell_of b3 rfl
  have x3 : W2.cell? ⟨w.heap.size + 1, 1, none⟩ = some (.int .i64 q.host) := cell_of b3 rfl
  have HR := Lib.hid (show (decide (p.svc < q.svc) || (p.svc == q.svc && decide (p.host < q.host))) = r from hr)
  clear hr b1 b2 b3 hs1
  generalize hA : w.heap.size = A at *
  go_enter Tryz.func54, Tryz.ntmps54
  rcases h1 : decide (p.svc < q.svc) with _ | _
  · rcases h2 : (p.svc == q.svc) with _ | _
    · obtain rfl : false = r := by have h := HR.out; rw [h1, h2] at h; exact h
      go_wp2_with (fail)
      rw [← hW1, ← hW2]
      clear hW1 hW2
      go_wp2_with (fail)
      go_ret
      exact ⟨rfl, HB.out⟩
    · obtain rfl : decide (p.host < q.host) = r := by have h := HR.out; rw [h1, h2] at h; exact h
      go_wp2_with (fail)
      rw [← hW1, ← hW2]
      clear hW1 hW2
      go_wp2_with (fail)
      go_ret
      exact ⟨rfl, HB.out⟩
  · obtain rfl : true = r := by have h := HR.out; rw [h1] at h; exact h
    go_wp2_with (fail)
    rw [← hW1, ← hW2]
    clear hW1 hW2
    go_wp2_with (fail)
    go_ret
    exact ⟨rfl, HB.out⟩
set_option maxHeartbeats 8000000 in
theorem c_Ascending (A : Option Addr) (c : Nat) (l : List Rep) (r : Bool) (hr : ascB l = r) (w : World) (h : Rv 2 repV w A c l) :
    Calls Tryz.prog 38 #[.slice A l.length c] w fun e w' => e = .returned (.bool r) ∧ Below w.heap.size w w' := by
  have H := Lib.hid h
  have HR := Lib.hid hr
  have k1 := h.1; have k2 := h.2.1
  unfold maxLen at k2
  clear h hr
  go_enter Tryz.func38, Tryz.ntmps38
  go_wp2_with (fail)
  go_loopw [3] (fun i wr => ∃ k : Nat, (k ≤ l.length ∨ k = 1) ∧ 1 ≤ k ∧ i = .int .i64 (k : Int) ∧ Hid (Below w.heap.size w wr) ∧ Hid (∀ j a b, j + 1 < k → l[j]? = some a → l[j + 1]? = some b → lessR a b = true)) (fun i _ => l.length - (intOf i).toNat)
  case atStart => exact ⟨1, .inr rfl, by omega, rfl, Lib.hid (Below.refl _ _), Lib.hid (fun j a b hj => absurd hj (by omega))⟩
  case round =>
    obtain ⟨k, hk, hk1, rfl, hB, hasc⟩ := hrel
    by_cases hlt : k < l.length
    · obtain ⟨m, hm⟩ : ∃ m, k = m + 1 := ⟨k - 1, by omega⟩
      obtain ⟨x, hx⟩ : ∃ x, l[m]? = some x := ⟨_, List.getElem?_eq_getElem (by omega)⟩
      obtain ⟨y, hy⟩ : ∃ y, l[k]? = some y := ⟨_, List.getElem?_eq_getElem hlt⟩
      obtain ⟨b, o, rfl, -, -⟩ := H.out.at_ hx
      have HF := Lib.hid (fun (X : World) (hX : Below w.heap.size w X) => (let z := rep_at (H.out.on hX (Nat.le_refl _)) hx; let u := rep_at (H.out.on hX (Nat.le_refl _)) hy; (⟨z.1, z.2, u.1, u.2⟩ : X.cell? ⟨b, o + m * 2, none⟩ = some (.int .i64 x.svc) ∧ X.cell? ⟨b, o + m * 2 + 1, none⟩ = some (.int .i64 x.host) ∧ X.cell? ⟨b, o + k * 2, none⟩ = some (.int .i64 y.svc) ∧ X.cell? ⟨b, o + k * 2 + 1, none⟩ = some (.int .i64 y.host))))
      obtain ⟨f0, f1, f2, f3⟩ := HF.out wr hB.out
      have hk2 : ((k : Nat) : Int) < (l.length : Int) := by omega
      have hk3 : IntKind.i64.wrap (((k : Nat) : Int) - 1) = (m : Int) := by rw [show ((k : Nat) : Int) - 1 = (m : Int) by omega]; exact wrap_in (by omega) (by omega)
      have hk0 : (0 : Int) ≤ (m : Int) := by omega
      have hk4 : ((m : Nat) : Int) < (l.length : Int) := by omega
      have hi1 : ((m : Nat) : Int).toNat = m := by omega
      have hi2 : ((k : Nat) : Int).toNat = k := by omega
      have HM := Lib.hid hm
      clear hm
      have HXX := Lib.hid hx
      have HYY := Lib.hid hy
      obtain ⟨z, hz⟩ : ∃ z, lessR x y = z := ⟨_, rfl⟩
      have HZ := Lib.hid hz
      have HC := Lib.hid (c_Less x y z hz wr.drew)
      clear hx hy hz
      go_wp2_with (fail)
      go_region_held3 (fun X => X.cell? ⟨b, o + m * 2, none⟩ = some (.int .i64 x.svc) ∧ X.cell? ⟨b, o + m * 2 + 1, none⟩ = some (.int .i64 x.host) ∧ X.cell? ⟨b, o + k * 2, none⟩ = some (.int .i64 y.svc) ∧ X.cell? ⟨b, o + k * 2 + 1, none⟩ = some (.int .i64 y.host))
        (first | exact HF.out wr hB.out | exact HF.out w1 HB1.out | fail)
        (first
          | (go_at_call 54; refine HC.out.mono ?_; rintro e w1 ⟨rfl, bb1⟩; have HB1 := Lib.hid (below_join hB.out.drew bb1 hB.out.size); clear bb1)
          | fail)
      rcases hL : lessR x y with _ | _
      · obtain rfl : false = r := by
          rw [← HR.out]
          refine ((Bool.eq_false_iff).2 fun h => ?_).symm
          have := ascB_iff.1 h m x y HXX.out (by rw [← HM.out]; exact HYY.out)
          rw [hL] at this; cases this
        obtain rfl : false = z := by rw [← HZ.out, hL]
        go_wp2_with (fail)
        go_ret
        exact ⟨rfl, HB1.out⟩
      · obtain rfl : true = z := by rw [← HZ.out, hL]
        have HN := Lib.hid (show ∀ j a b, j + 1 < k + 1 → l[j]? = some a → l[j + 1]? = some b → lessR a b = true from fun j a b hj ha hb => by
          have hM := HM.out
          by_cases e : j + 1 < k
          · exact hasc.out j a b e ha hb
          · obtain rfl : j = m := by omega
            rw [HXX.out] at ha
            rw [← hM, HYY.out] at hb
            injection ha with ha
            injection hb with hb
            subst ha hb
            exact hL)
        go_wp2_with (fail)
        go_roundw
        case rel => exact ⟨k + 1, .inl (by omega), by omega, by go_num, HB1, HN⟩
        case measure => simp only [intOf]; omega
    · obtain rfl : true = r := by
        rw [← HR.out]
        refine (ascB_iff.2 fun i a b ha hb => hasc.out i a b ?_ ha hb).symm
        have := (List.getElem?_eq_some_iff.1 hb).1
        omega
      go_wp2_with (fail)
      go_ret
      exact ⟨rfl, hB.out⟩
end Go.Proofs.YtpokpgnclohiiaaGreat

namespace Go.Proofs.YtpokpgnclohiiaaGreat
open Go.RowKit
set_option maxRecDepth 100000
set_option linter.unusedVariables false
set_option linter.unusedSimpArgs false

set_option maxHeartbeats 4000000 in
theorem c_badNear (x : Nr) (r : Bool) (hr : nearBad x = r) (w : World) : Calls Tryz.prog 108 #[.agg #[.int .i64 x.svc, .int .i64 x.lat]] w fun e w' => e = .returned (.bool r) ∧ Below w.heap.size w w' := by
  obtain ⟨W, hW⟩ : ∃ W, W = w.alloc (.cells #[.int .i64 x.svc, .int .i64 x.lat] 120) := ⟨_, rfl⟩
  have HB := Lib.hid (show Below w.heap.size w W by subst hW; exact (Below.refl _ _).alloc (Nat.le_refl _) _)
  have x1 : W.cell? ⟨w.heap.size, 1, none⟩ = some (.int .i64 x.lat) := by subst hW; exact cell_of (box_new _ _ _) rfl
  obtain ⟨q, hq⟩ : ∃ q, inB x.lat 0 1000000 = q := ⟨_, rfl⟩
  have HQ := Lib.hid hq
  have HR := Lib.hid (show (!q) = r by rw [← hq]; exact hr)
  clear hr hq
  generalize hA : w.heap.size = A at *
  go_enter Tryz.func108, Tryz.ntmps108
  go_wp2_with (fail)
  rw [← hW]
  clear hW
  go_wp2_with (go_at_call 72; refine (c_woIsFrom _ _ _ q HQ.out _).mono ?_; rintro e w1 ⟨rfl, rfl⟩)
  go_ret
  exact ⟨(show Ending.returned (.bool (!q)) = .returned (.bool r) by rw [HR.out]), HB.out⟩
set_option maxHeartbeats 4000000 in
theorem c_badHst (x : Hst) (r : Bool) (hr : (!hstOk x) = r) (w : World) : Calls Tryz.prog 71 #[.agg #[.int .u8 (x.phase : Int), .int .i64 x.fw]] w fun e w' => e = .returned (.bool r) ∧ Below w.heap.size w w' := by
  obtain ⟨W, hW⟩ : ∃ W, W = w.alloc (.cells #[.int .u8 (x.phase : Int), .int .i64 x.fw] 83) := ⟨_, rfl⟩
  have HB := Lib.hid (show Below w.heap.size w W by subst hW; exact (Below.refl _ _).alloc (Nat.le_refl _) _)
  have x0 : W.cell? ⟨w.heap.size, 0, none⟩ = some (.int .u8 (x.phase : Int)) := by subst hW; exact cell_of (box_new _ _ _) rfl
  have x1 : W.cell? ⟨w.heap.size, 1, none⟩ = some (.int .i64 x.fw) := by subst hW; exact cell_of (box_new _ _ _) rfl
  obtain ⟨q, hq⟩ : ∃ q, inB x.fw 0 1000000 = q := ⟨_, rfl⟩
  have HQ := Lib.hid hq
  have HR := Lib.hid (show (!(decide (x.phase ≤ 4) && q)) = r by rw [← hq]; exact hr)
  clear hr hq
  generalize hA : w.heap.size = A at *
  by_cases hp : x.phase ≤ 4
  · have hd : decide ((4 : Int) < (x.phase : Int)) = false := decide_eq_false (by omega)
    have HE := Lib.hid (show (!q) = r by have h := HR.out; rw [decide_eq_true hp] at h; exact h)
    clear hp
    go_enter Tryz.func71, Tryz.ntmps71
    go_wp2_with (fail)
    rw [← hW]
    clear hW
    go_wp2_with (go_at_call 72; refine (c_woIsFrom _ _ _ q HQ.out _).mono ?_; rintro e w1 ⟨rfl, rfl⟩)
    go_ret
    exact ⟨(show Ending.returned (.bool (!q)) = .returned (.bool r) by rw [HE.out]), HB.out⟩
  · have hd : decide ((4 : Int) < (x.phase : Int)) = true := decide_eq_true (by omega)
    obtain rfl : true = r := by have h := HR.out; rw [decide_eq_false hp] at h; exact h
    clear hp
    go_enter Tryz.func71, Tryz.ntmps71
    go_wp2_with (fail)
    rw [← hW]
    clear hW
    go_wp2_with (fail)
    go_ret
    exact ⟨rfl, HB.out⟩
set_option maxHeartbeats 4000000 in
theorem c_badRep (wb sb : Nat) (p : SP) (s : SiteD) (WA : Option Addr) (n wc : Nat) (x : Rep) (r : Bool) (hr : (!repOk n s.hosts.length x) = r) (w : World) (hw : WiBox w wb WA n wc) (hs : SiBox w sb p s) :
    Calls Tryz.prog 73 #[.agg #[.int .i64 x.svc, .int .i64 x.host], .pointer (some ⟨wb, 0, none⟩), .pointer (some ⟨sb, 0, none⟩)] w fun e w' => e = .returned (.bool r) ∧ Below w.heap.size w w' := by
  obtain ⟨W, hW⟩ : ∃ W, W = w.alloc (.cells #[.int .i64 x.svc, .int .i64 x.host] 85) := ⟨_, rfl⟩
  have B0 : Below w.heap.size w W := by subst hW; exact (Below.refl _ _).alloc (Nat.le_refl _) _
  have HB := Lib.hid B0
  have x0 : W.cell? ⟨w.heap.size, 0, none⟩ = some (.int .i64 x.svc) := by subst hW; exact cell_of (box_new _ _ _) rfl
  have x1 : W.cell? ⟨w.heap.size, 1, none⟩ = some (.int .i64 x.host) := by subst hW; exact cell_of (box_new _ _ _) rfl
  have y0 := (hw.on B0 (Nat.le_refl _)).c0
  have y1 := (hs.on B0 (Nat.le_refl _)).c6
  obtain ⟨q1, hq1⟩ : ∃ q, ixB x.svc (n : Int) = q := ⟨_, rfl⟩
  obtain ⟨q2, hq2⟩ : ∃ q, ixB x.host (s.hosts.length : Int) = q := ⟨_, rfl⟩
  have HQ1 := Lib.hid hq1
  have HQ2 := Lib.hid hq2
  have HR := Lib.hid (show (!(q1 && q2)) = r by rw [← hq1, ← hq2]; exact hr)
  clear hr hq1 hq2 hw hs B0
  generalize hA : w.heap.size = A at *
  cases q1
  · obtain rfl : true = r := by have h := HR.out; exact h
    rw [hW] at x0 x1 y0 y1
    go_enter Tryz.func73, Tryz.ntmps73
    go_wp2_with (fail)
    rw [← hW] at x0 x1 y0 y1 ⊢
    clear hW
    go_at_call 74
    refine (c_woIsIndex _ _ false HQ1.out _).mono ?_
    rintro e w1 ⟨rfl, rfl⟩
    go_wp2_with (fail)
    go_ret
    exact ⟨rfl, HB.out⟩
  · have HE := Lib.hid (show (!q2) = r by have h := HR.out; exact h)
    rw [hW] at x0 x1 y0 y1
    go_enter Tryz.func73, Tryz.ntmps73
    go_wp2_with (fail)
    rw [← hW] at x0 x1 y0 y1 ⊢
    clear hW
    go_at_call 74
    refine (c_woIsIndex _ _ true HQ1.out _).mono ?_
    rintro e w1 ⟨rfl, rfl⟩
    go_wp2_with (fail)
    go_at_call 74
    refine (c_woIsIndex _ _ q2 HQ2.out _).mono ?_
    rintro e w1 ⟨rfl, rfl⟩
    go_wp2_with (fail)
    go_ret
    exact ⟨(show Ending.returned (.bool (!q2)) = .returned (.bool r) by rw [HE.out]), HB.out⟩
set_option maxHeartbeats 4000000 in
theorem c_IF_Near (A : Option Addr) (c : Nat) (l : List Nr) (w : World) (h : Rv 2 nrV w A c l) (y : Int) (hy : fidx nearBad l = y) :
    Calls Tryz.prog 122 #[.slice A l.length c, .func (.func 108) #[] #[]] w fun e w' => e = .returned (.int .i64 y) ∧ Below w.heap.size w w' := by
  have H := Lib.hid h
  have HY := Lib.hid hy
  have hc1 := h.1
  have hc2 := h.2.1
  unfold maxLen at hc2
  clear h hy
  go_enter Tryz.func122, Tryz.ntmps122
  go_wp2_with (fail)
  go_loopw [8] (fun i wr => ∃ k : Nat, k ≤ l.length ∧ i = .int .i64 (k : Int) ∧ Hid (∀ i y, i < k → l[i]? = some y → nearBad y = false) ∧ Hid (Below w.heap.size w wr)) (fun i _ => l.length - (intOf i).toNat)
  case atStart => exact ⟨0, Nat.zero_le _, rfl, Lib.hid (fun i y hi => absurd hi (by omega)), Lib.hid (Below.refl _ _)⟩
  case round =>
    obtain ⟨k, hk, rfl, hun, hB⟩ := hrel
    by_cases hlt : k < l.length
    · obtain ⟨⟨z0, z1⟩, hx⟩ : ∃ x, l[k]? = some x := ⟨_, List.getElem?_eq_getElem hlt⟩
      have HK := H.out
      obtain ⟨pb, o, rfl, -, -⟩ := HK.at_ hx
      obtain ⟨y0, y1⟩ := near_at (HK.on hB.out (Nat.le_refl _)) hx
      have HXX := Lib.hid hx
      have hki : ((k : Nat) : Int).toNat = k := by omega
      have hlt' : (k : Int) < ((l.length : Nat) : Int) := by omega
      have HC := Lib.hid (fun (r : Bool) (hr : nearBad ⟨z0, z1⟩ = r) => c_badNear ⟨z0, z1⟩ r hr wr)
      clear hx HK
      rcases hp : nearBad ⟨z0, z1⟩ with _ | _
      · have HP := Lib.hid hp
        clear hp
        go_wp2_with (go_at_call 108; refine (HC.out _ HP.out).mono ?_; rintro e w1 ⟨rfl, b1⟩; have HB1 := Lib.hid (below_join hB.out b1 hB.out.size); clear b1 y0 y1)
        go_roundw
        case rel => exact ⟨k + 1, by omega, by go_num, Lib.hid (fun i y hi hy => by
          rcases Nat.lt_or_ge i k with h | h
          · exact hun.out i y h hy
          · obtain rfl : i = k := by omega
            have := HXX.out
            rw [hy] at this
            injection this with this
            subst this
            exact HP.out), HB1⟩
        case measure => simp only [intOf]; omega
      · have HKY := Lib.hid (show (k : Int) = y by rw [← HY.out]; exact (fidx_at _ l k _ hun.out HXX.out hp).symm)
        have HP := Lib.hid hp
        clear hp
        go_wp2_with (go_at_call 108; refine (HC.out _ HP.out).mono ?_; rintro e w1 ⟨rfl, b1⟩; have HB1 := Lib.hid (below_join hB.out b1 hB.out.size); clear b1 y0 y1)
        go_ret
        exact ⟨(show Ending.returned (.int .i64 (k : Int)) = .returned (.int .i64 y) by rw [HKY.out]), HB1.out⟩
    · obtain rfl : k = l.length := by omega
      have HKY := Lib.hid (show (-1 : Int) = y by rw [← HY.out, fidx_none _ l (fun i y hy => hun.out i y (List.getElem?_eq_some_iff.1 hy).1 hy)])
      go_wp2_with (fail)
      go_ret
      exact ⟨(show Ending.returned (.int .i64 (-1)) = .returned (.int .i64 y) by rw [HKY.out]), hB.out⟩
set_option maxHeartbeats 4000000 in
theorem c_CF_Near (A : Option Addr) (c : Nat) (l : List Nr) (w : World) (h : Rv 2 nrV w A c l) (r : Bool) (hr : l.any nearBad = r) :
    Calls Tryz.prog 109 #[.slice A l.length c, .func (.func 108) #[] #[]] w fun e w' => e = .returned (.bool r) ∧ Below w.heap.size w w' := by
  obtain ⟨y, hy⟩ : ∃ y, fidx nearBad l = y := ⟨_, rfl⟩
  have HC := Lib.hid (c_IF_Near A c l w h y hy)
  have HR := Lib.hid (show decide (0 ≤ y) = r by rw [← hy, fidx_any, hr])
  clear hy hr h
  go_enter Tryz.func109, Tryz.ntmps109
  go_wp2_with (go_at_call 122; refine HC.out.mono ?_; rintro e w1 ⟨rfl, b1⟩; have HB1 := Lib.hid b1; clear b1)
  go_ret
  exact ⟨(show Ending.returned (.bool (decide (0 ≤ y))) = .returned (.bool r) by rw [HR.out]), HB1.out⟩
set_option maxHeartbeats 4000000 in
theorem c_IF_HostState (A : Option Addr) (c : Nat) (l : List Hst) (w : World) (h : Rv 2 hstV w A c l) (y : Int) (hy : fidx (fun x => !hstOk x) l = y) :
    Calls Tryz.prog 97 #[.slice A l.length c, .func (.func 71) #[] #[]] w fun e w' => e = .returned (.int .i64 y) ∧ Below w.heap.size w w' := by
  have H := Lib.hid h
  have HY := Lib.hid hy
  have hc1 := h.1
  have hc2 := h.2.1
  unfold maxLen at hc2
  clear h hy
  go_enter Tryz.func97, Tryz.ntmps97
  go_wp2_with (fail)
  go_loopw [8] (fun i wr => ∃ k : Nat, k ≤ l.length ∧ i = .int .i64 (k : Int) ∧ Hid (∀ i y, i < k → l[i]? = some y → (fun x => !hstOk x) y = false) ∧ Hid (Below w.heap.size w wr)) (fun i _ => l.length - (intOf i).toNat)
  case atStart => exact ⟨0, Nat.zero_le _, rfl, Lib.hid (fun i y hi => absurd hi (by omega)), Lib.hid (Below.refl _ _)⟩
  case round =>
    obtain ⟨k, hk, rfl, hun, hB⟩ := hrel
    by_cases hlt : k < l.length
    · obtain ⟨⟨z0, z1⟩, hx⟩ : ∃ x, l[k]? = some x := ⟨_, List.getElem?_eq_getElem hlt⟩
      have HK := H.out
      obtain ⟨pb, o, rfl, -, -⟩ := HK.at_ hx
      obtain ⟨y0, y1⟩ := hst_at (HK.on hB.out (Nat.le_refl _)) hx
      have HXX := Lib.hid hx
      have hki : ((k : Nat) : Int).toNat = k := by omega
      have hlt' : (k : Int) < ((l.length : Nat) : Int) := by omega
      have HC := Lib.hid (fun (r : Bool) (hr : (fun x => !hstOk x) ⟨z0, z1⟩ = r) => c_badHst ⟨z0, z1⟩ r hr wr)
      clear hx HK
      rcases hp : (fun x => !hstOk x) ⟨z0, z1⟩ with _ | _
      · have HP := Lib.hid hp
        clear hp
        go_wp2_with (go_at_call 71; refine (HC.out _ HP.out).mono ?_; rintro e w1 ⟨rfl, b1⟩; have HB1 := Lib.hid (below_join hB.out b1 hB.out.size); clear b1 y0 y1)
        go_roundw
        case rel => exact ⟨k + 1, by omega, by go_num, Lib.hid (fun i y hi hy => by
          rcases Nat.lt_or_ge i k with h | h
          · exact hun.out i y h hy
          · obtain rfl : i = k := by omega
            have := HXX.out
            rw [hy] at this
            injection this with this
            subst this
            exact HP.out), HB1⟩
        case measure => simp only [intOf]; omega
      · have HKY := Lib.hid (show (k : Int) = y by rw [← HY.out]; exact (fidx_at _ l k _ hun.out HXX.out hp).symm)
        have HP := Lib.hid hp
        clear hp
        go_wp2_with (go_at_call 71; refine (HC.out _ HP.out).mono ?_; rintro e w1 ⟨rfl, b1⟩; have HB1 := Lib.hid (below_join hB.out b1 hB.out.size); clear b1 y0 y1)
        go_ret
        exact ⟨(show Ending.returned (.int .i64 (k : Int)) = .returned (.int .i64 y) by rw [HKY.out]), HB1.out⟩
    · obtain rfl : k = l.length := by omega
      have HKY := Lib.hid (show (-1 : Int) = y by rw [← HY.out, fidx_none _ l (fun i y hy => hun.out i y (List.getElem?_eq_some_iff.1 hy).1 hy)])
      go_wp2_with (fail)
      go_ret
      exact ⟨(show Ending.returned (.int .i64 (-1)) = .returned (.int .i64 y) by rw [HKY.out]), hB.out⟩
set_option maxHeartbeats 4000000 in
theorem c_CF_HostState (A : Option Addr) (c : Nat) (l : List Hst) (w : World) (h : Rv 2 hstV w A c l) (r : Bool) (hr : l.any (fun x => !hstOk x) = r) :
    Calls Tryz.prog 76 #[.slice A l.length c, .func (.func 71) #[] #[]] w fun e w' => e = .returned (.bool r) ∧ Below w.heap.size w w' := by
  obtain ⟨y, hy⟩ : ∃ y, fidx (fun x => !hstOk x) l = y := ⟨_, rfl⟩
  have HC := Lib.hid (c_IF_HostState A c l w h y hy)
  have HR := Lib.hid (show decide (0 ≤ y) = r by rw [← hy, fidx_any, hr])
  clear hy hr h
  go_enter Tryz.func76, Tryz.ntmps76
  go_wp2_with (go_at_call 97; refine HC.out.mono ?_; rintro e w1 ⟨rfl, b1⟩; have HB1 := Lib.hid b1; clear b1)
  go_ret
  exact ⟨(show Ending.returned (.bool (decide (0 ≤ y))) = .returned (.bool r) by rw [HR.out]), HB1.out⟩
set_option maxHeartbeats 4000000 in
theorem c_IF_Replica (wb sb : Nat) (p : SP) (s : SiteD) (WA : Option Addr) (n wc : Nat) (A : Option Addr) (c : Nat) (l : List Rep) (w : World) (hw : WiBox w wb WA n wc) (hs : SiBox w sb p s) (h : Rv 2 repV w A c l) (y : Int) (hy : fidx (fun x => !repOk n s.hosts.length x) l = y) :
    Calls Tryz.prog 98 #[.slice A l.length c, .func (.func 73) #[] #[.pointer (some ⟨wb, 0, none⟩), .pointer (some ⟨sb, 0, none⟩)]] w fun e w' => e = .returned (.int .i64 y) ∧ Below w.heap.size w w' := by
  have H := Lib.hid h
  have HY := Lib.hid hy
  have hc1 := h.1
  have hc2 := h.2.1
  unfold maxLen at hc2
  have HW := Lib.hid hw
  have HS := Lib.hid hs
  clear h hy hw hs
  go_enter Tryz.func98, Tryz.ntmps98
  go_wp2_with (fail)
  go_loopw [8] (fun i wr => ∃ k : Nat, k ≤ l.length ∧ i = .int .i64 (k : Int) ∧ Hid (∀ i y, i < k → l[i]? = some y → (fun x => !repOk n s.hosts.length x) y = false) ∧ Hid (Below w.heap.size w wr)) (fun i _ => l.length - (intOf i).toNat)
  case atStart => exact ⟨0, Nat.zero_le _, rfl, Lib.hid (fun i y hi => absurd hi (by omega)), Lib.hid (Below.refl _ _)⟩
  case round =>
    obtain ⟨k, hk, rfl, hun, hB⟩ := hrel
    by_cases hlt : k < l.length
    · obtain ⟨⟨z0, z1⟩, hx⟩ : ∃ x, l[k]? = some x := ⟨_, List.getElem?_eq_getElem hlt⟩
      have HK := H.out
      obtain ⟨pb, o, rfl, -, -⟩ := HK.at_ hx
      obtain ⟨y0, y1⟩ := rep_at (HK.on hB.out (Nat.le_refl _)) hx
      have HXX := Lib.hid hx
      have hki : ((k : Nat) : Int).toNat = k := by omega
      have hlt' : (k : Int) < ((l.length : Nat) : Int) := by omega
      have HC := Lib.hid (fun (r : Bool) (hr : (fun x => !repOk n s.hosts.length x) ⟨z0, z1⟩ = r) => c_badRep wb sb p s WA n wc ⟨z0, z1⟩ r hr wr (HW.out.on hB.out (Nat.le_refl _)) (HS.out.on hB.out (Nat.le_refl _)))
      clear hx HK
      rcases hp : (fun x => !repOk n s.hosts.length x) ⟨z0, z1⟩ with _ | _
      · have HP := Lib.hid hp
        clear hp
        go_wp2_with (go_at_call 73; refine (HC.out _ HP.out).mono ?_; rintro e w1 ⟨rfl, b1⟩; have HB1 := Lib.hid (below_join hB.out b1 hB.out.size); clear b1 y0 y1)
        go_roundw
        case rel => exact ⟨k + 1, by omega, by go_num, Lib.hid (fun i y hi hy => by
          rcases Nat.lt_or_ge i k with h | h
          · exact hun.out i y h hy
          · obtain rfl : i = k := by omega
            have := HXX.out
            rw [hy] at this
            injection this with this
            subst this
            exact HP.out), HB1⟩
        case measure => simp only [intOf]; omega
      · have HKY := Lib.hid (show (k : Int) = y by rw [← HY.out]; exact (fidx_at _ l k _ hun.out HXX.out hp).symm)
        have HP := Lib.hid hp
        clear hp
        go_wp2_with (go_at_call 73; refine (HC.out _ HP.out).mono ?_; rintro e w1 ⟨rfl, b1⟩; have HB1 := Lib.hid (below_join hB.out b1 hB.out.size); clear b1 y0 y1)
        go_ret
        exact ⟨(show Ending.returned (.int .i64 (k : Int)) = .returned (.int .i64 y) by rw [HKY.out]), HB1.out⟩
    · obtain rfl : k = l.length := by omega
      have HKY := Lib.hid (show (-1 : Int) = y by rw [← HY.out, fidx_none _ l (fun i y hy => hun.out i y (List.getElem?_eq_some_iff.1 hy).1 hy)])
      go_wp2_with (fail)
      go_ret
      exact ⟨(show Ending.returned (.int .i64 (-1)) = .returned (.int .i64 y) by rw [HKY.out]), hB.out⟩
set_option maxHeartbeats 4000000 in
theorem c_CF_Replica (wb sb : Nat) (p : SP) (s : SiteD) (WA : Option Addr) (n wc : Nat) (A : Option Addr) (c : Nat) (l : List Rep) (w : World) (hw : WiBox w wb WA n wc) (hs : SiBox w sb p s) (h : Rv 2 repV w A c l) (r : Bool) (hr : l.any (fun x => !repOk n s.hosts.length x) = r) :
    Calls Tryz.prog 77 #[.slice A l.length c, .func (.func 73) #[] #[.pointer (some ⟨wb, 0, none⟩), .pointer (some ⟨sb, 0, none⟩)]] w fun e w' => e = .returned (.bool r) ∧ Below w.heap.size w w' := by
  obtain ⟨y, hy⟩ : ∃ y, fidx (fun x => !repOk n s.hosts.length x) l = y := ⟨_, rfl⟩
  have HC := Lib.hid (c_IF_Replica wb sb p s WA n wc A c l w hw hs h y hy)
  have HR := Lib.hid (show decide (0 ≤ y) = r by rw [← hy, fidx_any, hr])
  clear hy hr h hw hs
  go_enter Tryz.func77, Tryz.ntmps77
  go_wp2_with (go_at_call 98; refine HC.out.mono ?_; rintro e w1 ⟨rfl, b1⟩; have HB1 := Lib.hid b1; clear b1)
  go_ret
  exact ⟨(show Ending.returned (.bool (decide (0 ≤ y))) = .returned (.bool r) by rw [HR.out]), HB1.out⟩
end Go.Proofs.YtpokpgnclohiiaaGreat
