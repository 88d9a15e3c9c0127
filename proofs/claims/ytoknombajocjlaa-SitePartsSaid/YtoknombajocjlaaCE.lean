/-
  DERIVED. Members of the landed package (written by gen/site_CC.py).
-/
import Derived.Test.YtoknombajocjlaaBE
namespace Go.Proofs.Ytoknombajocjlaa
open Go.RowKit
set_option maxRecDepth 100000
set_option linter.unusedVariables false
set_option linter.unusedSimpArgs false

set_option maxHeartbeats 8000000 in
theorem c_memNeg (p : SP) (s : SiteD) (d : Nat) (n : Int) (w : World) (h : SiAt w p s) (hd : ∀ X : World, SiAt X p s → Calls Try.prog 37 #[siV p s, .int .u8 (d : Int)] X fun e w' => (∃ f, e = .returned (.tuple #[.int .i64 (cntD s d), f])) ∧ Below X.heap.size X w') (hn : ixB n (cntD s d) = false) :
    Calls Try.prog 17 #[siV p s, .int .u8 (d : Int), .int .i64 n] w fun e w' => ∃ v, e = .returned v ∧ w'.ownsRow w.heap.size 3 1 v (memD s d n).length (ints (memD s d n)) ∧ Below w.heap.size w w' := by
  have HV := Lib.hid hd
  have HM := Lib.hid (show memD s d n = [] by unfold memD; rw [hn]; rfl)
  have HN := Lib.hid hn
  clear hd hn
  unfold siV at HV
  rw [HM.out]
  unfold siV
  obtain ⟨W, hW⟩ : ∃ W, W = w.alloc (.cells #[.slice p.a1 s.feeds.length p.c1, .slice p.a2 s.brks.length p.c2, .slice p.a3 s.loops.length p.c3, .slice p.a4 s.racks.length p.c4, .int .i64 s.sw, .slice p.a5 s.links.length p.c5, .slice p.a6 s.hosts.length p.c6] 29) := ⟨_, rfl⟩
  have B0 : Below w.heap.size w W := by subst hW; exact (Below.refl _ _).alloc (Nat.le_refl _) _
  have HB0 := Lib.hid B0
  have HX := Lib.hid (show SiBox W w.heap.size p s by subst hW; exact siBox_new _ _ _)
  have HA := Lib.hid (h.on B0 (Nat.le_refl _))
  have HF := Lib.hid (fun (X : World) (hX : Below W.heap.size W X) => (let z := HX.out.on hX (Nat.le_refl _); ⟨z.c0, z.c1, z.c2, z.c3, z.c4, z.c5, z.c6⟩ : X.cell? ⟨w.heap.size, 0, none⟩ = some (.slice p.a1 s.feeds.length p.c1) ∧ X.cell? ⟨w.heap.size, 1, none⟩ = some (.slice p.a2 s.brks.length p.c2) ∧ X.cell? ⟨w.heap.size, 2, none⟩ = some (.slice p.a3 s.loops.length p.c3) ∧ X.cell? ⟨w.heap.size, 3, none⟩ = some (.slice p.a4 s.racks.length p.c4) ∧ X.cell? ⟨w.heap.size, 4, none⟩ = some (.int .i64 s.sw) ∧ X.cell? ⟨w.heap.size, 5, none⟩ = some (.slice p.a5 s.links.length p.c5) ∧ X.cell? ⟨w.heap.size, 6, none⟩ = some (.slice p.a6 s.hosts.length p.c6)))
  have m1 := h.feeds.1; have m2 := h.brks.1; have m3 := h.loops.1; have m4 := h.racks.1; have m5 := h.links.1; have m6 := h.hosts.1
  have n1 := h.feeds.2.1; have n2 := h.brks.2.1; have n3 := h.loops.2.1; have n4 := h.racks.2.1; have n5 := h.links.2.1; have n6 := h.hosts.2.1
  unfold maxLen at n1 n2 n3 n4 n5 n6
  have KW := Lib.hid (Below.refl W.heap.size W)
  have hlw : w.heap.size < W.heap.size := HX.out.lt
  clear B0 h
  obtain ⟨f0, f1, f2, f3, f4, f5, f6⟩ := HF.out W KW.out
  rw [hW] at f0 f1 f2 f3 f4 f5 f6
  go_enter Try.func17, Try.ntmps17
  go_wp2_with (fail)
  rw [← hW]
  clear hW f0 f1 f2 f3 f4 f5 f6
  go_at_call 37
  refine (HV.out W HA.out).mono ?_
  rintro e w1 ⟨⟨f, rfl⟩, b1⟩
  have K1 := Lib.hid b1
  clear b1
  obtain ⟨cc, hcc⟩ : ∃ c, cntD s d = c := ⟨_, rfl⟩
  rw [hcc] at HN ⊢
  go_wp2_with (fail)
  go_at_call 23
  refine (c_isIndex n cc false HN.out w1).mono ?_
  rintro e w2 ⟨rfl, b2⟩
  have K2 := Lib.hid (below_join K1.out b2 K1.out.size)
  clear b2
  go_wp2_with (fail)
  go_ret
  exact ⟨_, rfl, World.ownsRow_nil _ _ _ _, below_join HB0.out K2.out HB0.out.size⟩
set_option maxHeartbeats 16000000 in
theorem c_mem1 (p : SP) (s : SiteD) (hok : siteOk s = true) (n : Int) (hix : ixB n (s.hosts.length : Int) = true) (w : World) (h : SiAt w p s) :
    Calls Try.prog 17 #[siV p s, .int .u8 1, .int .i64 n] w fun e w' => ∃ v, e = .returned v ∧ w'.ownsRow w.heap.size 3 1 v (nats ((List.range s.hosts.length).filter (fun h => domAt s h 1 == n))).length (ints (nats ((List.range s.hosts.length).filter (fun h => domAt s h 1 == n)))) ∧ Below w.heap.size w w' := by
  have hsok := siteOk_iff.1 hok
  have hnh := hsok.nhosts
  have HV := Lib.hid (fun (X : World) (hX : SiAt X p s) => c_doms1 p s hok X hX)
  have HSOK := Lib.hid hsok
  have HIX := Lib.hid hix
  unfold siV at HV
  clear hok hsok hix
  unfold siV
  obtain ⟨W, hW⟩ : ∃ W, W = w.alloc (.cells #[.slice p.a1 s.feeds.length p.c1, .slice p.a2 s.brks.length p.c2, .slice p.a3 s.loops.length p.c3, .slice p.a4 s.racks.length p.c4, .int .i64 s.sw, .slice p.a5 s.links.length p.c5, .slice p.a6 s.hosts.length p.c6] 29) := ⟨_, rfl⟩
  have B0 : Below w.heap.size w W := by subst hW; exact (Below.refl _ _).alloc (Nat.le_refl _) _
  have HB0 := Lib.hid B0
  have HX := Lib.hid (show SiBox W w.heap.size p s by subst hW; exact siBox_new _ _ _)
  have HA := Lib.hid (h.on B0 (Nat.le_refl _))
  have HF := Lib.hid (fun (X : World) (hX : Below W.heap.size W X) => (let z := HX.out.on hX (Nat.le_refl _); ⟨z.c0, z.c1, z.c2, z.c3, z.c4, z.c5, z.c6⟩ : X.cell? ⟨w.heap.size, 0, none⟩ = some (.slice p.a1 s.feeds.length p.c1) ∧ X.cell? ⟨w.heap.size, 1, none⟩ = some (.slice p.a2 s.brks.length p.c2) ∧ X.cell? ⟨w.heap.size, 2, none⟩ = some (.slice p.a3 s.loops.length p.c3) ∧ X.cell? ⟨w.heap.size, 3, none⟩ = some (.slice p.a4 s.racks.length p.c4) ∧ X.cell? ⟨w.heap.size, 4, none⟩ = some (.int .i64 s.sw) ∧ X.cell? ⟨w.heap.size, 5, none⟩ = some (.slice p.a5 s.links.length p.c5) ∧ X.cell? ⟨w.heap.size, 6, none⟩ = some (.slice p.a6 s.hosts.length p.c6)))
  have m1 := h.feeds.1; have m2 := h.brks.1; have m3 := h.loops.1; have m4 := h.racks.1; have m5 := h.links.1; have m6 := h.hosts.1
  have n1 := h.feeds.2.1; have n2 := h.brks.2.1; have n3 := h.loops.2.1; have n4 := h.racks.2.1; have n5 := h.links.2.1; have n6 := h.hosts.2.1
  unfold maxLen at n1 n2 n3 n4 n5 n6
  have KW := Lib.hid (Below.refl W.heap.size W)
  have hlw : w.heap.size < W.heap.size := HX.out.lt
  clear B0 h
  obtain ⟨f0, f1, f2, f3, f4, f5, f6⟩ := HF.out W KW.out
  rw [hW] at f0 f1 f2 f3 f4 f5 f6
  go_enter Try.func17, Try.ntmps17
  go_wp2_with (fail)
  rw [← hW]
  clear hW f0 f1 f2 f3 f4 f5 f6
  go_at_call 37
  refine (HV.out W HA.out).mono ?_
  rintro e w1 ⟨bs, bt, rfl, hb1, ha1, hr1, b1⟩
  have K1 := Lib.hid b1
  have HB1 := Lib.hid hb1
  have HA1 := Lib.hid ha1
  have HR1 := Lib.hid hr1
  clear b1 hb1 ha1 hr1
  go_wp2_with (fail)
  go_at_call 23
  refine (c_isIndex n (s.hosts.length : Int) true HIX.out w1).mono ?_
  rintro e w2 ⟨rfl, b2⟩
  have K2 := Lib.hid (below_join K1.out b2 K1.out.size)
  have KK := Lib.hid b2
  clear b2
  have HB2 := Lib.hid (HB1.out.on KK.out (Nat.le_refl _))
  have HA2 := Lib.hid (HA1.out.on KK.out (Nat.le_refl _))
  have HR2 := Lib.hid (HR1.out.on KK.out (Nat.le_refl _))
  have HC := Lib.hid (fun (k : Nat) (hk : k < s.hosts.length) (X : World) (hb : SiBox X bs p s) (ha : SiAt X p s) (hr : RkBox X bt bs) (hsok : SiteOk s) => (show Calls Try.prog 47 #[.int .i64 (k : Int)] X fun e w' => e = .returned (.int .i64 (k : Int)) ∧ Below X.heap.size X w' from c_dom2 (k : Int) X))
  obtain ⟨i1, hi1, hz1, hz2, hz3⟩ := info_parts int_info
  obtain ⟨f0, f1, f2, f3, f4, f5, f6⟩ := HF.out w2 K2.out
  go_wp2_with (fail)
  clear f0 f1 f2 f3 f4 f5 f6
  go_loopw [9, 24] (fun v i wr => ∃ k : Nat, k ≤ s.hosts.length ∧ i = .int .i64 (k : Int) ∧ Hid (Below w2.heap.size w2 wr) ∧ Hid (wr.ownsRow w2.heap.size 3 1 v (nats ((List.range k).filter (fun h => domAt s h 1 == n))).length (ints (nats ((List.range k).filter (fun h => domAt s h 1 == n)))))) (fun _ i _ => s.hosts.length - (intOf i).toNat)
  case atStart => exact ⟨0, Nat.zero_le _, rfl, Lib.hid (Below.refl _ _), Lib.hid (World.ownsRow_nil _ _ _ _)⟩
  case round =>
    obtain ⟨k, hk, rfl, hB, ho⟩ := hrel
    have hki : ((k : Nat) : Int).toNat = k := by omega
    by_cases hlt : k < s.hosts.length
    · have hkl : (k : Int) < (s.hosts.length : Int) := by omega
      have hln : (nats ((List.range k).filter (fun h => domAt s h 1 == n))).length ≤ 16 := by rw [nats_len]; exact Nat.le_trans (List.length_filter_le _ _) (by rw [List.length_range]; omega)
      obtain ⟨nn, hnn⟩ : ∃ m, m = (nats ((List.range k).filter (fun h => domAt s h 1 == n))).length := ⟨_, rfl⟩
      obtain ⟨x, hx⟩ : ∃ x, x = (k : Int) := ⟨_, rfl⟩
      rw [← hnn] at ho hln
      have HNN := Lib.hid hnn
      have HXX := Lib.hid (show domAt s k 1 = x from hx.symm)
      have HC1 := Lib.hid (show Calls Try.prog 47 #[.int .i64 (k : Int)] wr fun e w' => e = .returned (.int .i64 x) ∧ Below wr.heap.size wr w' from (HC.out k hlt wr (HB2.out.on hB.out (Nat.le_refl _)) (HA2.out.on hB.out (Nat.le_refl _)) (HR2.out.on hB.out (Nat.le_refl _)) HSOK.out).mono (fun e w' h => ⟨by rw [hx]; exact h.1, h.2⟩))
      obtain ⟨As, cs, rfl⟩ := own_shape ho.out
      have hz3' := hB.out.size
      clear hnn hx
      go_wp2_with (fail)
      go_at_call 47
      refine HC1.out.mono ?_
      rintro e wz ⟨rfl, bz⟩
      have HBz := Lib.hid (below_join hB.out bz hB.out.size)
      have HOz := Lib.hid (own_on ho.out bz (Nat.le_refl _))
      have hz4 := bz.size
      clear bz
      rcases hf : (x == n) with _ | _
      · have HO := Lib.hid (show wz.ownsRow w2.heap.size 3 1 (.slice As nn cs) (nats ((List.range (k + 1)).filter (fun h => domAt s h 1 == n))).length (ints (nats ((List.range (k + 1)).filter (fun h => domAt s h 1 == n)))) by
          rw [range_filter, show (domAt s k 1 == n) = false by rw [HXX.out]; exact hf]
          simp only [Bool.false_eq_true, if_false, List.append_nil]
          rw [← HNN.out]; exact HOz.out)
        go_wp2_with (fail)
        go_roundw
        case rel => exact ⟨k + 1, by omega, by go_num, HBz, HO⟩
        case measure => simp only [intOf]; omega
      · have HFF := Lib.hid hf
        go_wp2_with (at_builtin; refine wpList_append_lies _ rfl _ _ 37 rfl w2.heap.size 3 i1 (.int .i64 0) 1 8 Try.underlying37 hi1 hz1 hz2 hz3 rfl (by decide) (.slice As nn cs) nn _ rfl (HOz.out.alloc _) ⟨wz.heap.size, 0, none⟩ 1 1 [.int .i64 (k : Int)] rfl rfl (World.news_of_block (heap_alloc_new _ _)) (by simp [Value.oneCell']) (by decide) (by unfold maxLen; omega) (by omega) (by simp; omega) (wz.heap.size + 1) (by simp) ?_; intro g4 cap4 Z hown hgrow _ _; have HBZ := Lib.hid ((HBz.out.alloc HBz.out.size _).grown hgrow (by simp; omega) (fun k hk => (ownsRow_lt HOz.out hk).1)); have HOZ := Lib.hid hown; clear hown hgrow)
        have HO := Lib.hid (show Z.ownsRow w2.heap.size 3 1 (.slice (some ⟨g4, 0, none⟩) (nn + 1) cap4) (nats ((List.range (k + 1)).filter (fun h => domAt s h 1 == n))).length (ints (nats ((List.range (k + 1)).filter (fun h => domAt s h 1 == n)))) by
          rw [range_filter, show (domAt s k 1 == n) = true by rw [HXX.out]; exact HFF.out]
          simp only [if_true]
          rw [show nats (((List.range k).filter (fun h => domAt s h 1 == n)) ++ [k]) = (nats ((List.range k).filter (fun h => domAt s h 1 == n))) ++ [(k : Int)] by simp [nats], List.length_append, List.length_singleton, ← HNN.out, ints_snoc]
          exact HOZ.out)
        go_roundw
        case rel => exact ⟨k + 1, by omega, by go_num, HBZ, HO⟩
        case measure => simp only [intOf]; omega
    · obtain rfl : k = s.hosts.length := by omega
      go_wp2_with (fail)
      go_ret
      exact ⟨_, rfl, own_mono ho.out (Nat.le_trans HB0.out.size K2.out.size), below_join HB0.out (below_join K2.out hB.out K2.out.size) HB0.out.size⟩
set_option maxHeartbeats 16000000 in
theorem c_mem2 (p : SP) (s : SiteD) (hok : siteOk s = true) (n : Int) (hix : ixB n (s.racks.length : Int) = true) (w : World) (h : SiAt w p s) :
    Calls Try.prog 17 #[siV p s, .int .u8 2, .int .i64 n] w fun e w' => ∃ v, e = .returned v ∧ w'.ownsRow w.heap.size 3 1 v (nats ((List.range s.hosts.length).filter (fun h => domAt s h 2 == n))).length (ints (nats ((List.range s.hosts.length).filter (fun h => domAt s h 2 == n)))) ∧ Below w.heap.size w w' := by
  have hsok := siteOk_iff.1 hok
  have hnh := hsok.nhosts
  have HV := Lib.hid (fun (X : World) (hX : SiAt X p s) => c_doms2 p s hok X hX)
  have HSOK := Lib.hid hsok
  have HIX := Lib.hid hix
  unfold siV at HV
  clear hok hsok hix
  unfold siV
  obtain ⟨W, hW⟩ : ∃ W, W = w.alloc (.cells #[.slice p.a1 s.feeds.length p.c1, .slice p.a2 s.brks.length p.c2, .slice p.a3 s.loops.length p.c3, .slice p.a4 s.racks.length p.c4, .int .i64 s.sw, .slice p.a5 s.links.length p.c5, .slice p.a6 s.hosts.length p.c6] 29) := ⟨_, rfl⟩
  have B0 : Below w.heap.size w W := by subst hW; exact (Below.refl _ _).alloc (Nat.le_refl _) _
  have HB0 := Lib.hid B0
  have HX := Lib.hid (show SiBox W w.heap.size p s by subst hW; exact siBox_new _ _ _)
  have HA := Lib.hid (h.on B0 (Nat.le_refl _))
  have HF := Lib.hid (fun (X : World) (hX : Below W.heap.size W X) => (let z := HX.out.on hX (Nat.le_refl _); ⟨z.c0, z.c1, z.c2, z.c3, z.c4, z.c5, z.c6⟩ : X.cell? ⟨w.heap.size, 0, none⟩ = some (.slice p.a1 s.feeds.length p.c1) ∧ X.cell? ⟨w.heap.size, 1, none⟩ = some (.slice p.a2 s.brks.length p.c2) ∧ X.cell? ⟨w.heap.size, 2, none⟩ = some (.slice p.a3 s.loops.length p.c3) ∧ X.cell? ⟨w.heap.size, 3, none⟩ = some (.slice p.a4 s.racks.length p.c4) ∧ X.cell? ⟨w.heap.size, 4, none⟩ = some (.int .i64 s.sw) ∧ X.cell? ⟨w.heap.size, 5, none⟩ = some (.slice p.a5 s.links.length p.c5) ∧ X.cell? ⟨w.heap.size, 6, none⟩ = some (.slice p.a6 s.hosts.length p.c6)))
  have m1 := h.feeds.1; have m2 := h.brks.1; have m3 := h.loops.1; have m4 := h.racks.1; have m5 := h.links.1; have m6 := h.hosts.1
  have n1 := h.feeds.2.1; have n2 := h.brks.2.1; have n3 := h.loops.2.1; have n4 := h.racks.2.1; have n5 := h.links.2.1; have n6 := h.hosts.2.1
  unfold maxLen at n1 n2 n3 n4 n5 n6
  have KW := Lib.hid (Below.refl W.heap.size W)
  have hlw : w.heap.size < W.heap.size := HX.out.lt
  clear B0 h
  obtain ⟨f0, f1, f2, f3, f4, f5, f6⟩ := HF.out W KW.out
  rw [hW] at f0 f1 f2 f3 f4 f5 f6
  go_enter Try.func17, Try.ntmps17
  go_wp2_with (fail)
  rw [← hW]
  clear hW f0 f1 f2 f3 f4 f5 f6
  go_at_call 37
  refine (HV.out W HA.out).mono ?_
  rintro e w1 ⟨bs, bt, rfl, hb1, ha1, hr1, b1⟩
  have K1 := Lib.hid b1
  have HB1 := Lib.hid hb1
  have HA1 := Lib.hid ha1
  have HR1 := Lib.hid hr1
  clear b1 hb1 ha1 hr1
  go_wp2_with (fail)
  go_at_call 23
  refine (c_isIndex n (s.racks.length : Int) true HIX.out w1).mono ?_
  rintro e w2 ⟨rfl, b2⟩
  have K2 := Lib.hid (below_join K1.out b2 K1.out.size)
  have KK := Lib.hid b2
  clear b2
  have HB2 := Lib.hid (HB1.out.on KK.out (Nat.le_refl _))
  have HA2 := Lib.hid (HA1.out.on KK.out (Nat.le_refl _))
  have HR2 := Lib.hid (HR1.out.on KK.out (Nat.le_refl _))
  have HC := Lib.hid (fun (k : Nat) (hk : k < s.hosts.length) (X : World) (hb : SiBox X bs p s) (ha : SiAt X p s) (hr : RkBox X bt bs) (hsok : SiteOk s) => (show Calls Try.prog 48 #[.int .i64 (k : Int), .pointer (some ⟨bs, 0, none⟩)] X fun e w' => e = .returned (.int .i64 (rackAt s k)) ∧ Below X.heap.size X w' from c_dom3 bs p s k hk X hb ha))
  obtain ⟨i1, hi1, hz1, hz2, hz3⟩ := info_parts int_info
  obtain ⟨f0, f1, f2, f3, f4, f5, f6⟩ := HF.out w2 K2.out
  go_wp2_with (fail)
  clear f0 f1 f2 f3 f4 f5 f6
  go_loopw [9, 24] (fun v i wr => ∃ k : Nat, k ≤ s.hosts.length ∧ i = .int .i64 (k : Int) ∧ Hid (Below w2.heap.size w2 wr) ∧ Hid (wr.ownsRow w2.heap.size 3 1 v (nats ((List.range k).filter (fun h => domAt s h 2 == n))).length (ints (nats ((List.range k).filter (fun h => domAt s h 2 == n)))))) (fun _ i _ => s.hosts.length - (intOf i).toNat)
  case atStart => exact ⟨0, Nat.zero_le _, rfl, Lib.hid (Below.refl _ _), Lib.hid (World.ownsRow_nil _ _ _ _)⟩
  case round =>
    obtain ⟨k, hk, rfl, hB, ho⟩ := hrel
    have hki : ((k : Nat) : Int).toNat = k := by omega
    by_cases hlt : k < s.hosts.length
    · have hkl : (k : Int) < (s.hosts.length : Int) := by omega
      have hln : (nats ((List.range k).filter (fun h => domAt s h 2 == n))).length ≤ 16 := by rw [nats_len]; exact Nat.le_trans (List.length_filter_le _ _) (by rw [List.length_range]; omega)
      obtain ⟨nn, hnn⟩ : ∃ m, m = (nats ((List.range k).filter (fun h => domAt s h 2 == n))).length := ⟨_, rfl⟩
      obtain ⟨x, hx⟩ : ∃ x, x = (rackAt s k) := ⟨_, rfl⟩
      rw [← hnn] at ho hln
      have HNN := Lib.hid hnn
      have HXX := Lib.hid (show domAt s k 2 = x from hx.symm)
      have HC1 := Lib.hid (show Calls Try.prog 48 #[.int .i64 (k : Int), .pointer (some ⟨bs, 0, none⟩)] wr fun e w' => e = .returned (.int .i64 x) ∧ Below wr.heap.size wr w' from (HC.out k hlt wr (HB2.out.on hB.out (Nat.le_refl _)) (HA2.out.on hB.out (Nat.le_refl _)) (HR2.out.on hB.out (Nat.le_refl _)) HSOK.out).mono (fun e w' h => ⟨by rw [hx]; exact h.1, h.2⟩))
      obtain ⟨As, cs, rfl⟩ := own_shape ho.out
      have hz3' := hB.out.size
      clear hnn hx
      go_wp2_with (fail)
      go_at_call 48
      refine HC1.out.mono ?_
      rintro e wz ⟨rfl, bz⟩
      have HBz := Lib.hid (below_join hB.out bz hB.out.size)
      have HOz := Lib.hid (own_on ho.out bz (Nat.le_refl _))
      have hz4 := bz.size
      clear bz
      rcases hf : (x == n) with _ | _
      · have HO := Lib.hid (show wz.ownsRow w2.heap.size 3 1 (.slice As nn cs) (nats ((List.range (k + 1)).filter (fun h => domAt s h 2 == n))).length (ints (nats ((List.range (k + 1)).filter (fun h => domAt s h 2 == n)))) by
          rw [range_filter, show (domAt s k 2 == n) = false by rw [HXX.out]; exact hf]
          simp only [Bool.false_eq_true, if_false, List.append_nil]
          rw [← HNN.out]; exact HOz.out)
        go_wp2_with (fail)
        go_roundw
        case rel => exact ⟨k + 1, by omega, by go_num, HBz, HO⟩
        case measure => simp only [intOf]; omega
      · have HFF := Lib.hid hf
        go_wp2_with (at_builtin; refine wpList_append_lies _ rfl _ _ 37 rfl w2.heap.size 3 i1 (.int .i64 0) 1 8 Try.underlying37 hi1 hz1 hz2 hz3 rfl (by decide) (.slice As nn cs) nn _ rfl (HOz.out.alloc _) ⟨wz.heap.size, 0, none⟩ 1 1 [.int .i64 (k : Int)] rfl rfl (World.news_of_block (heap_alloc_new _ _)) (by simp [Value.oneCell']) (by decide) (by unfold maxLen; omega) (by omega) (by simp; omega) (wz.heap.size + 1) (by simp) ?_; intro g4 cap4 Z hown hgrow _ _; have HBZ := Lib.hid ((HBz.out.alloc HBz.out.size _).grown hgrow (by simp; omega) (fun k hk => (ownsRow_lt HOz.out hk).1)); have HOZ := Lib.hid hown; clear hown hgrow)
        have HO := Lib.hid (show Z.ownsRow w2.heap.size 3 1 (.slice (some ⟨g4, 0, none⟩) (nn + 1) cap4) (nats ((List.range (k + 1)).filter (fun h => domAt s h 2 == n))).length (ints (nats ((List.range (k + 1)).filter (fun h => domAt s h 2 == n)))) by
          rw [range_filter, show (domAt s k 2 == n) = true by rw [HXX.out]; exact HFF.out]
          simp only [if_true]
          rw [show nats (((List.range k).filter (fun h => domAt s h 2 == n)) ++ [k]) = (nats ((List.range k).filter (fun h => domAt s h 2 == n))) ++ [(k : Int)] by simp [nats], List.length_append, List.length_singleton, ← HNN.out, ints_snoc]
          exact HOZ.out)
        go_roundw
        case rel => exact ⟨k + 1, by omega, by go_num, HBZ, HO⟩
        case measure => simp only [intOf]; omega
    · obtain rfl : k = s.hosts.length := by omega
      go_wp2_with (fail)
      go_ret
      exact ⟨_, rfl, own_mono ho.out (Nat.le_trans HB0.out.size K2.out.size), below_join HB0.out (below_join K2.out hB.out K2.out.size) HB0.out.size⟩
set_option maxHeartbeats 16000000 in
theorem c_mem3 (p : SP) (s : SiteD) (hok : siteOk s = true) (n : Int) (hix : ixB n 4 = true) (w : World) (h : SiAt w p s) :
    Calls Try.prog 17 #[siV p s, .int .u8 3, .int .i64 n] w fun e w' => ∃ v, e = .returned v ∧ w'.ownsRow w.heap.size 3 1 v (nats ((List.range s.hosts.length).filter (fun h => domAt s h 3 == n))).length (ints (nats ((List.range s.hosts.length).filter (fun h => domAt s h 3 == n)))) ∧ Below w.heap.size w w' := by
  have hsok := siteOk_iff.1 hok
  have hnh := hsok.nhosts
  have HV := Lib.hid (fun (X : World) (hX : SiAt X p s) => c_doms3 p s hok X hX)
  have HSOK := Lib.hid hsok
  have HIX := Lib.hid hix
  unfold siV at HV
  clear hok hsok hix
  unfold siV
  obtain ⟨W, hW⟩ : ∃ W, W = w.alloc (.cells #[.slice p.a1 s.feeds.length p.c1, .slice p.a2 s.brks.length p.c2, .slice p.a3 s.loops.length p.c3, .slice p.a4 s.racks.length p.c4, .int .i64 s.sw, .slice p.a5 s.links.length p.c5, .slice p.a6 s.hosts.length p.c6] 29) := ⟨_, rfl⟩
  have B0 : Below w.heap.size w W := by subst hW; exact (Below.refl _ _).alloc (Nat.le_refl _) _
  have HB0 := Lib.hid B0
  have HX := Lib.hid (show SiBox W w.heap.size p s by subst hW; exact siBox_new _ _ _)
  have HA := Lib.hid (h.on B0 (Nat.le_refl _))
  have HF := Lib.hid (fun (X : World) (hX : Below W.heap.size W X) => (let z := HX.out.on hX (Nat.le_refl _); ⟨z.c0, z.c1, z.c2, z.c3, z.c4, z.c5, z.c6⟩ : X.cell? ⟨w.heap.size, 0, none⟩ = some (.slice p.a1 s.feeds.length p.c1) ∧ X.cell? ⟨w.heap.size, 1, none⟩ = some (.slice p.a2 s.brks.length p.c2) ∧ X.cell? ⟨w.heap.size, 2, none⟩ = some (.slice p.a3 s.loops.length p.c3) ∧ X.cell? ⟨w.heap.size, 3, none⟩ = some (.slice p.a4 s.racks.length p.c4) ∧ X.cell? ⟨w.heap.size, 4, none⟩ = some (.int .i64 s.sw) ∧ X.cell? ⟨w.heap.size, 5, none⟩ = some (.slice p.a5 s.links.length p.c5) ∧ X.cell? ⟨w.heap.size, 6, none⟩ = some (.slice p.a6 s.hosts.length p.c6)))
  have m1 := h.feeds.1; have m2 := h.brks.1; have m3 := h.loops.1; have m4 := h.racks.1; have m5 := h.links.1; have m6 := h.hosts.1
  have n1 := h.feeds.2.1; have n2 := h.brks.2.1; have n3 := h.loops.2.1; have n4 := h.racks.2.1; have n5 := h.links.2.1; have n6 := h.hosts.2.1
  unfold maxLen at n1 n2 n3 n4 n5 n6
  have KW := Lib.hid (Below.refl W.heap.size W)
  have hlw : w.heap.size < W.heap.size := HX.out.lt
  clear B0 h
  obtain ⟨f0, f1, f2, f3, f4, f5, f6⟩ := HF.out W KW.out
  rw [hW] at f0 f1 f2 f3 f4 f5 f6
  go_enter Try.func17, Try.ntmps17
  go_wp2_with (fail)
  rw [← hW]
  clear hW f0 f1 f2 f3 f4 f5 f6
  go_at_call 37
  refine (HV.out W HA.out).mono ?_
  rintro e w1 ⟨bs, bt, rfl, hb1, ha1, hr1, b1⟩
  have K1 := Lib.hid b1
  have HB1 := Lib.hid hb1
  have HA1 := Lib.hid ha1
  have HR1 := Lib.hid hr1
  clear b1 hb1 ha1 hr1
  go_wp2_with (fail)
  go_at_call 23
  refine (c_isIndex n 4 true HIX.out w1).mono ?_
  rintro e w2 ⟨rfl, b2⟩
  have K2 := Lib.hid (below_join K1.out b2 K1.out.size)
  have KK := Lib.hid b2
  clear b2
  have HB2 := Lib.hid (HB1.out.on KK.out (Nat.le_refl _))
  have HA2 := Lib.hid (HA1.out.on KK.out (Nat.le_refl _))
  have HR2 := Lib.hid (HR1.out.on KK.out (Nat.le_refl _))
  have HC := Lib.hid (fun (k : Nat) (hk : k < s.hosts.length) (X : World) (hb : SiBox X bs p s) (ha : SiAt X p s) (hr : RkBox X bt bs) (hsok : SiteOk s) => (show Calls Try.prog 49 #[.int .i64 (k : Int), .pointer (some ⟨bt, 0, none⟩)] X fun e w' => e = .returned (.int .i64 (rkAt s k).row) ∧ Below X.heap.size X w' from c_dom4 bs bt p s hsok k hk X hb ha hr))
  obtain ⟨i1, hi1, hz1, hz2, hz3⟩ := info_parts int_info
  obtain ⟨f0, f1, f2, f3, f4, f5, f6⟩ := HF.out w2 K2.out
  go_wp2_with (fail)
  clear f0 f1 f2 f3 f4 f5 f6
  go_loopw [9, 24] (fun v i wr => ∃ k : Nat, k ≤ s.hosts.length ∧ i = .int .i64 (k : Int) ∧ Hid (Below w2.heap.size w2 wr) ∧ Hid (wr.ownsRow w2.heap.size 3 1 v (nats ((List.range k).filter (fun h => domAt s h 3 == n))).length (ints (nats ((List.range k).filter (fun h => domAt s h 3 == n)))))) (fun _ i _ => s.hosts.length - (intOf i).toNat)
  case atStart => exact ⟨0, Nat.zero_le _, rfl, Lib.hid (Below.refl _ _), Lib.hid (World.ownsRow_nil _ _ _ _)⟩
  case round =>
    obtain ⟨k, hk, rfl, hB, ho⟩ := hrel
    have hki : ((k : Nat) : Int).toNat = k := by omega
    by_cases hlt : k < s.hosts.length
    · have hkl : (k : Int) < (s.hosts.length : Int) := by omega
      have hln : (nats ((List.range k).filter (fun h => domAt s h 3 == n))).length ≤ 16 := by rw [nats_len]; exact Nat.le_trans (List.length_filter_le _ _) (by rw [List.length_range]; omega)
      obtain ⟨nn, hnn⟩ : ∃ m, m = (nats ((List.range k).filter (fun h => domAt s h 3 == n))).length := ⟨_, rfl⟩
      obtain ⟨x, hx⟩ : ∃ x, x = (rkAt s k).row := ⟨_, rfl⟩
      rw [← hnn] at ho hln
      have HNN := Lib.hid hnn
      have HXX := Lib.hid (show domAt s k 3 = x from hx.symm)
      have HC1 := Lib.hid (show Calls Try.prog 49 #[.int .i64 (k : Int), .pointer (some ⟨bt, 0, none⟩)] wr fun e w' => e = .returned (.int .i64 x) ∧ Below wr.heap.size wr w' from (HC.out k hlt wr (HB2.out.on hB.out (Nat.le_refl _)) (HA2.out.on hB.out (Nat.le_refl _)) (HR2.out.on hB.out (Nat.le_refl _)) HSOK.out).mono (fun e w' h => ⟨by rw [hx]; exact h.1, h.2⟩))
      obtain ⟨As, cs, rfl⟩ := own_shape ho.out
      have hz3' := hB.out.size
      clear hnn hx
      go_wp2_with (fail)
      go_at_call 49
      refine HC1.out.mono ?_
      rintro e wz ⟨rfl, bz⟩
      have HBz := Lib.hid (below_join hB.out bz hB.out.size)
      have HOz := Lib.hid (own_on ho.out bz (Nat.le_refl _))
      have hz4 := bz.size
      clear bz
      rcases hf : (x == n) with _ | _
      · have HO := Lib.hid (show wz.ownsRow w2.heap.size 3 1 (.slice As nn cs) (nats ((List.range (k + 1)).filter (fun h => domAt s h 3 == n))).length (ints (nats ((List.range (k + 1)).filter (fun h => domAt s h 3 == n)))) by
          rw [range_filter, show (domAt s k 3 == n) = false by rw [HXX.out]; exact hf]
          simp only [Bool.false_eq_true, if_false, List.append_nil]
          rw [← HNN.out]; exact HOz.out)
        go_wp2_with (fail)
        go_roundw
        case rel => exact ⟨k + 1, by omega, by go_num, HBz, HO⟩
        case measure => simp only [intOf]; omega
      · have HFF := Lib.hid hf
        go_wp2_with (at_builtin; refine wpList_append_lies _ rfl _ _ 37 rfl w2.heap.size 3 i1 (.int .i64 0) 1 8 Try.underlying37 hi1 hz1 hz2 hz3 rfl (by decide) (.slice As nn cs) nn _ rfl (HOz.out.alloc _) ⟨wz.heap.size, 0, none⟩ 1 1 [.int .i64 (k : Int)] rfl rfl (World.news_of_block (heap_alloc_new _ _)) (by simp [Value.oneCell']) (by decide) (by unfold maxLen; omega) (by omega) (by simp; omega) (wz.heap.size + 1) (by simp) ?_; intro g4 cap4 Z hown hgrow _ _; have HBZ := Lib.hid ((HBz.out.alloc HBz.out.size _).grown hgrow (by simp; omega) (fun k hk => (ownsRow_lt HOz.out hk).1)); have HOZ := Lib.hid hown; clear hown hgrow)
        have HO := Lib.hid (show Z.ownsRow w2.heap.size 3 1 (.slice (some ⟨g4, 0, none⟩) (nn + 1) cap4) (nats ((List.range (k + 1)).filter (fun h => domAt s h 3 == n))).length (ints (nats ((List.range (k + 1)).filter (fun h => domAt s h 3 == n)))) by
          rw [range_filter, show (domAt s k 3 == n) = true by rw [HXX.out]; exact HFF.out]
          simp only [if_true]
          rw [show nats (((List.range k).filter (fun h => domAt s h 3 == n)) ++ [k]) = (nats ((List.range k).filter (fun h => domAt s h 3 == n))) ++ [(k : Int)] by simp [nats], List.length_append, List.length_singleton, ← HNN.out, ints_snoc]
          exact HOZ.out)
        go_roundw
        case rel => exact ⟨k + 1, by omega, by go_num, HBZ, HO⟩
        case measure => simp only [intOf]; omega
    · obtain rfl : k = s.hosts.length := by omega
      go_wp2_with (fail)
      go_ret
      exact ⟨_, rfl, own_mono ho.out (Nat.le_trans HB0.out.size K2.out.size), below_join HB0.out (below_join K2.out hB.out K2.out.size) HB0.out.size⟩
set_option maxHeartbeats 16000000 in
theorem c_mem4 (p : SP) (s : SiteD) (hok : siteOk s = true) (n : Int) (hix : ixB n (s.feeds.length : Int) = true) (w : World) (h : SiAt w p s) :
    Calls Try.prog 17 #[siV p s, .int .u8 4, .int .i64 n] w fun e w' => ∃ v, e = .returned v ∧ w'.ownsRow w.heap.size 3 1 v (nats ((List.range s.hosts.length).filter (fun h => domAt s h 4 == n))).length (ints (nats ((List.range s.hosts.length).filter (fun h => domAt s h 4 == n)))) ∧ Below w.heap.size w w' := by
  have hsok := siteOk_iff.1 hok
  have hnh := hsok.nhosts
  have HV := Lib.hid (fun (X : World) (hX : SiAt X p s) => c_doms4 p s hok X hX)
  have HSOK := Lib.hid hsok
  have HIX := Lib.hid hix
  unfold siV at HV
  clear hok hsok hix
  unfold siV
  obtain ⟨W, hW⟩ : ∃ W, W = w.alloc (.cells #[.slice p.a1 s.feeds.length p.c1, .slice p.a2 s.brks.length p.c2, .slice p.a3 s.loops.length p.c3, .slice p.a4 s.racks.length p.c4, .int .i64 s.sw, .slice p.a5 s.links.length p.c5, .slice p.a6 s.hosts.length p.c6] 29) := ⟨_, rfl⟩
  have B0 : Below w.heap.size w W := by subst hW; exact (Below.refl _ _).alloc (Nat.le_refl _) _
  have HB0 := Lib.hid B0
  have HX := Lib.hid (show SiBox W w.heap.size p s by subst hW; exact siBox_new _ _ _)
  have HA := Lib.hid (h.on B0 (Nat.le_refl _))
  have HF := Lib.hid (fun (X : World) (hX : Below W.heap.size W X) => (let z := HX.out.on hX (Nat.le_refl _); ⟨z.c0, z.c1, z.c2, z.c3, z.c4, z.c5, z.c6⟩ : X.cell? ⟨w.heap.size, 0, none⟩ = some (.slice p.a1 s.feeds.length p.c1) ∧ X.cell? ⟨w.heap.size, 1, none⟩ = some (.slice p.a2 s.brks.length p.c2) ∧ X.cell? ⟨w.heap.size, 2, none⟩ = some (.slice p.a3 s.loops.length p.c3) ∧ X.cell? ⟨w.heap.size, 3, none⟩ = some (.slice p.a4 s.racks.length p.c4) ∧ X.cell? ⟨w.heap.size, 4, none⟩ = some (.int .i64 s.sw) ∧ X.cell? ⟨w.heap.size, 5, none⟩ = some (.slice p.a5 s.links.length p.c5) ∧ X.cell? ⟨w.heap.size, 6, none⟩ = some (.slice p.a6 s.hosts.length p.c6)))
  have m1 := h.feeds.1; have m2 := h.brks.1; have m3 := h.loops.1; have m4 := h.racks.1; have m5 := h.links.1; have m6 := h.hosts.1
  have n1 := h.feeds.2.1; have n2 := h.brks.2.1; have n3 := h.loops.2.1; have n4 := h.racks.2.1; have n5 := h.links.2.1; have n6 := h.hosts.2.1
  unfold maxLen at n1 n2 n3 n4 n5 n6
  have KW := Lib.hid (Below.refl W.heap.size W)
  have hlw : w.heap.size < W.heap.size := HX.out.lt
  clear B0 h
  obtain ⟨f0, f1, f2, f3, f4, f5, f6⟩ := HF.out W KW.out
  rw [hW] at f0 f1 f2 f3 f4 f5 f6
  go_enter Try.func17, Try.ntmps17
  go_wp2_with (fail)
  rw [← hW]
  clear hW f0 f1 f2 f3 f4 f5 f6
  go_at_call 37
  refine (HV.out W HA.out).mono ?_
  rintro e w1 ⟨bs, bt, rfl, hb1, ha1, hr1, b1⟩
  have K1 := Lib.hid b1
  have HB1 := Lib.hid hb1
  have HA1 := Lib.hid ha1
  have HR1 := Lib.hid hr1
  clear b1 hb1 ha1 hr1
  go_wp2_with (fail)
  go_at_call 23
  refine (c_isIndex n (s.feeds.length : Int) true HIX.out w1).mono ?_
  rintro e w2 ⟨rfl, b2⟩
  have K2 := Lib.hid (below_join K1.out b2 K1.out.size)
  have KK := Lib.hid b2
  clear b2
  have HB2 := Lib.hid (HB1.out.on KK.out (Nat.le_refl _))
  have HA2 := Lib.hid (HA1.out.on KK.out (Nat.le_refl _))
  have HR2 := Lib.hid (HR1.out.on KK.out (Nat.le_refl _))
  have HC := Lib.hid (fun (k : Nat) (hk : k < s.hosts.length) (X : World) (hb : SiBox X bs p s) (ha : SiAt X p s) (hr : RkBox X bt bs) (hsok : SiteOk s) => (show Calls Try.prog 50 #[.int .i64 (k : Int), .pointer (some ⟨bs, 0, none⟩), .pointer (some ⟨bt, 0, none⟩)] X fun e w' => e = .returned (.int .i64 (feedAt s k)) ∧ Below X.heap.size X w' from c_dom5 bs bt p s hsok k hk X hb ha hr))
  obtain ⟨i1, hi1, hz1, hz2, hz3⟩ := info_parts int_info
  obtain ⟨f0, f1, f2, f3, f4, f5, f6⟩ := HF.out w2 K2.out
  go_wp2_with (fail)
  clear f0 f1 f2 f3 f4 f5 f6
  go_loopw [9, 24] (fun v i wr => ∃ k : Nat, k ≤ s.hosts.length ∧ i = .int .i64 (k : Int) ∧ Hid (Below w2.heap.size w2 wr) ∧ Hid (wr.ownsRow w2.heap.size 3 1 v (nats ((List.range k).filter (fun h => domAt s h 4 == n))).length (ints (nats ((List.range k).filter (fun h => domAt s h 4 == n)))))) (fun _ i _ => s.hosts.length - (intOf i).toNat)
  case atStart => exact ⟨0, Nat.zero_le _, rfl, Lib.hid (Below.refl _ _), Lib.hid (World.ownsRow_nil _ _ _ _)⟩
  case round =>
    obtain ⟨k, hk, rfl, hB, ho⟩ := hrel
    have hki : ((k : Nat) : Int).toNat = k := by omega
    by_cases hlt : k < s.hosts.length
    · have hkl : (k : Int) < (s.hosts.length : Int) := by omega
      have hln : (nats ((List.range k).filter (fun h => domAt s h 4 == n))).length ≤ 16 := by rw [nats_len]; exact Nat.le_trans (List.length_filter_le _ _) (by rw [List.length_range]; omega)
      obtain ⟨nn, hnn⟩ : ∃ m, m = (nats ((List.range k).filter (fun h => domAt s h 4 == n))).length := ⟨_, rfl⟩
      obtain ⟨x, hx⟩ : ∃ x, x = (feedAt s k) := ⟨_, rfl⟩
      rw [← hnn] at ho hln
      have HNN := Lib.hid hnn
      have HXX := Lib.hid (show domAt s k 4 = x from hx.symm)
      have HC1 := Lib.hid (show Calls Try.prog 50 #[.int .i64 (k : Int), .pointer (some ⟨bs, 0, none⟩), .pointer (some ⟨bt, 0, none⟩)] wr fun e w' => e = .returned (.int .i64 x) ∧ Below wr.heap.size wr w' from (HC.out k hlt wr (HB2.out.on hB.out (Nat.le_refl _)) (HA2.out.on hB.out (Nat.le_refl _)) (HR2.out.on hB.out (Nat.le_refl _)) HSOK.out).mono (fun e w' h => ⟨by rw [hx]; exact h.1, h.2⟩))
      obtain ⟨As, cs, rfl⟩ := own_shape ho.out
      have hz3' := hB.out.size
      clear hnn hx
      go_wp2_with (fail)
      go_at_call 50
      refine HC1.out.mono ?_
      rintro e wz ⟨rfl, bz⟩
      have HBz := Lib.hid (below_join hB.out bz hB.out.size)
      have HOz := Lib.hid (own_on ho.out bz (Nat.le_refl _))
      have hz4 := bz.size
      clear bz
      rcases hf : (x == n) with _ | _
      · have HO := Lib.hid (show wz.ownsRow w2.heap.size 3 1 (.slice As nn cs) (nats ((List.range (k + 1)).filter (fun h => domAt s h 4 == n))).length (ints (nats ((List.range (k + 1)).filter (fun h => domAt s h 4 == n)))) by
          rw [range_filter, show (domAt s k 4 == n) = false by rw [HXX.out]; exact hf]
          simp only [Bool.false_eq_true, if_false, List.append_nil]
          rw [← HNN.out]; exact HOz.out)
        go_wp2_with (fail)
        go_roundw
        case rel => exact ⟨k + 1, by omega, by go_num, HBz, HO⟩
        case measure => simp only [intOf]; omega
      · have HFF := Lib.hid hf
        go_wp2_with (at_builtin; refine wpList_append_lies _ rfl _ _ 37 rfl w2.heap.size 3 i1 (.int .i64 0) 1 8 Try.underlying37 hi1 hz1 hz2 hz3 rfl (by decide) (.slice As nn cs) nn _ rfl (HOz.out.alloc _) ⟨wz.heap.size, 0, none⟩ 1 1 [.int .i64 (k : Int)] rfl rfl (World.news_of_block (heap_alloc_new _ _)) (by simp [Value.oneCell']) (by decide) (by unfold maxLen; omega) (by omega) (by simp; omega) (wz.heap.size + 1) (by simp) ?_; intro g4 cap4 Z hown hgrow _ _; have HBZ := Lib.hid ((HBz.out.alloc HBz.out.size _).grown hgrow (by simp; omega) (fun k hk => (ownsRow_lt HOz.out hk).1)); have HOZ := Lib.hid hown; clear hown hgrow)
        have HO := Lib.hid (show Z.ownsRow w2.heap.size 3 1 (.slice (some ⟨g4, 0, none⟩) (nn + 1) cap4) (nats ((List.range (k + 1)).filter (fun h => domAt s h 4 == n))).length (ints (nats ((List.range (k + 1)).filter (fun h => domAt s h 4 == n)))) by
          rw [range_filter, show (domAt s k 4 == n) = true by rw [HXX.out]; exact HFF.out]
          simp only [if_true]
          rw [show nats (((List.range k).filter (fun h => domAt s h 4 == n)) ++ [k]) = (nats ((List.range k).filter (fun h => domAt s h 4 == n))) ++ [(k : Int)] by simp [nats], List.length_append, List.length_singleton, ← HNN.out, ints_snoc]
          exact HOZ.out)
        go_roundw
        case rel => exact ⟨k + 1, by omega, by go_num, HBZ, HO⟩
        case measure => simp only [intOf]; omega
    · obtain rfl : k = s.hosts.length := by omega
      go_wp2_with (fail)
      go_ret
      exact ⟨_, rfl, own_mono ho.out (Nat.le_trans HB0.out.size K2.out.size), below_join HB0.out (below_join K2.out hB.out K2.out.size) HB0.out.size⟩
set_option maxHeartbeats 16000000 in
theorem c_mem5 (p : SP) (s : SiteD) (hok : siteOk s = true) (n : Int) (hix : ixB n (s.loops.length : Int) = true) (w : World) (h : SiAt w p s) :
    Calls Try.prog 17 #[siV p s, .int .u8 5, .int .i64 n] w fun e w' => ∃ v, e = .returned v ∧ w'.ownsRow w.heap.size 3 1 v (nats ((List.range s.hosts.length).filter (fun h => domAt s h 5 == n))).length (ints (nats ((List.range s.hosts.length).filter (fun h => domAt s h 5 == n)))) ∧ Below w.heap.size w w' := by
  have hsok := siteOk_iff.1 hok
  have hnh := hsok.nhosts
  have HV := Lib.hid (fun (X : World) (hX : SiAt X p s) => c_doms5 p s hok X hX)
  have HSOK := Lib.hid hsok
  have HIX := Lib.hid hix
  unfold siV at HV
  clear hok hsok hix
  unfold siV
  obtain ⟨W, hW⟩ : ∃ W, W = w.alloc (.cells #[.slice p.a1 s.feeds.length p.c1, .slice p.a2 s.brks.length p.c2, .slice p.a3 s.loops.length p.c3, .slice p.a4 s.racks.length p.c4, .int .i64 s.sw, .slice p.a5 s.links.length p.c5, .slice p.a6 s.hosts.length p.c6] 29) := ⟨_, rfl⟩
  have B0 : Below w.heap.size w W := by subst hW; exact (Below.refl _ _).alloc (Nat.le_refl _) _
  have HB0 := Lib.hid B0
  have HX := Lib.hid (show SiBox W w.heap.size p s by subst hW; exact siBox_new _ _ _)
  have HA := Lib.hid (h.on B0 (Nat.le_refl _))
  have HF := Lib.hid (fun (X : World) (hX : Below W.heap.size W X) => (let z := HX.out.on hX (Nat.le_refl _); ⟨z.c0, z.c1, z.c2, z.c3, z.c4, z.c5, z.c6⟩ : X.cell? ⟨w.heap.size, 0, none⟩ = some (.slice p.a1 s.feeds.length p.c1) ∧ X.cell? ⟨w.heap.size, 1, none⟩ = some (.slice p.a2 s.brks.length p.c2) ∧ X.cell? ⟨w.heap.size, 2, none⟩ = some (.slice p.a3 s.loops.length p.c3) ∧ X.cell? ⟨w.heap.size, 3, none⟩ = some (.slice p.a4 s.racks.length p.c4) ∧ X.cell? ⟨w.heap.size, 4, none⟩ = some (.int .i64 s.sw) ∧ X.cell? ⟨w.heap.size, 5, none⟩ = some (.slice p.a5 s.links.length p.c5) ∧ X.cell? ⟨w.heap.size, 6, none⟩ = some (.slice p.a6 s.hosts.length p.c6)))
  have m1 := h.feeds.1; have m2 := h.brks.1; have m3 := h.loops.1; have m4 := h.racks.1; have m5 := h.links.1; have m6 := h.hosts.1
  have n1 := h.feeds.2.1; have n2 := h.brks.2.1; have n3 := h.loops.2.1; have n4 := h.racks.2.1; have n5 := h.links.2.1; have n6 := h.hosts.2.1
  unfold maxLen at n1 n2 n3 n4 n5 n6
  have KW := Lib.hid (Below.refl W.heap.size W)
  have hlw : w.heap.size < W.heap.size := HX.out.lt
  clear B0 h
  obtain ⟨f0, f1, f2, f3, f4, f5, f6⟩ := HF.out W KW.out
  rw [hW] at f0 f1 f2 f3 f4 f5 f6
  go_enter Try.func17, Try.ntmps17
  go_wp2_with (fail)
  rw [← hW]
  clear hW f0 f1 f2 f3 f4 f5 f6
  go_at_call 37
  refine (HV.out W HA.out).mono ?_
  rintro e w1 ⟨bs, bt, rfl, hb1, ha1, hr1, b1⟩
  have K1 := Lib.hid b1
  have HB1 := Lib.hid hb1
  have HA1 := Lib.hid ha1
  have HR1 := Lib.hid hr1
  clear b1 hb1 ha1 hr1
  go_wp2_with (fail)
  go_at_call 23
  refine (c_isIndex n (s.loops.length : Int) true HIX.out w1).mono ?_
  rintro e w2 ⟨rfl, b2⟩
  have K2 := Lib.hid (below_join K1.out b2 K1.out.size)
  have KK := Lib.hid b2
  clear b2
  have HB2 := Lib.hid (HB1.out.on KK.out (Nat.le_refl _))
  have HA2 := Lib.hid (HA1.out.on KK.out (Nat.le_refl _))
  have HR2 := Lib.hid (HR1.out.on KK.out (Nat.le_refl _))
  have HC := Lib.hid (fun (k : Nat) (hk : k < s.hosts.length) (X : World) (hb : SiBox X bs p s) (ha : SiAt X p s) (hr : RkBox X bt bs) (hsok : SiteOk s) => (show Calls Try.prog 51 #[.int .i64 (k : Int), .pointer (some ⟨bt, 0, none⟩)] X fun e w' => e = .returned (.int .i64 (rkAt s k).loop) ∧ Below X.heap.size X w' from c_dom6 bs bt p s hsok k hk X hb ha hr))
  obtain ⟨i1, hi1, hz1, hz2, hz3⟩ := info_parts int_info
  obtain ⟨f0, f1, f2, f3, f4, f5, f6⟩ := HF.out w2 K2.out
  go_wp2_with (fail)
  clear f0 f1 f2 f3 f4 f5 f6
  go_loopw [9, 24] (fun v i wr => ∃ k : Nat, k ≤ s.hosts.length ∧ i = .int .i64 (k : Int) ∧ Hid (Below w2.heap.size w2 wr) ∧ Hid (wr.ownsRow w2.heap.size 3 1 v (nats ((List.range k).filter (fun h => domAt s h 5 == n))).length (ints (nats ((List.range k).filter (fun h => domAt s h 5 == n)))))) (fun _ i _ => s.hosts.length - (intOf i).toNat)
  case atStart => exact ⟨0, Nat.zero_le _, rfl, Lib.hid (Below.refl _ _), Lib.hid (World.ownsRow_nil _ _ _ _)⟩
  case round =>
    obtain ⟨k, hk, rfl, hB, ho⟩ := hrel
    have hki : ((k : Nat) : Int).toNat = k := by omega
    by_cases hlt : k < s.hosts.length
    · have hkl : (k : Int) < (s.hosts.length : Int) := by omega
      have hln : (nats ((List.range k).filter (fun h => domAt s h 5 == n))).length ≤ 16 := by rw [nats_len]; exact Nat.le_trans (List.length_filter_le _ _) (by rw [List.length_range]; omega)
      obtain ⟨nn, hnn⟩ : ∃ m, m = (nats ((List.range k).filter (fun h => domAt s h 5 == n))).length := ⟨_, rfl⟩
      obtain ⟨x, hx⟩ : ∃ x, x = (rkAt s k).loop := ⟨_, rfl⟩
      rw [← hnn] at ho hln
      have HNN := Lib.hid hnn
      have HXX := Lib.hid (show domAt s k 5 = x from hx.symm)
      have HC1 := Lib.hid (show Calls Try.prog 51 #[.int .i64 (k : Int), .pointer (some ⟨bt, 0, none⟩)] wr fun e w' => e = .returned (.int .i64 x) ∧ Below wr.heap.size wr w' from (HC.out k hlt wr (HB2.out.on hB.out (Nat.le_refl _)) (HA2.out.on hB.out (Nat.le_refl _)) (HR2.out.on hB.out (Nat.le_refl _)) HSOK.out).mono (fun e w' h => ⟨by rw [hx]; exact h.1, h.2⟩))
      obtain ⟨As, cs, rfl⟩ := own_shape ho.out
      have hz3' := hB.out.size
      clear hnn hx
      go_wp2_with (fail)
      go_at_call 51
      refine HC1.out.mono ?_
      rintro e wz ⟨rfl, bz⟩
      have HBz := Lib.hid (below_join hB.out bz hB.out.size)
      have HOz := Lib.hid (own_on ho.out bz (Nat.le_refl _))
      have hz4 := bz.size
      clear bz
      rcases hf : (x == n) with _ | _
      · have HO := Lib.hid (show wz.ownsRow w2.heap.size 3 1 (.slice As nn cs) (nats ((List.range (k + 1)).filter (fun h => domAt s h 5 == n))).length (ints (nats ((List.range (k + 1)).filter (fun h => domAt s h 5 == n)))) by
          rw [range_filter, show (domAt s k 5 == n) = false by rw [HXX.out]; exact hf]
          simp only [Bool.false_eq_true, if_false, List.append_nil]
          rw [← HNN.out]; exact HOz.out)
        go_wp2_with (fail)
        go_roundw
        case rel => exact ⟨k + 1, by omega, by go_num, HBz, HO⟩
        case measure => simp only [intOf]; omega
      · have HFF := Lib.hid hf
        go_wp2_with (at_builtin; refine wpList_append_lies _ rfl _ _ 37 rfl w2.heap.size 3 i1 (.int .i64 0) 1 8 Try.underlying37 hi1 hz1 hz2 hz3 rfl (by decide) (.slice As nn cs) nn _ rfl (HOz.out.alloc _) ⟨wz.heap.size, 0, none⟩ 1 1 [.int .i64 (k : Int)] rfl rfl (World.news_of_block (heap_alloc_new _ _)) (by simp [Value.oneCell']) (by decide) (by unfold maxLen; omega) (by omega) (by simp; omega) (wz.heap.size + 1) (by simp) ?_; intro g4 cap4 Z hown hgrow _ _; have HBZ := Lib.hid ((HBz.out.alloc HBz.out.size _).grown hgrow (by simp; omega) (fun k hk => (ownsRow_lt HOz.out hk).1)); have HOZ := Lib.hid hown; clear hown hgrow)
        have HO := Lib.hid (show Z.ownsRow w2.heap.size 3 1 (.slice (some ⟨g4, 0, none⟩) (nn + 1) cap4) (nats ((List.range (k + 1)).filter (fun h => domAt s h 5 == n))).length (ints (nats ((List.range (k + 1)).filter (fun h => domAt s h 5 == n)))) by
          rw [range_filter, show (domAt s k 5 == n) = true by rw [HXX.out]; exact HFF.out]
          simp only [if_true]
          rw [show nats (((List.range k).filter (fun h => domAt s h 5 == n)) ++ [k]) = (nats ((List.range k).filter (fun h => domAt s h 5 == n))) ++ [(k : Int)] by simp [nats], List.length_append, List.length_singleton, ← HNN.out, ints_snoc]
          exact HOZ.out)
        go_roundw
        case rel => exact ⟨k + 1, by omega, by go_num, HBZ, HO⟩
        case measure => simp only [intOf]; omega
    · obtain rfl : k = s.hosts.length := by omega
      go_wp2_with (fail)
      go_ret
      exact ⟨_, rfl, own_mono ho.out (Nat.le_trans HB0.out.size K2.out.size), below_join HB0.out (below_join K2.out hB.out K2.out.size) HB0.out.size⟩
theorem c_Members (p : SP) (s : SiteD) (d : Nat) (hd : d < 256) (n : Int) (w : World) (h : SiAt w p s) :
    Calls Try.prog 17 #[siV p s, .int .u8 (d : Int), .int .i64 n] w fun e w' => ∃ v, e = .returned v ∧ w'.ownsRow w.heap.size 3 1 v (memD s d n).length (ints (memD s d n)) ∧ Below w.heap.size w w' := by
  rcases hix : ixB n (cntD s d) with _ | _
  · exact c_memNeg p s d n w h (fun X hX => c_doms p s d hd X hX) hix
  · have hm : memD s d n = nats ((List.range s.hosts.length).filter (fun h => domAt s h d == n)) := by unfold memD; rw [hix]; rfl
    rw [hm]
    rcases hok : siteOk s with _ | _
    · exfalso
      have := ixB_iff.1 hix
      unfold cntD at this
      rw [hok] at this
      simp at this
      omega
    · have hc : cntD s d = cntOf s d := by unfold cntD; rw [hok]; rfl
      rw [hc] at hix
      by_cases hno : 1 ≤ d ∧ d ≤ 5
      · rcases (by omega : d = 1 ∨ d = 2 ∨ d = 3 ∨ d = 4 ∨ d = 5) with rfl | rfl | rfl | rfl | rfl
        · exact c_mem1 p s hok n hix w h
        · exact c_mem2 p s hok n hix w h
        · exact c_mem3 p s hok n hix w h
        · exact c_mem4 p s hok n hix w h
        · exact c_mem5 p s hok n hix w h
      · exfalso
        have h0 : cntOf s d = 0 := by unfold cntOf; split <;> first | rfl | (exfalso; omega)
        rw [h0] at hix
        have := ixB_iff.1 hix
        omega
end Go.Proofs.Ytoknombajocjlaa
