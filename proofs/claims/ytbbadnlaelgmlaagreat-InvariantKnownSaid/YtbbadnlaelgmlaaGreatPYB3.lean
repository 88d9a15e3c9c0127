/-
  DERIVED. Several texts in one.
-/
import Derived.Test.YtbbadnlaelgmlaaGreatPYA2
import Derived.Test.YtbbadnlaelgmlaaGreatPYB2
import Derived.Test.YtbbadnlaelgmlaaGreatPYV51
import Derived.Test.YtbbadnlaelgmlaaGreatPYV61
import Derived.Laws.AppendOwn
import Derived.Test.YtbbadnlaelgmlaaGreatPYN1
import Derived.WalkMore
set_option linter.unusedVariables false
set_option linter.unusedSimpArgs false

namespace Go.Proofs.YtbbadnlaelgmlaaGreat
open Go.RowKit
set_option maxRecDepth 100000
set_option linter.unusedVariables false
set_option linter.unusedSimpArgs false

set_option maxHeartbeats 8000000 in
theorem c_memNeg (p : SP) (s : SiteD) (d : Nat) (n : Int) (w : World) (h : SiAt w p s) (hd : ∀ X : World, SiAt X p s → Calls Tryz.prog 127 #[siV p s, .int .u8 (d : Int)] X fun e w' => (∃ f, e = .returned (.tuple #[.int .i64 (cntD s d), f])) ∧ Below X.heap.size X w') (hn : ixB n (cntD s d) = false) :
    Calls Tryz.prog 141 #[siV p s, .int .u8 (d : Int), .int .i64 n] w fun e w' => ∃ v, e = .returned v ∧ w'.ownsRow w.heap.size 3 1 v (memD s d n).length (ints (memD s d n)) ∧ Below w.heap.size w w' := by
  have HV := Lib.hid hd
  have HM := Lib.hid (show memD s d n = [] by unfold memD; rw [hn]; rfl)
  have HN := Lib.hid hn
  clear hd hn
  unfold siV at HV
  rw [HM.out]
  unfold siV
  obtain ⟨W, hW⟩ : ∃ W, W = w.alloc (.cells #[.slice p.a1 s.feeds.length p.c1, .slice p.a2 s.brks.length p.c2, .slice p.a3 s.loops.length p.c3, .slice p.a4 s.racks.length p.c4, .int .i64 s.sw, .slice p.a5 s.links.length p.c5, .slice p.a6 s.hosts.length p.c6] 29) := ⟨_, rfl⟩
  have B0 : Below w.heap.size w W := by subst hW; exact (Below.refl _ _).alloc (Nat.le_refl _) _
  have HB0 := Lib.hid B0
  have HX := Lib.hid (show SiBox W w.heap.size p s by subst hW; exact siBox_new _ _ _)
  have HA := Lib.hid (h.on B0 (Nat.le_refl _))
  have HF := Lib.hid (fun (X : World) (hX : Below W.heap.size W X) => (let z := HX.out.on hX (Nat.le_refl _); ⟨z.c0, z.c1, z.c2, z.c3, z.c4, z.c5, z.c6⟩ : X.cell? ⟨w.heap.size, 0, none⟩ = some (.slice p.a1 s.feeds.length p.c1) ∧ X.cell? ⟨w.heap.size, 1, none⟩ = some (.slice p.a2 s.brks.length p.c2) ∧ X.cell? ⟨w.heap.size, 2, none⟩ = some (.slice p.a3 s.loops.length p.c3) ∧ X.cell? ⟨w.heap.size, 3, none⟩ = some (.slice p.a4 s.racks.length p.c4) ∧ X.cell? ⟨w.heap.size, 4, none⟩ = some (.int .i64 s.sw) ∧ X.cell? ⟨w.heap.size, 5, none⟩ = some (.slice p.a5 s.links.length p.c5) ∧ X.cell? ⟨w.heap.size, 6, none⟩ = some (.slice p.a6 s.hosts.length p.c6)))
  have m1 := h.feeds.1; have m2 := h.brks.1; have m3 := h.loops.1; have m4 := h.racks.1; have m5 := h.links.1; have m6 := h.hosts.1
  have n1 := h.feeds.2.1; have n2 := h.brks.2.1; have n3 := h.loops.2.1; have n4 := h.racks.2.1; have n5 := h.links.2.1; have n6 := h.hosts.2.1
  unfold maxLen at n1 n2 n3 n4 n5 n6
  have KW := Lib.hid (Below.refl W.heap.size W)
  have hlw : w.heap.size < W.heap.size := HX.out.lt
  clear B0 h
  obtain ⟨f0, f1, f2, f3, f4, f5, f6⟩ := HF.out W KW.out
  rw [hW] at f0 f1 f2 f3 f4 f5 f6
  go_enter Tryz.func141, Tryz.ntmps141
  go_wp2_with (fail)
  rw [← hW]
  clear hW f0 f1 f2 f3 f4 f5 f6
  go_at_call 127
  refine (HV.out W HA.out).mono ?_
  rintro e w1 ⟨⟨f, rfl⟩, b1⟩
  have K1 := Lib.hid b1
  clear b1
  obtain ⟨cc, hcc⟩ : ∃ c, cntD s d = c := ⟨_, rfl⟩
  rw [hcc] at HN ⊢
  go_wp2_with (fail)
  go_at_call 77
  refine (c_isIndex n cc false HN.out w1).mono ?_
  rintro e w2 ⟨rfl, b2⟩
  have K2 := Lib.hid (below_join K1.out b2 K1.out.size)
  clear b2
  go_wp2_with (fail)
  go_ret
  exact ⟨_, rfl, World.ownsRow_nil _ _ _ _, below_join HB0.out K2.out HB0.out.size⟩
set_option maxHeartbeats 16000000 in
theorem c_mem1 (p : SP) (s : SiteD) (hok : siteOk s = true) (n : Int) (hix : ixB n (s.hosts.length : Int) = true) (w : World) (h : SiAt w p s) :
    Calls Tryz.prog 141 #[siV p s, .int .u8 1, .int .i64 n] w fun e w' => ∃ v, e = .returned v ∧ w'.ownsRow w.heap.size 3 1 v (nats ((List.range s.hosts.length).filter (fun h => domAt s h 1 == n))).length (ints (nats ((List.range s.hosts.length).filter (fun h => domAt s h 1 == n)))) ∧ Below w.heap.size w w' := by
  have hsok := siteOk_iff.1 hok
  have hnh := hsok.nhosts
  have HV := Lib.hid (fun (X : World) (hX : SiAt X p s) => c_doms1 p s hok X hX)
  have HSOK := Lib.hid hsok
  have HIX := Lib.hid hix
  unfold siV at HV
  clear hok hsok hix
  unfold siV
  obtain ⟨W, hW⟩ : ∃ W, W = w.alloc (.cells #[.slice p.a1 s.feeds.length p.c1, .slice p.a2 s.brks.length p.c2, .slice p.a3 s.loops.length p.c3, .slice p.a4 s.racks.length p.c4, .int .i64 s.sw, .slice p.a5 s.links.length p.c5, .slice p.a6 s.hosts.length p.c6] 29) := ⟨_, rfl⟩
  have B0 : Below w.heap.size w W := by subst hW; exact (Below.refl _ _).alloc (Nat.le_refl _) _
  have HB0 := Lib.hid B0
  have HX := Lib.hid (show SiBox W w.heap.size p s by subst hW; exact siBox_new _ _ _)
  have HA := Lib.hid (h.on B0 (Nat.le_refl _))
  have HF := Lib.hid (fun (X : World) (hX : Below W.heap.size W X) => (let z := HX.out.on hX (Nat.le_refl _); ⟨z.c0, z.c1, z.c2, z.c3, z.c4, z.c5, z.c6⟩ : X.cell? ⟨w.heap.size, 0, none⟩ = some (.slice p.a1 s.feeds.length p.c1) ∧ X.cell? ⟨w.heap.size, 1, none⟩ = some (.slice p.a2 s.brks.length p.c2) ∧ X.cell? ⟨w.heap.size, 2, none⟩ = some (.slice p.a3 s.loops.length p.c3) ∧ X.cell? ⟨w.heap.size, 3, none⟩ = some (.slice p.a4 s.racks.length p.c4) ∧ X.cell? ⟨w.heap.size, 4, none⟩ = some (.int .i64 s.sw) ∧ X.cell? ⟨w.heap.size, 5, none⟩ = some (.slice p.a5 s.links.length p.c5) ∧ X.cell? ⟨w.heap.size, 6, none⟩ = some (.slice p.a6 s.hosts.length p.c6)))
  have m1 := h.feeds.1; have m2 := h.brks.1; have m3 := h.loops.1; have m4 := h.racks.1; have m5 := h.links.1; have m6 := h.hosts.1
  have n1 := h.feeds.2.1; have n2 := h.brks.2.1; have n3 := h.loops.2.1; have n4 := h.racks.2.1; have n5 := h.links.2.1; have n6 := h.hosts.2.1
  unfold maxLen at n1 n2 n3 n4 n5 n6
  have KW := Lib.hid (Below.refl W.heap.size W)
  have hlw : w.heap.size < W.heap.size := HX.out.lt
  clear B0 h
  obtain ⟨f0, f1, f2, f3, f4, f5, f6⟩ := HF.out W KW.out
  rw [hW] at f0 f1 f2 f3 f4 f5 f6
  go_enter Tryz.func141, Tryz.ntmps141
  go_wp2_with (fail)
  rw [← hW]
  clear hW f0 f1 f2 f3 f4 f5 f6
  go_at_call 127
  refine (HV.out W HA.out).mono ?_
  rintro e w1 ⟨bs, bt, rfl, hb1, ha1, hr1, b1⟩
  have K1 := Lib.hid b1
  have HB1 := Lib.hid hb1
  have HA1 := Lib.hid ha1
  have HR1 := Lib.hid hr1
  clear b1 hb1 ha1 hr1
  go_wp2_with (fail)
  go_at_call 77
  refine (c_isIndex n (s.hosts.length : Int) true HIX.out w1).mono ?_
  rintro e w2 ⟨rfl, b2⟩
  have K2 := Lib.hid (below_join K1.out b2 K1.out.size)
  have KK := Lib.hid b2
  clear b2
  have HB2 := Lib.hid (HB1.out.on KK.out (Nat.le_refl _))
  have HA2 := Lib.hid (HA1.out.on KK.out (Nat.le_refl _))
  have HR2 := Lib.hid (HR1.out.on KK.out (Nat.le_refl _))
  have HC := Lib.hid (fun (k : Nat) (hk : k < s.hosts.length) (X : World) (hb : SiBox X bs p s) (ha : SiAt X p s) (hr : RkBox X bt bs) (hsok : SiteOk s) => (show Calls Tryz.prog 152 #[.int .i64 (k : Int)] X fun e w' => e = .returned (.int .i64 (k : Int)) ∧ Below X.heap.size X w' from c_dom2 (k : Int) X))
  obtain ⟨i1, hi1, hz1, hz2, hz3⟩ := info_parts int_info
  obtain ⟨f0, f1, f2, f3, f4, f5, f6⟩ := HF.out w2 K2.out
  go_wp2_with (fail)
  clear f0 f1 f2 f3 f4 f5 f6
  go_loopw [9, 24] (fun v i wr => ∃ k : Nat, k ≤ s.hosts.length ∧ i = .int .i64 (k : Int) ∧ Hid (Below w2.heap.size w2 wr) ∧ Hid (wr.ownsRow w2.heap.size 3 1 v (nats ((List.range k).filter (fun h => domAt s h 1 == n))).length (ints (nats ((List.range k).filter (fun h => domAt s h 1 == n)))))) (fun _ i _ => s.hosts.length - (intOf i).toNat)
  case atStart => exact ⟨0, Nat.zero_le _, rfl, Lib.hid (Below.refl _ _), Lib.hid (World.ownsRow_nil _ _ _ _)⟩
  case round =>
    obtain ⟨k, hk, rfl, hB, ho⟩ := hrel
    have hki : ((k : Nat) : Int).toNat = k := by omega
    by_cases hlt : k < s.hosts.length
    · have hkl : (k : Int) < (s.hosts.length : Int) := by omega
      have hln : (nats ((List.range k).filter (fun h => domAt s h 1 == n))).length ≤ 16 := by rw [nats_len]; exact Nat.le_trans (List.length_filter_le _ _) (by rw [List.length_range]; omega)
      obtain ⟨nn, hnn⟩ : ∃ m, m = (nats ((List.range k).filter (fun h => domAt s h 1 == n))).length := ⟨_, rfl⟩
      obtain ⟨x, hx⟩ : ∃ x, x = (k : Int) := ⟨_, rfl⟩
      rw [← hnn] at ho hln
      have HNN := Lib.hid hnn
      have HXX := Lib.hid (show domAt s k 1 = x from hx.symm)
      have HC1 := Lib.hid (show Calls Tryz.prog 152 #[.int .i64 (k : Int)] wr fun e w' => e = .returned (.int .i64 x) ∧ Below wr.heap.size wr w' from (HC.out k hlt wr (HB2.out.on hB.out (Nat.le_refl _)) (HA2.out.on hB.out (Nat.le_refl _)) (HR2.out.on hB.out (Nat.le_refl _)) HSOK.out).mono (fun e w' h => ⟨by rw [hx]; exact h.1, h.2⟩))
      obtain ⟨As, cs, rfl⟩ := own_shape ho.out
      have hz3' := hB.out.size
      clear hnn hx
      go_wp2_with (fail)
      go_at_call 152
      refine HC1.out.mono ?_
      rintro e wz ⟨rfl, bz⟩
      have HBz := Lib.hid (below_join hB.out bz hB.out.size)
      have HOz := Lib.hid (own_on ho.out bz (Nat.le_refl _))
      have hz4 := bz.size
      clear bz
      rcases hf : (x == n) with _ | _
      · have HO := Lib.hid (show wz.ownsRow w2.heap.size 3 1 (.slice As nn cs) (nats ((List.range (k + 1)).filter (fun h => domAt s h 1 == n))).length (ints (nats ((List.range (k + 1)).filter (fun h => domAt s h 1 == n)))) by
          rw [range_filter, show (domAt s k 1 == n) = false by rw [HXX.out]; exact hf]
          simp only [Bool.false_eq_true, if_false, List.append_nil]
          rw [← HNN.out]; exact HOz.out)
        go_wp2_with (fail)
        go_roundw
        case rel => exact ⟨k + 1, by omega, by go_num, HBz, HO⟩
        case measure => simp only [intOf]; omega
      · have HFF := Lib.hid hf
        go_wp2_with (at_builtin; refine wpList_append_lies _ rfl _ _ 91 rfl w2.heap.size 3 i1 (.int .i64 0) 1 8 Tryz.underlying91 hi1 hz1 hz2 hz3 rfl (by decide) (.slice As nn cs) nn _ rfl (HOz.out.alloc _) ⟨wz.heap.size, 0, none⟩ 1 1 [.int .i64 (k : Int)] rfl rfl (World.news_of_block (heap_alloc_new _ _)) (by simp [Value.oneCell']) (by decide) (by unfold maxLen; omega) (by omega) (by simp; omega) (wz.heap.size + 1) (by simp) ?_; intro g4 cap4 Z hown hgrow _ _; have HBZ := Lib.hid ((HBz.out.alloc HBz.out.size _).grown hgrow (by simp; omega) (fun k hk => (ownsRow_lt HOz.out hk).1)); have HOZ := Lib.hid hown; clear hown hgrow)
        have HO := Lib.hid (show Z.ownsRow w2.heap.size 3 1 (.slice (some ⟨g4, 0, none⟩) (nn + 1) cap4) (nats ((List.range (k + 1)).filter (fun h => domAt s h 1 == n))).length (ints (nats ((List.range (k + 1)).filter (fun h => domAt s h 1 == n)))) by
          rw [range_filter, show (domAt s k 1 == n) = true by rw [HXX.out]; exact HFF.out]
          simp only [if_true]
          rw [show nats (((List.range k).filter (fun h => domAt s h 1 == n)) ++ [k]) = (nats ((List.range k).filter (fun h => domAt s h 1 == n))) ++ [(k : Int)] by simp [nats], List.length_append, List.length_singleton, ← HNN.out, ints_snoc]
          exact HOZ.out)
        go_roundw
        case rel => exact ⟨k + 1, by omega, by go_num, HBZ, HO⟩
        case measure => simp only [intOf]; omega
    · obtain rfl : k = s.hosts.length := by omega
      go_wp2_with (fail)
      go_ret
      exact ⟨_, rfl, own_mono ho.out (Nat.le_trans HB0.out.size K2.out.size), below_join HB0.out (below_join K2.out hB.out K2.out.size) HB0.out.size⟩
set_option maxHeartbeats 16000000 in
theorem c_mem2 (p : SP) (s : SiteD) (hok : siteOk s = true) (n : Int) (hix : ixB n (s.racks.length : Int) = true) (w : World) (h : SiAt w p s) :
    Calls Tryz.prog 141 #[siV p s, .int .u8 2, .int .i64 n] w fun e w' => ∃ v, e = .returned v ∧ w'.ownsRow w.heap.size 3 1 v (nats ((List.range s.hosts.length).filter (fun h => domAt s h 2 == n))).length (ints (nats ((List.range s.hosts.length).filter (fun h => domAt s h 2 == n)))) ∧ Below w.heap.size w w' := by
  have hsok := siteOk_iff.1 hok
  have hnh := hsok.nhosts
  have HV := Lib.hid (fun (X : World) (hX : SiAt X p s) => c_doms2 p s hok X hX)
  have HSOK := Lib.hid hsok
  have HIX := Lib.hid hix
  unfold siV at HV
  clear hok hsok hix
  unfold siV
  obtain ⟨W, hW⟩ : ∃ W, W = w.alloc (.cells #[.slice p.a1 s.feeds.length p.c1, .slice p.a2 s.brks.length p.c2, .slice p.a3 s.loops.length p.c3, .slice p.a4 s.racks.length p.c4, .int .i64 s.sw, .slice p.a5 s.links.length p.c5, .slice p.a6 s.hosts.length p.c6] 29) := ⟨_, rfl⟩
  have B0 : Below w.heap.size w W := by subst hW; exact (Below.refl _ _).alloc (Nat.le_refl _) _
  have HB0 := Lib.hid B0
  have HX := Lib.hid (show SiBox W w.heap.size p s by subst hW; exact siBox_new _ _ _)
  have HA := Lib.hid (h.on B0 (Nat.le_refl _))
  have HF := Lib.hid (fun (X : World) (hX : Below W.heap.size W X) => (let z := HX.out.on hX (Nat.le_refl _); ⟨z.c0, z.c1, z.c2, z.c3, z.c4, z.c5, z.c6⟩ : X.cell? ⟨w.heap.size, 0, none⟩ = some (.slice p.a1 s.feeds.length p.c1) ∧ X.cell? ⟨w.heap.size, 1, none⟩ = some (.slice p.a2 s.brks.length p.c2) ∧ X.cell? ⟨w.heap.size, 2, none⟩ = some (.slice p.a3 s.loops.length p.c3) ∧ X.cell? ⟨w.heap.size, 3, none⟩ = some (.slice p.a4 s.racks.length p.c4) ∧ X.cell? ⟨w.heap.size, 4, none⟩ = some (.int .i64 s.sw) ∧ X.cell? ⟨w.heap.size, 5, none⟩ = some (.slice p.a5 s.links.length p.c5) ∧ X.cell? ⟨w.heap.size, 6, none⟩ = some (.slice p.a6 s.hosts.length p.c6)))
  have m1 := h.feeds.1; have m2 := h.brks.1; have m3 := h.loops.1; have m4 := h.racks.1; have m5 := h.links.1; have m6 := h.hosts.1
  have n1 := h.feeds.2.1; have n2 := h.brks.2.1; have n3 := h.loops.2.1; have n4 := h.racks.2.1; have n5 := h.links.2.1; have n6 := h.hosts.2.1
  unfold maxLen at n1 n2 n3 n4 n5 n6
  have KW := Lib.hid (Below.refl W.heap.size W)
  have hlw : w.heap.size < W.heap.size := HX.out.lt
  clear B0 h
  obtain ⟨f0, f1, f2, f3, f4, f5, f6⟩ := HF.out W KW.out
  rw [hW] at f0 f1 f2 f3 f4 f5 f6
  go_enter Tryz.func141, Tryz.ntmps141
  go_wp2_with (fail)
  rw [← hW]
  clear hW f0 f1 f2 f3 f4 f5 f6
  go_at_call 127
  refine (HV.out W HA.out).mono ?_
  rintro e w1 ⟨bs, bt, rfl, hb1, ha1, hr1, b1⟩
  have K1 := Lib.hid b1
  have HB1 := Lib.hid hb1
  have HA1 := Lib.hid ha1
  have HR1 := Lib.hid hr1
  clear b1 hb1 ha1 hr1
  go_wp2_with (fail)
  go_at_call 77
  refine (c_isIndex n (s.racks.length : Int) true HIX.out w1).mono ?_
  rintro e w2 ⟨rfl, b2⟩
  have K2 := Lib.hid (below_join K1.out b2 K1.out.size)
  have KK := Lib.hid b2
  clear b2
  have HB2 := Lib.hid (HB1.out.on KK.out (Nat.le_refl _))
  have HA2 := Lib.hid (HA1.out.on KK.out (Nat.le_refl _))
  have HR2 := Lib.hid (HR1.out.on KK.out (Nat.le_refl _))
  have HC := Lib.hid (fun (k : Nat) (hk : k < s.hosts.length) (X : World) (hb : SiBox X bs p s) (ha : SiAt X p s) (hr : RkBox X bt bs) (hsok : SiteOk s) => (show Calls Tryz.prog 153 #[.int .i64 (k : Int), .pointer (some ⟨bs, 0, none⟩)] X fun e w' => e = .returned (.int .i64 (rackAt s k)) ∧ Below X.heap.size X w' from c_dom3 bs p s k hk X hb ha))
  obtain ⟨i1, hi1, hz1, hz2, hz3⟩ := info_parts int_info
  obtain ⟨f0, f1, f2, f3, f4, f5, f6⟩ := HF.out w2 K2.out
  go_wp2_with (fail)
  clear f0 f1 f2 f3 f4 f5 f6
  go_loopw [9, 24] (fun v i wr => ∃ k : Nat, k ≤ s.hosts.length ∧ i = .int .i64 (k : Int) ∧ Hid (Below w2.heap.size w2 wr) ∧ Hid (wr.ownsRow w2.heap.size 3 1 v (nats ((List.range k).filter (fun h => domAt s h 2 == n))).length (ints (nats ((List.range k).filter (fun h => domAt s h 2 == n)))))) (fun _ i _ => s.hosts.length - (intOf i).toNat)
  case atStart => exact ⟨0, Nat.zero_le _, rfl, Lib.hid (Below.refl _ _), Lib.hid (World.ownsRow_nil _ _ _ _)⟩
  case round =>
    obtain ⟨k, hk, rfl, hB, ho⟩ := hrel
    have hki : ((k : Nat) : Int).toNat = k := by omega
    by_cases hlt : k < s.hosts.length
    · have hkl : (k : Int) < (s.hosts.length : Int) := by omega
      have hln : (nats ((List.range k).filter (fun h => domAt s h 2 == n))).length ≤ 16 := by rw [nats_len]; exact Nat.le_trans (List.length_filter_le _ _) (by rw [List.length_range]; omega)
      obtain ⟨nn, hnn⟩ : ∃ m, m = (nats ((List.range k).filter (fun h => domAt s h 2 == n))).length := ⟨_, rfl⟩
      obtain ⟨x, hx⟩ : ∃ x, x = (rackAt s k) := ⟨_, rfl⟩
      rw [← hnn] at ho hln
      have HNN := Lib.hid hnn
      have HXX := Lib.hid (show domAt s k 2 = x from hx.symm)
      have HC1 := Lib.hid (show Calls Tryz.prog 153 #[.int .i64 (k : Int), .pointer (some ⟨bs, 0, none⟩)] wr fun e w' => e = .returned (.int .i64 x) ∧ Below wr.heap.size wr w' from (HC.out k hlt wr (HB2.out.on hB.out (Nat.le_refl _)) (HA2.out.on hB.out (Nat.le_refl _)) (HR2.out.on hB.out (Nat.le_refl _)) HSOK.out).mono (fun e w' h => ⟨by rw [hx]; exact h.1, h.2⟩))
      obtain ⟨As, cs, rfl⟩ := own_shape ho.out
      have hz3' := hB.out.size
      clear hnn hx
      go_wp2_with (fail)
      go_at_call 153
      refine HC1.out.mono ?_
      rintro e wz ⟨rfl, bz⟩
      have HBz := Lib.hid (below_join hB.out bz hB.out.size)
      have HOz := Lib.hid (own_on ho.out bz (Nat.le_refl _))
      have hz4 := bz.size
      clear bz
      rcases hf : (x == n) with _ | _
      · have HO := Lib.hid (show wz.ownsRow w2.heap.size 3 1 (.slice As nn cs) (nats ((List.range (k + 1)).filter (fun h => domAt s h 2 == n))).length (ints (nats ((List.range (k + 1)).filter (fun h => domAt s h 2 == n)))) by
          rw [range_filter, show (domAt s k 2 == n) = false by rw [HXX.out]; exact hf]
          simp only [Bool.false_eq_true, if_false, List.append_nil]
          rw [← HNN.out]; exact HOz.out)
        go_wp2_with (fail)
        go_roundw
        case rel => exact ⟨k + 1, by omega, by go_num, HBz, HO⟩
        case measure => simp only [intOf]; omega
      · have HFF := Lib.hid hf
        go_wp2_with (at_builtin; refine wpList_append_lies _ rfl _ _ 91 rfl w2.heap.size 3 i1 (.int .i64 0) 1 8 Tryz.underlying91 hi1 hz1 hz2 hz3 rfl (by decide) (.slice As nn cs) nn _ rfl (HOz.out.alloc _) ⟨wz.heap.size, 0, none⟩ 1 1 [.int .i64 (k : Int)] rfl rfl (World.news_of_block (heap_alloc_new _ _)) (by simp [Value.oneCell']) (by decide) (by unfold maxLen; omega) (by omega) (by simp; omega) (wz.heap.size + 1) (by simp) ?_; intro g4 cap4 Z hown hgrow _ _; have HBZ := Lib.hid ((HBz.out.alloc HBz.out.size _).grown hgrow (by simp; omega) (fun k hk => (ownsRow_lt HOz.out hk).1)); have HOZ := Lib.hid hown; clear hown hgrow)
        have HO := Lib.hid (show Z.ownsRow w2.heap.size 3 1 (.slice (some ⟨g4, 0, none⟩) (nn + 1) cap4) (nats ((List.range (k + 1)).filter (fun h => domAt s h 2 == n))).length (ints (nats ((List.range (k + 1)).filter (fun h => domAt s h 2 == n)))) by
          rw [range_filter, show (domAt s k 2 == n) = true by rw [HXX.out]; exact HFF.out]
          simp only [if_true]
          rw [show nats (((List.range k).filter (fun h => domAt s h 2 == n)) ++ [k]) = (nats ((List.range k).filter (fun h => domAt s h 2 == n))) ++ [(k : Int)] by simp [nats], List.length_append, List.length_singleton, ← HNN.out, ints_snoc]
          exact HOZ.out)
        go_roundw
        case rel => exact ⟨k + 1, by omega, by go_num, HBZ, HO⟩
        case measure => simp only [intOf]; omega
    · obtain rfl : k = s.hosts.length := by omega
      go_wp2_with (fail)
      go_ret
      exact ⟨_, rfl, own_mono ho.out (Nat.le_trans HB0.out.size K2.out.size), below_join HB0.out (below_join K2.out hB.out K2.out.size) HB0.out.size⟩
set_option maxHeartbeats 16000000 in
theorem c_mem3 (p : SP) (s : SiteD) (hok : siteOk s = true) (n : Int) (hix : ixB n 4 = true) (w : World) (h : SiAt w p s) :
    Calls Tryz.prog 141 #[siV p s, .int .u8 3, .int .i64 n] w fun e w' => ∃ v, e = .returned v ∧ w'.ownsRow w.heap.size 3 1 v (nats ((List.range s.hosts.length).filter (fun h => domAt s h 3 == n))).length (ints (nats ((List.range s.hosts.length).filter (fun h => domAt s h 3 == n)))) ∧ Below w.heap.size w w' := by
  have hsok := siteOk_iff.1 hok
  have hnh := hsok.nhosts
  have HV := Lib.hid (fun (X : World) (hX : SiAt X p s) => c_doms3 p s hok X hX)
  have HSOK := Lib.hid hsok
  have HIX := Lib.hid hix
  unfold siV at HV
  clear hok hsok hix
  unfold siV
  obtain ⟨W, hW⟩ : ∃ W, W = w.alloc (.cells #[.slice p.a1 s.feeds.length p.c1, .slice p.a2 s.brks.length p.c2, .slice p.a3 s.loops.length p.c3, .slice p.a4 s.racks.length p.c4, .int .i64 s.sw, .slice p.a5 s.links.length p.c5, .slice p.a6 s.hosts.length p.c6] 29) := ⟨_, rfl⟩
  have B0 : Below w.heap.size w W := by subst hW; exact (Below.refl _ _).alloc (Nat.le_refl _) _
  have HB0 := Lib.hid B0
  have HX := Lib.hid (show SiBox W w.heap.size p s by subst hW; exact siBox_new _ _ _)
  have HA := Lib.hid (h.on B0 (Nat.le_refl _))
  have HF := Lib.hid (fun (X : World) (hX : Below W.heap.size W X) => (let z := HX.out.on hX (Nat.le_refl _); ⟨z.c0, z.c1, z.c2, z.c3, z.c4, z.c5, z.c6⟩ : X.cell? ⟨w.heap.size, 0, none⟩ = some (.slice p.a1 s.feeds.length p.c1) ∧ X.cell? ⟨w.heap.size, 1, none⟩ = some (.slice p.a2 s.brks.length p.c2) ∧ X.cell? ⟨w.heap.size, 2, none⟩ = some (.slice p.a3 s.loops.length p.c3) ∧ X.cell? ⟨w.heap.size, 3, none⟩ = some (.slice p.a4 s.racks.length p.c4) ∧ X.cell? ⟨w.heap.size, 4, none⟩ = some (.int .i64 s.sw) ∧ X.cell? ⟨w.heap.size, 5, none⟩ = some (.slice p.a5 s.links.length p.c5) ∧ X.cell? ⟨w.heap.size, 6, none⟩ = some (.slice p.a6 s.hosts.length p.c6)))
  have m1 := h.feeds.1; have m2 := h.brks.1; have m3 := h.loops.1; have m4 := h.racks.1; have m5 := h.links.1; have m6 := h.hosts.1
  have n1 := h.feeds.2.1; have n2 := h.brks.2.1; have n3 := h.loops.2.1; have n4 := h.racks.2.1; have n5 := h.links.2.1; have n6 := h.hosts.2.1
  unfold maxLen at n1 n2 n3 n4 n5 n6
  have KW := Lib.hid (Below.refl W.heap.size W)
  have hlw : w.heap.size < W.heap.size := HX.out.lt
  clear B0 h
  obtain ⟨f0, f1, f2, f3, f4, f5, f6⟩ := HF.out W KW.out
  rw [hW] at f0 f1 f2 f3 f4 f5 f6
  go_enter Tryz.func141, Tryz.ntmps141
  go_wp2_with (fail)
  rw [← hW]
  clear hW f0 f1 f2 f3 f4 f5 f6
  go_at_call 127
  refine (HV.out W HA.out).mono ?_
  rintro e w1 ⟨bs, bt, rfl, hb1, ha1, hr1, b1⟩
  have K1 := Lib.hid b1
  have HB1 := Lib.hid hb1
  have HA1 := Lib.hid ha1
  have HR1 := Lib.hid hr1
  clear b1 hb1 ha1 hr1
  go_wp2_with (fail)
  go_at_call 77
  refine (c_isIndex n 4 true HIX.out w1).mono ?_
  rintro e w2 ⟨rfl, b2⟩
  have K2 := Lib.hid (below_join K1.out b2 K1.out.size)
  have KK := Lib.hid b2
  clear b2
  have HB2 := Lib.hid (HB1.out.on KK.out (Nat.le_refl _))
  have HA2 := Lib.hid (HA1.out.on KK.out (Nat.le_refl _))
  have HR2 := Lib.hid (HR1.out.on KK.out (Nat.le_refl _))
  have HC := Lib.hid (fun (k : Nat) (hk : k < s.hosts.length) (X : World) (hb : SiBox X bs p s) (ha : SiAt X p s) (hr : RkBox X bt bs) (hsok : SiteOk s) => (show Calls Tryz.prog 154 #[.int .i64 (k : Int), .pointer (some ⟨bt, 0, none⟩)] X fun e w' => e = .returned (.int .i64 (rkAt s k).row) ∧ Below X.heap.size X w' from c_dom4 bs bt p s hsok k hk X hb ha hr))
  obtain ⟨i1, hi1, hz1, hz2, hz3⟩ := info_parts int_info
  obtain ⟨f0, f1, f2, f3, f4, f5, f6⟩ := HF.out w2 K2.out
  go_wp2_with (fail)
  clear f0 f1 f2 f3 f4 f5 f6
  go_loopw [9, 24] (fun v i wr => ∃ k : Nat, k ≤ s.hosts.length ∧ i = .int .i64 (k : Int) ∧ Hid (Below w2.heap.size w2 wr) ∧ Hid (wr.ownsRow w2.heap.size 3 1 v (nats ((List.range k).filter (fun h => domAt s h 3 == n))).length (ints (nats ((List.range k).filter (fun h => domAt s h 3 == n)))))) (fun _ i _ => s.hosts.length - (intOf i).toNat)
  case atStart => exact ⟨0, Nat.zero_le _, rfl, Lib.hid (Below.refl _ _), Lib.hid (World.ownsRow_nil _ _ _ _)⟩
  case round =>
    obtain ⟨k, hk, rfl, hB, ho⟩ := hrel
    have hki : ((k : Nat) : Int).toNat = k := by omega
    by_cases hlt : k < s.hosts.length
    · have hkl : (k : Int) < (s.hosts.length : Int) := by omega
      have hln : (nats ((List.range k).filter (fun h => domAt s h 3 == n))).length ≤ 16 := by rw [nats_len]; exact Nat.le_trans (List.length_filter_le _ _) (by rw [List.length_range]; omega)
      obtain ⟨nn, hnn⟩ : ∃ m, m = (nats ((List.range k).filter (fun h => domAt s h 3 == n))).length := ⟨_, rfl⟩
      obtain ⟨x, hx⟩ : ∃ x, x = (rkAt s k).row := ⟨_, rfl⟩
      rw [← hnn] at ho hln
      have HNN := Lib.hid hnn
      have HXX := Lib.hid (show domAt s k 3 = x from hx.symm)
      have HC1 := Lib.hid (show Calls Tryz.prog 154 #[.int .i64 (k : Int), .pointer (some ⟨bt, 0, none⟩)] wr fun e w' => e = .returned (.int .i64 x) ∧ Below wr.heap.size wr w' from (HC.out k hlt wr (HB2.out.on hB.out (Nat.le_refl _)) (HA2.out.on hB.out (Nat.le_refl _)) (HR2.out.on hB.out (Nat.le_refl _)) HSOK.out).mono (fun e w' h => ⟨by rw [hx]; exact h.1, h.2⟩))
      obtain ⟨As, cs, rfl⟩ := own_shape ho.out
      have hz3' := hB.out.size
      clear hnn hx
      go_wp2_with (fail)
      go_at_call 154
      refine HC1.out.mono ?_
      rintro e wz ⟨rfl, bz⟩
      have HBz := Lib.hid (below_join hB.out bz hB.out.size)
      have HOz := Lib.hid (own_on ho.out bz (Nat.le_refl _))
      have hz4 := bz.size
      clear bz
      rcases hf : (x == n) with _ | _
      · have HO := Lib.hid (show wz.ownsRow w2.heap.size 3 1 (.slice As nn cs) (nats ((List.range (k + 1)).filter (fun h => domAt s h 3 == n))).length (ints (nats ((List.range (k + 1)).filter (fun h => domAt s h 3 == n)))) by
          rw [range_filter, show (domAt s k 3 == n) = false by rw [HXX.out]; exact hf]
          simp only [Bool.false_eq_true, if_false, List.append_nil]
          rw [← HNN.out]; exact HOz.out)
        go_wp2_with (fail)
        go_roundw
        case rel => exact ⟨k + 1, by omega, by go_num, HBz, HO⟩
        case measure => simp only [intOf]; omega
      · have HFF := Lib.hid hf
        go_wp2_with (at_builtin; refine wpList_append_lies _ rfl _ _ 91 rfl w2.heap.size 3 i1 (.int .i64 0) 1 8 Tryz.underlying91 hi1 hz1 hz2 hz3 rfl (by decide) (.slice As nn cs) nn _ rfl (HOz.out.alloc _) ⟨wz.heap.size, 0, none⟩ 1 1 [.int .i64 (k : Int)] rfl rfl (World.news_of_block (heap_alloc_new _ _)) (by simp [Value.oneCell']) (by decide) (by unfold maxLen; omega) (by omega) (by simp; omega) (wz.heap.size + 1) (by simp) ?_; intro g4 cap4 Z hown hgrow _ _; have HBZ := Lib.hid ((HBz.out.alloc HBz.out.size _).grown hgrow (by simp; omega) (fun k hk => (ownsRow_lt HOz.out hk).1)); have HOZ := Lib.hid hown; clear hown hgrow)
        have HO := Lib.hid (show Z.ownsRow w2.heap.size 3 1 (.slice (some ⟨g4, 0, none⟩) (nn + 1) cap4) (nats ((List.range (k + 1)).filter (fun h => domAt s h 3 == n))).length (ints (nats ((List.range (k + 1)).filter (fun h => domAt s h 3 == n)))) by
          rw [range_filter, show (domAt s k 3 == n) = true by rw [HXX.out]; exact HFF.out]
          simp only [if_true]
          rw [show nats (((List.range k).filter (fun h => domAt s h 3 == n)) ++ [k]) = (nats ((List.range k).filter (fun h => domAt s h 3 == n))) ++ [(k : Int)] by simp [nats], List.length_append, List.length_singleton, ← HNN.out, ints_snoc]
          exact HOZ.out)
        go_roundw
        case rel => exact ⟨k + 1, by omega, by go_num, HBZ, HO⟩
        case measure => simp only [intOf]; omega
    · obtain rfl : k = s.hosts.length := by omega
      go_wp2_with (fail)
      go_ret
      exact ⟨_, rfl, own_mono ho.out (Nat.le_trans HB0.out.size K2.out.size), below_join HB0.out (below_join K2.out hB.out K2.out.size) HB0.out.size⟩
set_option maxHeartbeats 16000000 in
theorem c_mem4 (p : SP) (s : SiteD) (hok : siteOk s = true) (n : Int) (hix : ixB n (s.feeds.length : Int) = true) (w : World) (h : SiAt w p s) :
    Calls Tryz.prog 141 #[siV p s, .int .u8 4, .int .i64 n] w fun e w' => ∃ v, e = .returned v ∧ w'.ownsRow w.heap.size 3 1 v (nats ((List.range s.hosts.length).filter (fun h => domAt s h 4 == n))).length (ints (nats ((List.range s.hosts.length).filter (fun h => domAt s h 4 == n)))) ∧ Below w.heap.size w w' := by
  have hsok := siteOk_iff.1 hok
  have hnh := hsok.nhosts
  have HV := Lib.hid (fun (X : World) (hX : SiAt X p s) => c_doms4 p s hok X hX)
  have HSOK := Lib.hid hsok
  have HIX := Lib.hid hix
  unfold siV at HV
  clear hok hsok hix
  unfold siV
  obtain ⟨W, hW⟩ : ∃ W, W = w.alloc (.cells #[.slice p.a1 s.feeds.length p.c1, .slice p.a2 s.brks.length p.c2, .slice p.a3 s.loops.length p.c3, .slice p.a4 s.racks.length p.c4, .int .i64 s.sw, .slice p.a5 s.links.length p.c5, .slice p.a6 s.hosts.length p.c6] 29) := ⟨_, rfl⟩
  have B0 : Below w.heap.size w W := by subst hW; exact (Below.refl _ _).alloc (Nat.le_refl _) _
  have HB0 := Lib.hid B0
  have HX := Lib.hid (show SiBox W w.heap.size p s by subst hW; exact siBox_new _ _ _)
  have HA := Lib.hid (h.on B0 (Nat.le_refl _))
  have HF := Lib.hid (fun (X : World) (hX : Below W.heap.size W X) => (let z := HX.out.on hX (Nat.le_refl _); ⟨z.c0, z.c1, z.c2, z.c3, z.c4, z.c5, z.c6⟩ : X.cell? ⟨w.heap.size, 0, none⟩ = some (.slice p.a1 s.feeds.length p.c1) ∧ X.cell? ⟨w.heap.size, 1, none⟩ = some (.slice p.a2 s.brks.length p.c2) ∧ X.cell? ⟨w.heap.size, 2, none⟩ = some (.slice p.a3 s.loops.length p.c3) ∧ X.cell? ⟨w.heap.size, 3, none⟩ = some (.slice p.a4 s.racks.length p.c4) ∧ X.cell? ⟨w.heap.size, 4, none⟩ = some (.int .i64 s.sw) ∧ X.cell? ⟨w.heap.size, 5, none⟩ = some (.slice p.a5 s.links.length p.c5) ∧ X.cell? ⟨w.heap.size, 6, none⟩ = some (.slice p.a6 s.hosts.length p.c6)))
  have m1 := h.feeds.1; have m2 := h.brks.1; have m3 := h.loops.1; have m4 := h.racks.1; have m5 := h.links.1; have m6 := h.hosts.1
  have n1 := h.feeds.2.1; have n2 := h.brks.2.1; have n3 := h.loops.2.1; have n4 := h.racks.2.1; have n5 := h.links.2.1; have n6 := h.hosts.2.1
  unfold maxLen at n1 n2 n3 n4 n5 n6
  have KW := Lib.hid (Below.refl W.heap.size W)
  have hlw : w.heap.size < W.heap.size := HX.out.lt
  clear B0 h
  obtain ⟨f0, f1, f2, f3, f4, f5, f6⟩ := HF.out W KW.out
  rw [hW] at f0 f1 f2 f3 f4 f5 f6
  go_enter Tryz.func141, Tryz.ntmps141
  go_wp2_with (fail)
  rw [← hW]
  clear hW f0 f1 f2 f3 f4 f5 f6
  go_at_call 127
  refine (HV.out W HA.out).mono ?_
  rintro e w1 ⟨bs, bt, rfl, hb1, ha1, hr1, b1⟩
  have K1 := Lib.hid b1
  have HB1 := Lib.hid hb1
  have HA1 := Lib.hid ha1
  have HR1 := Lib.hid hr1
  clear b1 hb1 ha1 hr1
  go_wp2_with (fail)
  go_at_call 77
  refine (c_isIndex n (s.feeds.length : Int) true HIX.out w1).mono ?_
  rintro e w2 ⟨rfl, b2⟩
  have K2 := Lib.hid (below_join K1.out b2 K1.out.size)
  have KK := Lib.hid b2
  clear b2
  have HB2 := Lib.hid (HB1.out.on KK.out (Nat.le_refl _))
  have HA2 := Lib.hid (HA1.out.on KK.out (Nat.le_refl _))
  have HR2 := Lib.hid (HR1.out.on KK.out (Nat.le_refl _))
  have HC := Lib.hid (fun (k : Nat) (hk : k < s.hosts.length) (X : World) (hb : SiBox X bs p s) (ha : SiAt X p s) (hr : RkBox X bt bs) (hsok : SiteOk s) => (show Calls Tryz.prog 155 #[.int .i64 (k : Int), .pointer (some ⟨bs, 0, none⟩), .pointer (some ⟨bt, 0, none⟩)] X fun e w' => e = .returned (.int .i64 (feedAt s k)) ∧ Below X.heap.size X w' from c_dom5 bs bt p s hsok k hk X hb ha hr))
  obtain ⟨i1, hi1, hz1, hz2, hz3⟩ := info_parts int_info
  obtain ⟨f0, f1, f2, f3, f4, f5, f6⟩ := HF.out w2 K2.out
  go_wp2_with (fail)
  clear f0 f1 f2 f3 f4 f5 f6
  go_loopw [9, 24] (fun v i wr => ∃ k : Nat, k ≤ s.hosts.length ∧ i = .int .i64 (k : Int) ∧ Hid (Below w2.heap.size w2 wr) ∧ Hid (wr.ownsRow w2.heap.size 3 1 v (nats ((List.range k).filter (fun h => domAt s h 4 == n))).length (ints (nats ((List.range k).filter (fun h => domAt s h 4 == n)))))) (fun _ i _ => s.hosts.length - (intOf i).toNat)
  case atStart => exact ⟨0, Nat.zero_le _, rfl, Lib.hid (Below.refl _ _), Lib.hid (World.ownsRow_nil _ _ _ _)⟩
  case round =>
    obtain ⟨k, hk, rfl, hB, ho⟩ := hrel
    have hki : ((k : Nat) : Int).toNat = k := by omega
    by_cases hlt : k < s.hosts.length
    · have hkl : (k : Int) < (s.hosts.length : Int) := by omega
      have hln : (nats ((List.range k).filter (fun h => domAt s h 4 == n))).length ≤ 16 := by rw [nats_len]; exact Nat.le_trans (List.length_filter_le _ _) (by rw [List.length_range]; omega)
      obtain ⟨nn, hnn⟩ : ∃ m, m = (nats ((List.range k).filter (fun h => domAt s h 4 == n))).length := ⟨_, rfl⟩
      obtain ⟨x, hx⟩ : ∃ x, x = (feedAt s k) := ⟨_, rfl⟩
      rw [← hnn] at ho hln
      have HNN := Lib.hid hnn
      have HXX := Lib.hid (show domAt s k 4 = x from hx.symm)
      have HC1 := Lib.hid (show Calls Tryz.prog 155 #[.int .i64 (k : Int), .pointer (some ⟨bs, 0, none⟩), .pointer (some ⟨bt, 0, none⟩)] wr fun e w' => e = .returned (.int .i64 x) ∧ Below wr.heap.size wr w' from (HC.out k hlt wr (HB2.out.on hB.out (Nat.le_refl _)) (HA2.out.on hB.out (Nat.le_refl _)) (HR2.out.on hB.out (Nat.le_refl _)) HSOK.out).mono (fun e w' h => ⟨by rw [hx]; exact h.1, h.2⟩))
      obtain ⟨As, cs, rfl⟩ := own_shape ho.out
      have hz3' := hB.out.size
      clear hnn hx
      go_wp2_with (fail)
      go_at_call 155
      refine HC1.out.mono ?_
      rintro e wz ⟨rfl, bz⟩
      have HBz := Lib.hid (below_join hB.out bz hB.out.size)
      have HOz := Lib.hid (own_on ho.out bz (Nat.le_refl _))
      have hz4 := bz.size
      clear bz
      rcases hf : (x == n) with _ | _
      · have HO := Lib.hid (show wz.ownsRow w2.heap.size 3 1 (.slice As nn cs) (nats ((List.range (k + 1)).filter (fun h => domAt s h 4 == n))).length (ints (nats ((List.range (k + 1)).filter (fun h => domAt s h 4 == n)))) by
          rw [range_filter, show (domAt s k 4 == n) = false by rw [HXX.out]; exact hf]
          simp only [Bool.false_eq_true, if_false, List.append_nil]
          rw [← HNN.out]; exact HOz.out)
        go_wp2_with (fail)
        go_roundw
        case rel => exact ⟨k + 1, by omega, by go_num, HBz, HO⟩
        case measure => simp only [intOf]; omega
      · have HFF := Lib.hid hf
        go_wp2_with (at_builtin; refine wpList_append_lies _ rfl _ _ 91 rfl w2.heap.size 3 i1 (.int .i64 0) 1 8 Tryz.underlying91 hi1 hz1 hz2 hz3 rfl (by decide) (.slice As nn cs) nn _ rfl (HOz.out.alloc _) ⟨wz.heap.size, 0, none⟩ 1 1 [.int .i64 (k : Int)] rfl rfl (World.news_of_block (heap_alloc_new _ _)) (by simp [Value.oneCell']) (by decide) (by unfold maxLen; omega) (by omega) (by simp; omega) (wz.heap.size + 1) (by simp) ?_; intro g4 cap4 Z hown hgrow _ _; have HBZ := Lib.hid ((HBz.out.alloc HBz.out.size _).grown hgrow (by simp; omega) (fun k hk => (ownsRow_lt HOz.out hk).1)); have HOZ := Lib.hid hown; clear hown hgrow)
        have HO := Lib.hid (show Z.ownsRow w2.heap.size 3 1 (.slice (some ⟨g4, 0, none⟩) (nn + 1) cap4) (nats ((List.range (k + 1)).filter (fun h => domAt s h 4 == n))).length (ints (nats ((List.range (k + 1)).filter (fun h => domAt s h 4 == n)))) by
          rw [range_filter, show (domAt s k 4 == n) = true by rw [HXX.out]; exact HFF.out]
          simp only [if_true]
          rw [show nats (((List.range k).filter (fun h => domAt s h 4 == n)) ++ [k]) = (nats ((List.range k).filter (fun h => domAt s h 4 == n))) ++ [(k : Int)] by simp [nats], List.length_append, List.length_singleton, ← HNN.out, ints_snoc]
          exact HOZ.out)
        go_roundw
        case rel => exact ⟨k + 1, by omega, by go_num, HBZ, HO⟩
        case measure => simp only [intOf]; omega
    · obtain rfl : k = s.hosts.length := by omega
      go_wp2_with (fail)
      go_ret
      exact ⟨_, rfl, own_mono ho.out (Nat.le_trans HB0.out.size K2.out.size), below_join HB0.out (below_join K2.out hB.out K2.out.size) HB0.out.size⟩
set_option maxHeartbeats 16000000 in
theorem c_mem5 (p : SP) (s : SiteD) (hok : siteOk s = true) (n : Int) (hix : ixB n (s.loops.length : Int) = true) (w : World) (h : SiAt w p s) :
    Calls Tryz.prog 141 #[siV p s, .int .u8 5, .int .i64 n] w fun e w' => ∃ v, e = .returned v ∧ w'.ownsRow w.heap.size 3 1 v (nats ((List.range s.hosts.length).filter (fun h => domAt s h 5 == n))).length (ints (nats ((List.range s.hosts.length).filter (fun h => domAt s h 5 == n)))) ∧ Below w.heap.size w w' := by
  have hsok := siteOk_iff.1 hok
  have hnh := hsok.nhosts
  have HV := Lib.hid (fun (X : World) (hX : SiAt X p s) => c_doms5 p s hok X hX)
  have HSOK := Lib.hid hsok
  have HIX := Lib.hid hix
  unfold siV at HV
  clear hok hsok hix
  unfold siV
  obtain ⟨W, hW⟩ : ∃ W, W = w.alloc (.cells #[.slice p.a1 s.feeds.length p.c1, .slice p.a2 s.brks.length p.c2, .slice p.a3 s.loops.length p.c3, .slice p.a4 s.racks.length p.c4, .int .i64 s.sw, .slice p.a5 s.links.length p.c5, .slice p.a6 s.hosts.length p.c6] 29) := ⟨_, rfl⟩
  have B0 : Below w.heap.size w W := by subst hW; exact (Below.refl _ _).alloc (Nat.le_refl _) _
  have HB0 := Lib.hid B0
  have HX := Lib.hid (show SiBox W w.heap.size p s by subst hW; exact siBox_new _ _ _)
  have HA := Lib.hid (h.on B0 (Nat.le_refl _))
  have HF := Lib.hid (fun (X : World) (hX : Below W.heap.size W X) => (let z := HX.out.on hX (Nat.le_refl _); ⟨z.c0, z.c1, z.c2, z.c3, z.c4, z.c5, z.c6⟩ : X.cell? ⟨w.heap.size, 0, none⟩ = some (.slice p.a1 s.feeds.length p.c1) ∧ X.cell? ⟨w.heap.size, 1, none⟩ = some (.slice p.a2 s.brks.length p.c2) ∧ X.cell? ⟨w.heap.size, 2, none⟩ = some (.slice p.a3 s.loops.length p.c3) ∧ X.cell? ⟨w.heap.size, 3, none⟩ = some (.slice p.a4 s.racks.length p.c4) ∧ X.cell? ⟨w.heap.size, 4, none⟩ = some (.int .i64 s.sw) ∧ X.cell? ⟨w.heap.size, 5, none⟩ = some (.slice p.a5 s.links.length p.c5) ∧ X.cell? ⟨w.heap.size, 6, none⟩ = some (.slice p.a6 s.hosts.length p.c6)))
  have m1 := h.feeds.1; have m2 := h.brks.1; have m3 := h.loops.1; have m4 := h.racks.1; have m5 := h.links.1; have m6 := h.hosts.1
  have n1 := h.feeds.2.1; have n2 := h.brks.2.1; have n3 := h.loops.2.1; have n4 := h.racks.2.1; have n5 := h.links.2.1; have n6 := h.hosts.2.1
  unfold maxLen at n1 n2 n3 n4 n5 n6
  have KW := Lib.hid (Below.refl W.heap.size W)
  have hlw : w.heap.size < W.heap.size := HX.out.lt
  clear B0 h
  obtain ⟨f0, f1, f2, f3, f4, f5, f6⟩ := HF.out W KW.out
  rw [hW] at f0 f1 f2 f3 f4 f5 f6
  go_enter Tryz.func141, Tryz.ntmps141
  go_wp2_with (fail)
  rw [← hW]
  clear hW f0 f1 f2 f3 f4 f5 f6
  go_at_call 127
  refine (HV.out W HA.out).mono ?_
  rintro e w1 ⟨bs, bt, rfl, hb1, ha1, hr1, b1⟩
  have K1 := Lib.hid b1
  have HB1 := Lib.hid hb1
  have HA1 := Lib.hid ha1
  have HR1 := Lib.hid hr1
  clear b1 hb1 ha1 hr1
  go_wp2_with (fail)
  go_at_call 77
  refine (c_isIndex n (s.loops.length : Int) true HIX.out w1).mono ?_
  rintro e w2 ⟨rfl, b2⟩
  have K2 := Lib.hid (below_join K1.out b2 K1.out.size)
  have KK := Lib.hid b2
  clear b2
  have HB2 := Lib.hid (HB1.out.on KK.out (Nat.le_refl _))
  have HA2 := Lib.hid (HA1.out.on KK.out (Nat.le_refl _))
  have HR2 := Lib.hid (HR1.out.on KK.out (Nat.le_refl _))
  have HC := Lib.hid (fun (k : Nat) (hk : k < s.hosts.length) (X : World) (hb : SiBox X bs p s) (ha : SiAt X p s) (hr : RkBox X bt bs) (hsok : SiteOk s) => (show Calls Tryz.prog 156 #[.int .i64 (k : Int), .pointer (some ⟨bt, 0, none⟩)] X fun e w' => e = .returned (.int .i64 (rkAt s k).loop) ∧ Below X.heap.size X w' from c_dom6 bs bt p s hsok k hk X hb ha hr))
  obtain ⟨i1, hi1, hz1, hz2, hz3⟩ := info_parts int_info
  obtain ⟨f0, f1, f2, f3, f4, f5, f6⟩ := HF.out w2 K2.out
  go_wp2_with (fail)
  clear f0 f1 f2 f3 f4 f5 f6
  go_loopw [9, 24] (fun v i wr => ∃ k : Nat, k ≤ s.hosts.length ∧ i = .int .i64 (k : Int) ∧ Hid (Below w2.heap.size w2 wr) ∧ Hid (wr.ownsRow w2.heap.size 3 1 v (nats ((List.range k).filter (fun h => domAt s h 5 == n))).length (ints (nats ((List.range k).filter (fun h => domAt s h 5 == n)))))) (fun _ i _ => s.hosts.length - (intOf i).toNat)
  case atStart => exact ⟨0, Nat.zero_le _, rfl, Lib.hid (Below.refl _ _), Lib.hid (World.ownsRow_nil _ _ _ _)⟩
  case round =>
    obtain ⟨k, hk, rfl, hB, ho⟩ := hrel
    have hki : ((k : Nat) : Int).toNat = k := by omega
    by_cases hlt : k < s.hosts.length
    · have hkl : (k : Int) < (s.hosts.length : Int) := by omega
      have hln : (nats ((List.range k).filter (fun h => domAt s h 5 == n))).length ≤ 16 := by rw [nats_len]; exact Nat.le_trans (List.length_filter_le _ _) (by rw [List.length_range]; omega)
      obtain ⟨nn, hnn⟩ : ∃ m, m = (nats ((List.range k).filter (fun h => domAt s h 5 == n))).length := ⟨_, rfl⟩
      obtain ⟨x, hx⟩ : ∃ x, x = (rkAt s k).loop := ⟨_, rfl⟩
      rw [← hnn] at ho hln
      have HNN := Lib.hid hnn
      have HXX := Lib.hid (show domAt s k 5 = x from hx.symm)
      have HC1 := Lib.hid (show Calls Tryz.prog 156 #[.int .i64 (k : Int), .pointer (some ⟨bt, 0, none⟩)] wr fun e w' => e = .returned (.int .i64 x) ∧ Below wr.heap.size wr w' from (HC.out k hlt wr (HB2.out.on hB.out (Nat.le_refl _)) (HA2.out.on hB.out (Nat.le_refl _)) (HR2.out.on hB.out (Nat.le_refl _)) HSOK.out).mono (fun e w' h => ⟨by rw [hx]; exact h.1, h.2⟩))
      obtain ⟨As, cs, rfl⟩ := own_shape ho.out
      have hz3' := hB.out.size
      clear hnn hx
      go_wp2_with (fail)
      go_at_call 156
      refine HC1.out.mono ?_
      rintro e wz ⟨rfl, bz⟩
      have HBz := Lib.hid (below_join hB.out bz hB.out.size)
      have HOz := Lib.hid (own_on ho.out bz (Nat.le_refl _))
      have hz4 := bz.size
      clear bz
      rcases hf : (x == n) with _ | _
      · have HO := Lib.hid (show wz.ownsRow w2.heap.size 3 1 (.slice As nn cs) (nats ((List.range (k + 1)).filter (fun h => domAt s h 5 == n))).length (ints (nats ((List.range (k + 1)).filter (fun h => domAt s h 5 == n)))) by
          rw [range_filter, show (domAt s k 5 == n) = false by rw [HXX.out]; exact hf]
          simp only [Bool.false_eq_true, if_false, List.append_nil]
          rw [← HNN.out]; exact HOz.out)
        go_wp2_with (fail)
        go_roundw
        case rel => exact ⟨k + 1, by omega, by go_num, HBz, HO⟩
        case measure => simp only [intOf]; omega
      · have HFF := Lib.hid hf
        go_wp2_with (at_builtin; refine wpList_append_lies _ rfl _ _ 91 rfl w2.heap.size 3 i1 (.int .i64 0) 1 8 Tryz.underlying91 hi1 hz1 hz2 hz3 rfl (by decide) (.slice As nn cs) nn _ rfl (HOz.out.alloc _) ⟨wz.heap.size, 0, none⟩ 1 1 [.int .i64 (k : Int)] rfl rfl (World.news_of_block (heap_alloc_new _ _)) (by simp [Value.oneCell']) (by decide) (by unfold maxLen; omega) (by omega) (by simp; omega) (wz.heap.size + 1) (by simp) ?_; intro g4 cap4 Z hown hgrow _ _; have HBZ := Lib.hid ((HBz.out.alloc HBz.out.size _).grown hgrow (by simp; omega) (fun k hk => (ownsRow_lt HOz.out hk).1)); have HOZ := Lib.hid hown; clear hown hgrow)
        have HO := Lib.hid (show Z.ownsRow w2.heap.size 3 1 (.slice (some ⟨g4, 0, none⟩) (nn + 1) cap4) (nats ((List.range (k + 1)).filter (fun h => domAt s h 5 == n))).length (ints (nats ((List.range (k + 1)).filter (fun h => domAt s h 5 == n)))) by
          rw [range_filter, show (domAt s k 5 == n) = true by rw [HXX.out]; exact HFF.out]
          simp only [if_true]
          rw [show nats (((List.range k).filter (fun h => domAt s h 5 == n)) ++ [k]) = (nats ((List.range k).filter (fun h => domAt s h 5 == n))) ++ [(k : Int)] by simp [nats], List.length_append, List.length_singleton, ← HNN.out, ints_snoc]
          exact HOZ.out)
        go_roundw
        case rel => exact ⟨k + 1, by omega, by go_num, HBZ, HO⟩
        case measure => simp only [intOf]; omega
    · obtain rfl : k = s.hosts.length := by omega
      go_wp2_with (fail)
      go_ret
      exact ⟨_, rfl, own_mono ho.out (Nat.le_trans HB0.out.size K2.out.size), below_join HB0.out (below_join K2.out hB.out K2.out.size) HB0.out.size⟩
theorem c_Members (p : SP) (s : SiteD) (d : Nat) (hd : d < 256) (n : Int) (w : World) (h : SiAt w p s) :
    Calls Tryz.prog 141 #[siV p s, .int .u8 (d : Int), .int .i64 n] w fun e w' => ∃ v, e = .returned v ∧ w'.ownsRow w.heap.size 3 1 v (memD s d n).length (ints (memD s d n)) ∧ Below w.heap.size w w' := by
  rcases hix : ixB n (cntD s d) with _ | _
  · exact c_memNeg p s d n w h (fun X hX => c_doms p s d hd X hX) hix
  · have hm : memD s d n = nats ((List.range s.hosts.length).filter (fun h => domAt s h d == n)) := by unfold memD; rw [hix]; rfl
    rw [hm]
    rcases hok : siteOk s with _ | _
    · exfalso
      have := ixB_iff.1 hix
      unfold cntD at this
      rw [hok] at this
      simp at this
      omega
    · have hc : cntD s d = cntOf s d := by unfold cntD; rw [hok]; rfl
      rw [hc] at hix
      by_cases hno : 1 ≤ d ∧ d ≤ 5
      · rcases (by omega : d = 1 ∨ d = 2 ∨ d = 3 ∨ d = 4 ∨ d = 5) with rfl | rfl | rfl | rfl | rfl
        · exact c_mem1 p s hok n hix w h
        · exact c_mem2 p s hok n hix w h
        · exact c_mem3 p s hok n hix w h
        · exact c_mem4 p s hok n hix w h
        · exact c_mem5 p s hok n hix w h
      · exfalso
        have h0 : cntOf s d = 0 := by unfold cntOf; split <;> first | rfl | (exfalso; omega)
        rw [h0] at hix
        have := ixB_iff.1 hix
        omega
end Go.Proofs.YtbbadnlaelgmlaaGreat

namespace Go.Proofs.YtbbadnlaelgmlaaGreat
open Go.RowKit
set_option maxRecDepth 100000
set_option linter.unusedVariables false
set_option linter.unusedSimpArgs false

def wtV (z : Sn) (r0 : Bool) (x : Int) : Int := pwV z r0 (isHost x)
def heatV (z : Sn) (r0 : Bool) (k : Int) : Int := pwV z r0 (isLoop z.s k)
def hotS (z : Sn) (r0 : Bool) (k : Int) (j : Nat) : Int := (((memD z.s 5 k).take j).map (wtV z r0)).sum
theorem wtV_bd {z : Sn} {r0 : Bool} (hr0 : r0 = true ↔ z.Ok) (x : Int) : 0 ≤ wtV z r0 x ∧ wtV z r0 x ≤ 24160000 := by
  unfold wtV pwV
  cases r0
  · simp
  · rw [if_pos rfl]; exact load_bd (hr0.1 rfl) _
theorem hot_step {z : Sn} {r0 : Bool} {k x : Int} {j : Nat} (h : (memD z.s 5 k)[j]? = some x) : hotS z r0 k (j + 1) = hotS z r0 k j + wtV z r0 x := by
  unfold hotS
  rw [List.take_add_one, h]
  simp
theorem hot_false {z : Sn} {k : Int} (j : Nat) : hotS z false k j = 0 := by
  unfold hotS
  induction ((memD z.s 5 k).take j) with
  | nil => rfl
  | cons a l ih => rw [List.map_cons, List.sum_cons, ih]; rfl
theorem hot_is {z : Sn} {r0 : Bool} (hr0 : r0 = true ↔ z.Ok) (k : Int) : hotS z r0 k (memD z.s 5 k).length = heatV z r0 k := by
  cases r0
  · rw [hot_false]; rfl
  · unfold hotS
    rw [List.take_length]
    exact heat_mem (hr0.1 rfl) k
theorem sum_le16 {f : Int → Int} (hf : ∀ x, 0 ≤ f x ∧ f x ≤ 24160000) : ∀ l : List Int, 0 ≤ (l.map f).sum ∧ (l.map f).sum ≤ 24160000 * (l.length : Int) := by
  intro l
  induction l with
  | nil => simp
  | cons a l ih =>
    have := hf a
    rw [List.map_cons, List.sum_cons, List.length_cons]
    omega
theorem hot_bd {z : Sn} {r0 : Bool} (hr0 : r0 = true ↔ z.Ok) (k : Int) (j : Nat) : 0 ≤ hotS z r0 k j ∧ hotS z r0 k j ≤ 400000000 := by
  cases r0
  · rw [hot_false]; omega
  · have h := sum_le16 (wtV_bd hr0) ((memD z.s 5 k).take j)
    have h1 := mem_len z.s 5 k
    have h2 := (siteOk_iff.1 (hr0.1 rfl).1).nhosts
    have h3 : ((memD z.s 5 k).take j).length ≤ (memD z.s 5 k).length := by rw [List.length_take]; omega
    unfold hotS
    omega
theorem SnBx.but {w w' : World} {z : Sn} {b g : Nat} (h : SnBx w b z) (k : v6.But g w w') (h0 : b ≠ g) (h1 : b + 1 ≠ g) (h2 : b + 1 + 1 ≠ g) : SnBx w' b z := ⟨k.same _ _ h0 h.b1, k.same _ _ h1 h.b2, k.same _ _ h2 h.b3⟩
set_option maxHeartbeats 8000000 in
theorem c_heat1 (z : Sn) (r0 : Bool) (hr0 : r0 = true ↔ z.Ok) (g b : Nat) (x S : Int) (w : World) (hz : SnAt w z) (hx : SnBx w b z) (hg : w.heap[g]? = some (.cells #[.int .i64 S] 3 (0, 0))) (v : Int) (hv : pwV z r0 (isHost x) = v) (S2 : Int) (hS2 : IntKind.i64.wrap (S + v) = S2) :
    Calls Tryz.prog 139 #[.int .i64 x, .pointer (some ⟨g, 0, none⟩), .pointer (some ⟨b, 0, none⟩), .pointer (some ⟨b + 1, 0, none⟩), .pointer (some ⟨b + 1 + 1, 0, none⟩)] w fun e w' => e = .returned (.tuple #[]) ∧ v6.But g w w' ∧ w'.heap[g]? = some (.cells #[.int .i64 S2] 3 (0, 0)) := by
  have HC := Lib.hid (fun (X : World) (hX : SnAt X z) => c_pwWatts z r0 hr0 x X hX v hv)
  have HSS := Lib.hid (fun (X : World) (h : Below w.heap.size w X) => (by
    obtain ⟨f0, f1, f2, f3, f4, f5, f6, g0, g1, g2⟩ := (hx.on h (Nat.le_refl _)).cells
    exact ⟨f0, f1, f2, f3, f4, f5, f6, g0, g1, g2, cell_of (box_on hg h (Nat.le_refl _)) rfl⟩ : (fun (X : World) => X.cell? ⟨b, 0, none⟩ = some (.slice z.p.a1 z.s.feeds.length z.p.c1) ∧ X.cell? ⟨b, 1, none⟩ = some (.slice z.p.a2 z.s.brks.length z.p.c2) ∧ X.cell? ⟨b, 2, none⟩ = some (.slice z.p.a3 z.s.loops.length z.p.c3) ∧ X.cell? ⟨b, 3, none⟩ = some (.slice z.p.a4 z.s.racks.length z.p.c4) ∧ X.cell? ⟨b, 4, none⟩ = some (.int .i64 z.s.sw) ∧ X.cell? ⟨b, 5, none⟩ = some (.slice z.p.a5 z.s.links.length z.p.c5) ∧ X.cell? ⟨b, 6, none⟩ = some (.slice z.p.a6 z.s.hosts.length z.p.c6) ∧ X.cell? ⟨b + 1, 0, none⟩ = some (.slice z.A z.xs.length z.c) ∧ X.cell? ⟨b + 1 + 1, 0, none⟩ = some (.slice z.q.a1 z.d.hosts.length z.q.c1) ∧ X.cell? ⟨b + 1 + 1, 1, none⟩ = some (.slice z.q.a2 z.d.reps.length z.q.c2) ∧ X.cell? ⟨g, 0, none⟩ = some (.int .i64 S)) X))
  have HZ := Lib.hid (fun (X : World) (h : Below w.heap.size w X) => hz.on h (Nat.le_refl _))
  have HG := Lib.hid (fun (X : World) (h : Below w.heap.size w X) => box_on hg h (Nat.le_refl _))
  have HS2 := Lib.hid hS2
  have HKw := Lib.hid (Below.refl w.heap.size w)
  have hfm : Tryz.prog.follows Departure.mixedOrders = true := by kernel_rfl
  obtain ⟨n1, n2, n3, n4, n5, n6, n7, n8⟩ := hz.bounds
  clear hz hx hg hS2 hv hr0
  go_enter Tryz.func139, Tryz.ntmps139
  go_wp2_with (fail)
  refine v5.region_z 7 hfm (S := fun (X : World) => X.cell? ⟨b, 0, none⟩ = some (.slice z.p.a1 z.s.feeds.length z.p.c1) ∧ X.cell? ⟨b, 1, none⟩ = some (.slice z.p.a2 z.s.brks.length z.p.c2) ∧ X.cell? ⟨b, 2, none⟩ = some (.slice z.p.a3 z.s.loops.length z.p.c3) ∧ X.cell? ⟨b, 3, none⟩ = some (.slice z.p.a4 z.s.racks.length z.p.c4) ∧ X.cell? ⟨b, 4, none⟩ = some (.int .i64 z.s.sw) ∧ X.cell? ⟨b, 5, none⟩ = some (.slice z.p.a5 z.s.links.length z.p.c5) ∧ X.cell? ⟨b, 6, none⟩ = some (.slice z.p.a6 z.s.hosts.length z.p.c6) ∧ X.cell? ⟨b + 1, 0, none⟩ = some (.slice z.A z.xs.length z.c) ∧ X.cell? ⟨b + 1 + 1, 0, none⟩ = some (.slice z.q.a1 z.d.hosts.length z.q.c1) ∧ X.cell? ⟨b + 1 + 1, 1, none⟩ = some (.slice z.q.a2 z.d.reps.length z.q.c2) ∧ X.cell? ⟨g, 0, none⟩ = some (.int .i64 S)) (HSS.out w.drew HKw.out.drew) (fun hHeld => ?_)
  refine v5.takeZ 0 (some 6) (by kernel_rfl) rfl rfl (by kernel_rfl) (by kernel_rfl) (by kernel_rfl) (fun _ _ _ h => h) (by rfl) (by intro w ⟨g0, g1, g2, g3, g4, g5, g6, g7, g8, g9, g10⟩; go_simp; try with_reducible rfl) hHeld ?_
  simp only [Act.put, List.setIfInBounds_toArray, List.set_cons_zero, List.set_cons_succ]
  refine v5.takeZ 1 (some 7) (by kernel_rfl) rfl rfl (by kernel_rfl) (by kernel_rfl) (by kernel_rfl) (fun _ _ _ h => h) (by rfl) (by intro w ⟨g0, g1, g2, g3, g4, g5, g6, g7, g8, g9, g10⟩; go_simp; try with_reducible rfl) hHeld ?_
  simp only [Act.put, List.setIfInBounds_toArray, List.set_cons_zero, List.set_cons_succ]
  refine v5.takeZ 2 (some 8) (by kernel_rfl) rfl rfl (by kernel_rfl) (by kernel_rfl) (by kernel_rfl) (fun _ _ _ h => h) (by rfl) (by intro w ⟨g0, g1, g2, g3, g4, g5, g6, g7, g8, g9, g10⟩; go_simp; try with_reducible rfl) hHeld ?_
  simp only [Act.put, List.setIfInBounds_toArray, List.set_cons_zero, List.set_cons_succ]
  refine v5.takeZ 3 (some 9) (by kernel_rfl) rfl rfl (by kernel_rfl) (by kernel_rfl) (by kernel_rfl) (fun _ _ _ h => h) (by rfl) (by intro w ⟨g0, g1, g2, g3, g4, g5, g6, g7, g8, g9, g10⟩; go_simp; try with_reducible rfl) hHeld ?_
  simp only [Act.put, List.setIfInBounds_toArray, List.set_cons_zero, List.set_cons_succ]
  refine v5.takeZ 4 (some 10) (by kernel_rfl) rfl rfl (by kernel_rfl) (by kernel_rfl) (by kernel_rfl) (fun _ _ _ h => h) (by rfl) (by intro w ⟨g0, g1, g2, g3, g4, g5, g6, g7, g8, g9, g10⟩; go_simp; try with_reducible rfl) hHeld ?_
  simp only [Act.put, List.setIfInBounds_toArray, List.set_cons_zero, List.set_cons_succ]
  refine v5.oneZ 5 rfl (by kernel_rfl) (fun K hK => ?_)
  go_simp
  go_at_call 140
  refine (HC.out w.drew (HZ.out w.drew HKw.out.drew)).mono ?_
  rintro e v2 ⟨rfl, bb0⟩
  have bb := below_join (Below.refl w.heap.size w).drew bb0 (Nat.le_refl _)
  have HK2 := Lib.hid bb
  clear hHeld bb bb0
  have hHeld := HSS.out v2 HK2.out
  refine hK.out _ _ (.inr hHeld) ?_
  clear hK K
  try simp only [Act.put, List.setIfInBounds_toArray, List.set_cons_zero, List.set_cons_succ]
  refine v5.takeZ 6 (some 12) (by kernel_rfl) rfl rfl (by kernel_rfl) (by kernel_rfl) (by kernel_rfl) (fun _ _ _ h => h) (by rfl) (by intro w ⟨g0, g1, g2, g3, g4, g5, g6, g7, g8, g9, g10⟩; go_simp; try with_reducible rfl) hHeld ?_
  simp only [Act.put, List.setIfInBounds_toArray, List.set_cons_zero, List.set_cons_succ]
  rw [HS2.out]
  have fg : v2.cell? ⟨g, 0, none⟩ = some (.int .i64 S) := cell_of (HG.out v2 HK2.out) rfl
  have fz : v2.frozen? ⟨g, 0, none⟩ = false := frz (HG.out v2 HK2.out) 0
  clear hHeld
  refine v5.oneZ 7 rfl (by kernel_rfl) (fun K hK => ?_)
  go_simp
  refine hK.out _ _ (.inl rfl) ?_
  clear hK K
  refine v5.doneZ (by kernel_rfl) ?_ _
  go_wp2_with (fail)
  go_end0
  exact ⟨rfl, (v6.But.of_below HK2.out (Nat.le_refl _)).trans (v6.But.store _ _), set_field (HG.out v2 HK2.out) _⟩
end Go.Proofs.YtbbadnlaelgmlaaGreat

namespace Go.Proofs.YtbbadnlaelgmlaaGreat
open Go.RowKit
set_option maxRecDepth 100000
set_option linter.unusedVariables false
set_option linter.unusedSimpArgs false

theorem own_rwT {w : World} {base : Nat} {v : Value} {l : List Int} (h : w.ownsRow base 3 1 v l.length (ints l)) : ∃ A c, v = .slice A l.length c ∧ l.length ≤ c ∧ c ≤ maxLen ∧ ∀ X : World, (∀ (k : Nat) (o : Obj), base ≤ k → w.heap[k]? = some o → X.heap[k]? = some o) → Rw 1 inF X A c l := by
  obtain ⟨A, c, hv, hr⟩ := own_rw h
  refine ⟨A, c, hv, hr.1, hr.2.1, fun X hX => ?_⟩
  have h2 : X.ownsRow base 3 1 v l.length (ints l) := by
    obtain ⟨k1, ⟨e, e2⟩ | ⟨g, cap, cur, e, k3, k4, k⟩⟩ := h
    · exact ⟨k1, .inl ⟨e, e2⟩⟩
    · exact ⟨k1, .inr ⟨g, cap, cur, e, k3, hX _ _ k3 k4, k⟩⟩
  obtain ⟨A2, c2, hv2, hr2⟩ := own_rw h2
  rw [hv] at hv2
  injection hv2 with e1 _ e2
  subst e1 e2
  exact hr2
set_option maxHeartbeats 8000000 in
theorem c_coHeat (z : Sn) (r0 : Bool) (hr0 : r0 = true ↔ z.Ok) (k : Int) (w : World) (hz : SnAt w z) (v : Int) (hv : heatV z r0 k = v) :
    Calls Tryz.prog 107 #[.agg #[.slice z.p.a1 z.s.feeds.length z.p.c1, .slice z.p.a2 z.s.brks.length z.p.c2, .slice z.p.a3 z.s.loops.length z.p.c3, .slice z.p.a4 z.s.racks.length z.p.c4, .int .i64 z.s.sw, .slice z.p.a5 z.s.links.length z.p.c5, .slice z.p.a6 z.s.hosts.length z.p.c6], .agg #[.slice z.A z.xs.length z.c], .agg #[.slice z.q.a1 z.d.hosts.length z.q.c1, .slice z.q.a2 z.d.reps.length z.q.c2], .int .i64 k] w fun e w' => e = .returned (.int .i64 v) ∧ Below w.heap.size w w' := by
  obtain ⟨W1, h1⟩ : ∃ W, W = w.alloc (.cells #[.slice z.p.a1 z.s.feeds.length z.p.c1, .slice z.p.a2 z.s.brks.length z.p.c2, .slice z.p.a3 z.s.loops.length z.p.c3, .slice z.p.a4 z.s.racks.length z.p.c4, .int .i64 z.s.sw, .slice z.p.a5 z.s.links.length z.p.c5, .slice z.p.a6 z.s.hosts.length z.p.c6] 29) := ⟨_, rfl⟩
  obtain ⟨W2, h2⟩ : ∃ W, W = W1.alloc (.cells #[.slice z.A z.xs.length z.c] 32) := ⟨_, rfl⟩
  obtain ⟨W3, h3⟩ : ∃ W, W = W2.alloc (.cells #[.slice z.q.a1 z.d.hosts.length z.q.c1, .slice z.q.a2 z.d.reps.length z.q.c2] 36) := ⟨_, rfl⟩
  obtain ⟨B0, X1⟩ := sn_boxes h1 h2 h3
  have z3 : W3.heap.size = w.heap.size + 1 + 1 + 1 := sn_size h1 h2 h3
  obtain ⟨W, h4⟩ : ∃ W, W = W3.alloc (.cells #[.int .i64 0] 3) := ⟨_, rfl⟩
  have B1 : Below w.heap.size w W := by rw [h4]; exact B0.alloc B0.size _
  have M0 : W.heap[w.heap.size + 1 + 1 + 1]? = some (.cells #[.int .i64 0] 3 (0, 0)) := by rw [h4, ← z3]; exact box_new _ _ _
  have z4 : W.heap.size = w.heap.size + 1 + 1 + 1 + 1 := by rw [h4, World.size_alloc, z3]
  have X2 : SnBx W w.heap.size z := by rw [h4]; exact X1.alloc _
  have HB := Lib.hid B1
  have Z0 := hz.on B1 (Nat.le_refl _)
  have HZ := Lib.hid (fun (X : World) (hX : Below W.heap.size W X) => Z0.on hX (Nat.le_refl _))
  have HF := Lib.hid (fun (X : World) (hX : Below W.heap.size W X) => ((X2.on hX (Nat.le_refl _)).cells : X.cell? ⟨w.heap.size, 0, none⟩ = some (.slice z.p.a1 z.s.feeds.length z.p.c1) ∧ X.cell? ⟨w.heap.size, 1, none⟩ = some (.slice z.p.a2 z.s.brks.length z.p.c2) ∧ X.cell? ⟨w.heap.size, 2, none⟩ = some (.slice z.p.a3 z.s.loops.length z.p.c3) ∧ X.cell? ⟨w.heap.size, 3, none⟩ = some (.slice z.p.a4 z.s.racks.length z.p.c4) ∧ X.cell? ⟨w.heap.size, 4, none⟩ = some (.int .i64 z.s.sw) ∧ X.cell? ⟨w.heap.size, 5, none⟩ = some (.slice z.p.a5 z.s.links.length z.p.c5) ∧ X.cell? ⟨w.heap.size, 6, none⟩ = some (.slice z.p.a6 z.s.hosts.length z.p.c6) ∧ X.cell? ⟨w.heap.size + 1, 0, none⟩ = some (.slice z.A z.xs.length z.c) ∧ X.cell? ⟨w.heap.size + 1 + 1, 0, none⟩ = some (.slice z.q.a1 z.d.hosts.length z.q.c1) ∧ X.cell? ⟨w.heap.size + 1 + 1, 1, none⟩ = some (.slice z.q.a2 z.d.reps.length z.q.c2)))
  have HX := Lib.hid (fun (X : World) (hX : Below W.heap.size W X) => X2.on hX (Nat.le_refl _))
  have HM0 := Lib.hid (fun (X : World) (hX : Below W.heap.size W X) => (box_on M0 hX (Nat.le_refl _) : X.heap[w.heap.size + 1 + 1 + 1]? = some (.cells #[.int .i64 0] 3 (0, 0))))
  have HKW := Lib.hid (Below.refl W.heap.size W)
  have hle := HB.out.size
  obtain ⟨n1, n2, n3, n4, n5, n6, n7, n8⟩ := hz.bounds
  have HC1 := Lib.hid (fun (g b : Nat) (x S : Int) (X : World) (h1 : SnAt X z) (h2 : SnBx X b z) (h3 : X.heap[g]? = some (.cells #[.int .i64 S] 3 (0, 0))) (v : Int) (hv : pwV z r0 (isHost x) = v) (S2 : Int) (hS2 : IntKind.i64.wrap (S + v) = S2) => c_heat1 z r0 hr0 g b x S X h1 h2 h3 v hv S2 hS2)
  have HCM := Lib.hid (fun (X : World) (h : SnAt X z) => c_Members z.p z.s 5 (by decide) k X h.si)
  unfold siV at HCM
  have HBD := Lib.hid (fun j => hot_bd hr0 k j)
  have HEND := Lib.hid (hot_is hr0 k)
  have HVV := Lib.hid hv
  have HX0 := Lib.hid X2
  have HM00 := Lib.hid M0
  have HZW := Lib.hid (fun (X : World) (h : Below w.heap.size w X) => hz.on h (Nat.le_refl _))
  have HZ4 := Lib.hid z4
  clear hr0 hv
  clear hz B0 X1 z3 Z0 B1 M0 z4 X2
  obtain ⟨f0, f1, f2, f3, f4, f5, f6, g0, g1, g2⟩ := HF.out W HKW.out
  have m00 := cell_of (HM0.out W HKW.out) (o := 0) rfl
  rw [h4, h3, h2, h1] at f0 f1 f2 f3 f4 f5 f6 g0 g1 g2 m00
  generalize hBB : w.heap.size = B at *
  go_enter Tryz.func107, Tryz.ntmps107
  go_wp2_with (fail)
  rw [← h1, ← h2, ← h3, ← h4]
  clear h1 h2 h3 h4 f0 f1 f2 f3 f4 f5 f6 g0 g1 g2 m00
  go_at_call 141
  refine (HCM.out W (HZ.out W HKW.out)).mono ?_
  rintro e v1 ⟨vv, rfl, ho, bb⟩
  obtain ⟨A, c, rfl, hlc, hcm, HRW0⟩ := own_rwT ho
  have HRW := Lib.hid HRW0
  obtain ⟨l, hl⟩ : ∃ l, memD z.s 5 k = l := ⟨_, rfl⟩
  have HL := Lib.hid hl
  have hll : l.length ≤ z.s.hosts.length := by rw [← hl]; exact mem_len _ _ _
  have HKv1 := Lib.hid (below_join HKW.out bb HKW.out.size)
  have HSTEP := Lib.hid (fun (j : Nat) (x : Int) (hj : l[j]? = some x) => hot_step (z := z) (r0 := r0) (k := k) (j := j) (x := x) (by rw [hl]; exact hj))
  have HE2 := Lib.hid (show hotS z r0 k l.length = v by rw [← hl, HEND.out, HVV.out])
  have HS0 := Lib.hid (show hotS z r0 k 0 = 0 from rfl)
  rw [hl] at HRW hlc ⊢
  have HG0 := Lib.hid (show v1.heap[B + 1 + 1 + 1]? = some (.cells #[.int .i64 (hotS z r0 k 0)] 3 (0, 0)) from HM0.out v1 HKv1.out)
  have hBz := HZ4.out
  have HBx := Lib.hid (HX.out v1 HKv1.out)
  have HWv := Lib.hid (below_join HB.out HKv1.out hle)
  have HFR := Lib.hid (fun (X : World) (h : v6.But (B + 1 + 1 + 1) v1 X) => (⟨by rw [← hBB]; exact h.below (by rw [hBB]; exact HWv.out) (by omega), HBx.out.but h (by omega) (by omega) (by omega), HRW.out X (fun k o hk ho => h.same k o (by omega) ho)⟩ : Below B w X ∧ SnBx X B z ∧ Rw 1 inF X A c l))
  obtain ⟨g, hg⟩ : ∃ g, B + 1 + 1 + 1 = g := ⟨_, rfl⟩
  rw [hg] at HG0 HFR ⊢
  clear ho bb HRW0 hl hg
  go_wp2_with (fail)
  go_loopw [18] (fun i wr => ∃ j : Nat, j ≤ l.length ∧ i = .int .i64 (j : Int) ∧ Hid (v6.But g v1 wr) ∧ Hid (wr.heap[g]? = some (.cells #[.int .i64 (hotS z r0 k j)] 3 (0, 0)))) (fun i _ => l.length - (intOf i).toNat)
  case atStart => exact ⟨0, Nat.zero_le _, rfl, Lib.hid (v6.But.refl _), HG0⟩
  case round =>
    obtain ⟨j, hj, rfl, HBT, HGR⟩ := hrel
    have hji : ((j : Nat) : Int).toNat = j := by omega
    obtain ⟨S, hS⟩ : ∃ t, hotS z r0 k j = t := ⟨_, rfl⟩
    have HSS := Lib.hid hS
    have bS := HBD.out j
    rw [hS] at HGR bS
    clear hS
    obtain ⟨bw, bx, brw⟩ := HFR.out wr HBT.out
    have HBW := Lib.hid bw
    have HBX := Lib.hid bx
    by_cases hlt : j < l.length
    · obtain ⟨x, hx⟩ : ∃ x, l[j]? = some x := ⟨_, List.getElem?_eq_getElem hlt⟩
      have HST := Lib.hid (HSTEP.out j x hx)
      obtain ⟨pb, po, e1, hpb, x0⟩ := brw.at_ hx
      have x0 := x0 0 (by omega)
      rw [show po + j * 1 + 0 = po + j by omega] at x0
      subst e1
      have hlt2 : (j : Int) < (l.length : Int) := by omega
      have bS2 := HBD.out (j + 1)
      have x1 : wr.cell? ⟨pb, po + j, none⟩ = some (.int .i64 x) := x0
      clear x0 hx bw bx brw
      go_wp2_with (fail)
      go_at_call 139
      refine (HC1.out g B x S wr (HZW.out wr HBW.out) HBX.out HGR.out (wtV z r0 x) rfl (hotS z r0 k (j + 1)) (by have := HST.out; rw [HSS.out] at this; rw [← this]; exact wrap_in (by omega) (by omega))).mono ?_
      rintro e w2 ⟨rfl, hb2, hg2⟩
      have HB2 := Lib.hid (HBT.out.trans hb2)
      have HG2 := Lib.hid hg2
      clear hb2 hg2
      go_wp2_with (fail)
      go_roundw
      case rel => exact ⟨j + 1, by omega, by go_num, HB2, HG2⟩
      case measure => simp only [intOf]; omega
    · obtain rfl : j = l.length := by omega
      have HVS := Lib.hid (show S = v by rw [← HE2.out, HSS.out])
      have g0 : wr.cell? ⟨g, 0, none⟩ = some (.int .i64 S) := cell_of HGR.out rfl
      clear bw bx brw
      go_wp2_with (fail)
      go_ret
      exact ⟨(show Ending.returned (.int .i64 S) = .returned (.int .i64 v) by rw [HVS.out]), HBW.out⟩
end Go.Proofs.YtbbadnlaelgmlaaGreat

namespace Go.Proofs.YtbbadnlaelgmlaaGreat
open Go.RowKit
set_option maxRecDepth 100000
set_option linter.unusedVariables false
set_option linter.unusedSimpArgs false

noncomputable def wyS (s : SiteD) (a b : Nat) : List Nat := a :: wayV (nS s) (lkN s) a b
theorem next_find {n : Nat} {L : Nat → Nat → Int} {dd : Nat → Int} {u k x : Nat} (h : nextOf n L dd u = some x) (hk : k < n) (h1 : ∀ y, y < k → isNext L dd u y = false) (h2 : isNext L dd u k = true) : x = k := by
  unfold nextOf at h
  rw [List.find?_eq_some_iff_getElem] at h
  obtain ⟨h3, i, hi, e1, e2⟩ := h
  rw [List.getElem_range] at e1
  subst e1
  have g : ¬ i < k := fun g => by have := h1 i g; rw [h3] at this; cases this
  have g2 : ¬ k < i := fun g => by
    have := e2 k g
    rw [List.getElem_range, h2] at this
    cases this
  omega
theorem next_some {n : Nat} {L : Nat → Nat → Int} {dd : Nat → Int} {u x : Nat} (h : nextOf n L dd u = some x) : x < n ∧ isNext L dd u x = true := by
  unfold nextOf at h
  exact ⟨List.mem_range.1 (List.mem_of_find?_eq_some h), List.find?_some h⟩
/-- The way so far: done behind a, rest to come. -/
structure WySt (s : SiteD) (a b u : Nat) (done rest : List Nat) : Prop where
  all : wayV (nS s) (lkN s) a b = done ++ rest
  grd : Grd (nS s) (lkN s) (fun x => dV (nS s) (lkN s) x b) b u rest
  lt : u < nS s
  dd : 0 ≤ dS s u b
  len : done.length ≤ 7000000
theorem WySt.start {s : SiteD} (hs : siteOk s = true) {a b : Nat} (ha : a < nS s) (hb : b < nS s) (hd : 0 ≤ dS s a b) : WySt s a b a [] (wayV (nS s) (lkN s) a b) :=
  ⟨rfl, way_grd (sk hs).1 ha hb hd, ha, hd, by simp⟩
theorem WySt.next {s : SiteD} (hs : siteOk s = true) {a b u k : Nat} {done rest : List Nat} (ha : a < nS s) (hb : b < nS s) (hd : 0 ≤ dS s a b) (h : WySt s a b u done rest) (hne : u ≠ b) (hk : k < nS s) (h1 : ∀ y, y < k → isNext (lkN s) (fun x => dS s x b) u y = false) (h2 : isNext (lkN s) (fun x => dS s x b) u k = true) : ∃ r2, rest = k :: r2 ∧ WySt s a b k (done ++ [k]) r2 ∧ dS s k b < dS s u b := by
  obtain ⟨e, g, l, d, n⟩ := h
  cases rest with
  | nil => exact absurd g hne
  | cons x r2 =>
    obtain ⟨-, g2, g3⟩ := g
    obtain rfl : k = x := (next_find g2 hk h1 h2).symm
    obtain ⟨i1, i2, i3⟩ := isNext_iff.1 h2
    have hp := (sk hs).1.pos u k i1
    refine ⟨r2, rfl, ⟨by rw [e]; simp, g3, hk, i2, ?_⟩, ?_⟩
    rotate_left
    · have i4 : ∀ z : Int, z = dS s k b → lkN s u k + z = dS s u b := fun z hz => by rw [hz]; exact i3
      have := i4 _ rfl
      omega
    have hw := way_ok (sk hs).1 ha hb hd
    have hl := wlen_pos (sk hs).1.pos hw.1
    have hf := dS_ge hs a b
    rw [hw.2.2, e] at hl
    have : (dV (nS s) (lkN s) a b) = dS s a b := rfl
    rw [List.length_append, List.length_cons] at hl
    rw [List.length_append, List.length_singleton]
    omega
theorem WySt.some {s : SiteD} {a b u : Nat} {done rest : List Nat} (h : WySt s a b u done rest) (hne : u ≠ b) : ∃ x, x < nS s ∧ isNext (lkN s) (fun x => dS s x b) u x = true := by
  obtain ⟨e, g, l, d, n⟩ := h
  cases rest with
  | nil => exact absurd g hne
  | cons x r2 => exact ⟨x, next_some g.2.1⟩
theorem WySt.end_ {s : SiteD} {a b : Nat} {done rest : List Nat} (h : WySt s a b b done rest) : wyS s a b = a :: done := by
  obtain ⟨e, g, l, d, n⟩ := h
  unfold wyS
  rw [e]
  cases rest with
  | nil => rw [List.append_nil]
  | cons x r2 => exact absurd rfl g.1
end Go.Proofs.YtbbadnlaelgmlaaGreat

namespace Go.Proofs.YtbbadnlaelgmlaaGreat
open Go.RowKit
set_option maxRecDepth 100000
set_option linter.unusedVariables false
set_option linter.unusedSimpArgs false

structure WyOk (n f : Nat) (pre : List Nat) (u : Nat) (len : Int) : Prop where
  nd : (pre ++ [u]).Nodup
  lt : ∀ v ∈ pre ++ [u], v < n
  fu : n ≤ pre.length + 1 + f
  l0 : 0 ≤ len
  l1 : len ≤ 1000000 * (pre.length : Int)
  n8 : n ≤ 8
theorem WyOk.len {n f u : Nat} {pre : List Nat} {len : Int} (h : WyOk n f pre u len) : pre.length < 8 := by
  have h1 : u ∉ pre := fun hu => by
    have := List.nodup_append.1 h.nd
    exact this.2.2 u hu u (by simp) rfl
  have := nodup_full (N := n) (l := pre) (List.nodup_append.1 h.nd).1 (fun x hx => h.lt x (by simp [hx])) (h.lt u (by simp)) h1
  have := h.n8
  omega
theorem WyOk.next {n f u k : Nat} {pre : List Nat} {len st : Int} (h : WyOk n (f + 1) pre u len) (hk : k < n) (hn : k ∉ pre ++ [u]) (h0 : 0 ≤ st) (h1 : st ≤ 1000000) : WyOk n f (pre ++ [u]) k (len + st) := by
  refine ⟨?_, ?_, ?_, ?_, ?_, h.n8⟩
  · rw [List.nodup_append]
    exact ⟨h.nd, by simp, fun a ha b hb => by simp at hb; subst hb; exact fun e => hn (e ▸ ha)⟩
  · intro v hv
    rw [List.mem_append] at hv
    rcases hv with hv | hv
    · exact h.lt v hv
    · simp at hv; omega
  · have := h.fu; simp; omega
  · have := h.l0; omega
  · have := h.l1; simp; omega
end Go.Proofs.YtbbadnlaelgmlaaGreat
