/-
  DERIVED. The law WorldSums (written by a generator of gen/).
-/
import Derived.Test.YtplncglgolhfaaaFE
namespace Go.Proofs.Ytplncglgolhfaaa
open Go.RowKit
set_option maxRecDepth 100000
set_option linter.unusedVariables false
set_option linter.unusedSimpArgs false

set_option maxHeartbeats 32000000 in
theorem row_WorldSums (w : World) (p : SP) (s : SiteD) (hs : SiAt w p s) (A : Option Addr) (c : Nat) (xs : List (Svc × SvA)) (hx : WiAt w A c xs) (q : WP) (d : WorldD) (hd : WoAt w q d) :
    Calls Try.prog 8 #[siV p s, .agg #[.slice A xs.length c], .agg #[.slice q.a1 d.hosts.length q.c1, .slice q.a2 d.reps.length q.c2]] w fun e w' => e = .returned (.bool true) ∧ Below w.heap.size w w' := by
  have HLV := Lib.hid (fun (X : World) => c_live X)
  unfold siV
  obtain ⟨W1, h1⟩ : ∃ W, W = w.alloc (.cells #[.slice p.a1 s.feeds.length p.c1, .slice p.a2 s.brks.length p.c2, .slice p.a3 s.loops.length p.c3, .slice p.a4 s.racks.length p.c4, .int .i64 s.sw, .slice p.a5 s.links.length p.c5, .slice p.a6 s.hosts.length p.c6] 29) := ⟨_, rfl⟩
  obtain ⟨W2, h2⟩ : ∃ W, W = W1.alloc (.cells #[.slice A xs.length c] 32) := ⟨_, rfl⟩
  obtain ⟨W, h3⟩ : ∃ W, W = W2.alloc (.cells (woA q d) 36) := ⟨_, rfl⟩
  obtain ⟨B0, X1, X2, X3⟩ := three_boxes h1 h2 h3
  have HBW := Lib.hid B0
  have S0 := hs.on B0 (Nat.le_refl _)
  have HSS := Lib.hid (fun (X : World) (hX : Below W.heap.size W X) => S0.on hX (Nat.le_refl _))
  have X0 := hx.on B0 (Nat.le_refl _)
  have HXX := Lib.hid (fun (X : World) (hX : Below W.heap.size W X) => X0.on hX (Nat.le_refl _))
  have D0 := hd.on B0 (Nat.le_refl _)
  have HDD := Lib.hid (fun (X : World) (hX : Below W.heap.size W X) => D0.on hX (Nat.le_refl _))
  have HF := Lib.hid (fun (X : World) (hX : Below W.heap.size W X) => (⟨cell_of (box_on X1 hX (Nat.le_refl _)) rfl, cell_of (box_on X1 hX (Nat.le_refl _)) rfl, cell_of (box_on X1 hX (Nat.le_refl _)) rfl, cell_of (box_on X1 hX (Nat.le_refl _)) rfl, cell_of (box_on X1 hX (Nat.le_refl _)) rfl, cell_of (box_on X1 hX (Nat.le_refl _)) rfl, cell_of (box_on X1 hX (Nat.le_refl _)) rfl, cell_of (box_on X2 hX (Nat.le_refl _)) rfl, cell_of (box_on X3 hX (Nat.le_refl _)) rfl, cell_of (box_on X3 hX (Nat.le_refl _)) rfl⟩ : X.cell? ⟨w.heap.size, 0, none⟩ = some (.slice p.a1 s.feeds.length p.c1) ∧ X.cell? ⟨w.heap.size, 1, none⟩ = some (.slice p.a2 s.brks.length p.c2) ∧ X.cell? ⟨w.heap.size, 2, none⟩ = some (.slice p.a3 s.loops.length p.c3) ∧ X.cell? ⟨w.heap.size, 3, none⟩ = some (.slice p.a4 s.racks.length p.c4) ∧ X.cell? ⟨w.heap.size, 4, none⟩ = some (.int .i64 s.sw) ∧ X.cell? ⟨w.heap.size, 5, none⟩ = some (.slice p.a5 s.links.length p.c5) ∧ X.cell? ⟨w.heap.size, 6, none⟩ = some (.slice p.a6 s.hosts.length p.c6) ∧ X.cell? ⟨w.heap.size + 1, 0, none⟩ = some (.slice A xs.length c) ∧ X.cell? ⟨w.heap.size + 1 + 1, 0, none⟩ = some (.slice q.a1 d.hosts.length q.c1) ∧ X.cell? ⟨w.heap.size + 1 + 1, 1, none⟩ = some (.slice q.a2 d.reps.length q.c2)))
  have n1 := hd.hosts.1; have n2 := hd.hosts.2.1; have n3 := hd.reps.1; have n4 := hd.reps.2.1; have n5 := hs.hosts.1; have n6 := hs.hosts.2.1; have n7 := hx.row.1; have n8 := hx.row.2.1
  unfold maxLen at n2 n4 n6 n8
  have HKW := Lib.hid (Below.refl W.heap.size W)
  clear B0 hs hx hd X1 X2 X3 S0 X0 D0
  obtain ⟨f0, f1, f2, f3, f4, f5, f6, g0, g1, g2⟩ := HF.out W HKW.out
  unfold woA at h3
  rw [h3, h2, h1] at f0 f1 f2 f3 f4 f5 f6 g0 g1 g2
  generalize hBB : w.heap.size = B at *
  go_enter Try.func8, Try.ntmps8
  go_wp2_with (fail)
  rw [← h1, ← h2, ← h3] at f0 f1 f2 f3 f4 f5 f6 g0 g1 g2 ⊢
  clear h1 h2 h3 f0 f1 f2 f3 f4 f5 f6 g0 g1 g2
  obtain ⟨r, hr⟩ : ∃ b : Bool, b = true ↔ FewOk s xs d := by
    by_cases h : FewOk s xs d
    · exact ⟨true, by simp [h]⟩
    · exact ⟨false, by simp [h]⟩
  have HR := Lib.hid hr
  clear hr
  go_at_call 10
  refine (c_fewTo p s A c xs q d r HR.out W (HSS.out W HKW.out) (HXX.out W HKW.out) (HDD.out W HKW.out)).mono ?_
  rintro e v1 ⟨rfl, bb⟩
  have HKv1 := Lib.hid (below_join HKW.out bb HKW.out.size)
  clear bb
  cases r
  · skip
    go_wp2_with (fail)
    go_at_call 11
    refine (HLV.out v1).mono ?_
    rintro e v102 ⟨rfl, bb⟩
    have HKv102 := Lib.hid (below_join HKv1.out bb HKv1.out.size)
    clear bb
    go_wp2_with (fail)
    go_ret
    exact ⟨rfl, below_join HBW.out HKv102.out (by rw [← hBB]; exact HBW.out.size)⟩
  obtain ⟨r2, hr2⟩ := bool_of (WorldOk s (svs xs) d)
  have HR2 := Lib.hid hr2
  clear hr2
  obtain ⟨f0, f1, f2, f3, f4, f5, f6, g0, g1, g2⟩ := HF.out v1 HKv1.out
  go_wp2_with (fail)
  clear f0 f1 f2 f3 f4 f5 f6 g0 g1 g2
  go_at_call 15
  refine (c_wvTo p s A c xs q d r2 HR2.out v1 (HSS.out _ HKv1.out) (HXX.out _ HKv1.out) (HDD.out _ HKv1.out)).mono ?_
  rintro e v153 ⟨rfl, bb⟩
  have HKv153 := Lib.hid (below_join HKv1.out bb HKv1.out.size)
  clear bb
  cases r2
  · skip
    go_wp2_with (fail)
    go_at_call 11
    refine (HLV.out v153).mono ?_
    rintro e v254 ⟨rfl, bb⟩
    have HKv254 := Lib.hid (below_join HKv153.out bb HKv153.out.size)
    clear bb
    go_wp2_with (fail)
    go_ret
    exact ⟨rfl, below_join HBW.out HKv254.out (by rw [← hBB]; exact HBW.out.size)⟩
  have HOK := Lib.hid (HR2.out.1 (by trivial))
  have HSM := Lib.hid (sums_ok HOK.out)
  have hns : xs.length ≤ 8 := by have := HOK.out.2.1.1; rw [svs_len] at this; exact this
  have hnr : d.reps.length ≤ 24 := HOK.out.2.2.2.2.1
  have hnh : s.hosts.length ≤ 16 := (siteOk_iff.1 HOK.out.1).nhosts.2
  have HSL := Lib.hid (svs_len xs)
  obtain ⟨fN, hfN⟩ : ∃ f : Nat → Int, f = fun (i : Nat) => (((whereD d.reps (i : Int)).length : Nat) : Int) := ⟨_, rfl⟩
  obtain ⟨fC, hfC⟩ : ∃ f : Nat → Int, f = fun (i : Nat) => (((whereD d.reps (i : Int)).length : Nat) : Int) * coresAt (svs xs) (i : Int) := ⟨_, rfl⟩
  obtain ⟨fU, hfU⟩ : ∃ f : Nat → Int, f = fun (i : Nat) => usedD (svs xs) d.reps (i : Int) := ⟨_, rfl⟩
  have HFN := Lib.hid hfN
  have HFC := Lib.hid hfC
  have HFU := Lib.hid hfU
  have HBN := Lib.hid (show ∀ i, i < xs.length → 0 ≤ fN i ∧ fN i ≤ 24 from fun i hi => by rw [hfN]; have := where_len d.reps i; simp only; omega)
  have HBC := Lib.hid (show ∀ i, i < xs.length → 0 ≤ fC i ∧ fC i ≤ 24000 from fun i hi => by
    rw [hfC]
    have h1 := where_len d.reps i
    have h2 := HSM.out.2.2.2 i (by rw [HSL.out]; exact hi)
    simp only
    have h3 : (((whereD d.reps i).length : Nat) : Int) * coresAt (svs xs) i ≤ 24 * 1000 := Int.mul_le_mul (by omega) h2.2 (by omega) (by omega)
    exact ⟨Int.mul_nonneg (by omega) (by omega), by omega⟩)
  have HBU := Lib.hid (show ∀ i, i < s.hosts.length → 0 ≤ fU i ∧ fU i ≤ 24000 from fun i hi => by rw [hfU]; exact HSM.out.2.2.1 i)
  clear hfN hfC hfU
  go_wp2_with (fail)
  go_loopw [7, 8, 10] (fun n m i wr => ∃ k : Nat, k ≤ xs.length ∧ n = .int .i64 (sumN fN k) ∧ m = .int .i64 (sumN fC k) ∧ i = .int .i64 (k : Int) ∧ Hid (Below W.heap.size W wr)) (fun _ _ i _ => xs.length - (intOf i).toNat)
  case atStart => exact ⟨0, Nat.zero_le _, rfl, rfl, rfl, HKv153⟩
  case round =>
    obtain ⟨k, hk, rfl, rfl, rfl, hK⟩ := hrel
    have hki : ((k : Nat) : Int).toNat = k := by omega
    obtain ⟨f0, f1, f2, f3, f4, f5, f6, g0, g1, g2⟩ := HF.out wr hK.out
    obtain ⟨N, hN⟩ : ∃ N, sumN fN k = N := ⟨_, rfl⟩
    obtain ⟨M, hM⟩ : ∃ M, sumN fC k = M := ⟨_, rfl⟩
    have HN := Lib.hid hN
    have HM := Lib.hid hM
    have bN := sumN_bound (f := fN) (m := 24) (n := k) (fun i hi => HBN.out i (by omega))
    have bM := sumN_bound (f := fC) (m := 24000) (n := k) (fun i hi => HBC.out i (by omega))
    rw [hN] at bN ⊢
    rw [hM] at bM ⊢
    clear hN hM
    by_cases hlt : k < xs.length
    · have hkl : (k : Int) < (xs.length : Int) := by omega
      obtain ⟨x, hx⟩ : ∃ x, xs[k]? = some x := ⟨_, List.getElem?_eq_getElem hlt⟩
      have HX1 := Lib.hid hx
      obtain ⟨l, hl⟩ : ∃ l, whereD d.reps (k : Int) = l := ⟨_, rfl⟩
      have HL := Lib.hid hl
      have hll : l.length ≤ 24 := by rw [← hl]; exact Nat.le_trans (where_len _ _) hnr
      have HWH := Lib.hid (show ∀ (j : Nat) z, l[j]? = some z → 0 ≤ z ∧ z < s.hosts.length from fun j z hz => by
        rw [← hl] at hz
        obtain ⟨r, hr, rfl⟩ := where_host (List.mem_of_getElem? hz)
        have h1 := HOK.out.2.2.2.2.2.1 r hr
        unfold repOk at h1
        rw [Bool.and_eq_true, ixB_iff, ixB_iff] at h1
        exact h1.2)
      have HNE := Lib.hid (show sumN fN (k + 1) = N + (l.length : Int) by rw [sumN, HN.out, HFN.out, ← hl])
      have hcb := HSM.out.2.2.2 k (by rw [HSL.out]; exact hlt)
      have hcc := cores_at hx
      rw [hcc] at hcb
      obtain ⟨pr, hpr⟩ : ∃ pr, (l.length : Int) * x.1.cores = pr := ⟨_, rfl⟩
      have HPR := Lib.hid hpr
      have hprb := HBC.out k hlt
      have HFK := Lib.hid (show fC k = pr by rw [HFC.out]; simp only; rw [hl, hcc, hpr])
      rw [HFK.out] at hprb
      have HME := Lib.hid (show sumN fC (k + 1) = M + pr by rw [sumN, HM.out, HFK.out])
      clear hx hl hcc hpr
      go_wp2_with (fail)
      go_at_call 16
      refine (c_runsTo q d (k : Int) (l.length : Int) (by rw [HL.out]) (by omega) wr (HDD.out _ hK.out)).mono ?_
      rintro e w1 ⟨rfl, b1⟩
      have K1 := Lib.hid (below_join hK.out b1 hK.out.size)
      clear b1 f0 f1 f2 f3 f4 f5 f6 g0 g1 g2
      obtain ⟨f0, f1, f2, f3, f4, f5, f6, g0, g1, g2⟩ := HF.out w1 K1.out
      go_wp2_with (fail)
      go_at_call 19
      refine (c_whereTo q d (k : Int) l HL.out (by omega) w1 (HDD.out _ K1.out)).mono ?_
      rintro e w2 ⟨Ay, cy, rfl, ry, b2⟩
      have K2 := Lib.hid (below_join K1.out b2 K1.out.size)
      have RY := Lib.hid ry
      have hrc := ry.1
      have hrm := ry.2.1
      unfold maxLen at hrm
      clear b2 ry f0 f1 f2 f3 f4 f5 f6 g0 g1 g2
      obtain ⟨f0, f1, f2, f3, f4, f5, f6, g0, g1, g2⟩ := HF.out w2 K2.out
      have K20 := Lib.hid (Below.refl w2.heap.size w2)
      go_wp2_with (fail)
      clear f0 f1 f2 f3 f4 f5 f6 g0 g1 g2
      go_loopw [13] (fun i wr => ∃ j : Nat, j ≤ l.length ∧ i = .int .i64 (j : Int) ∧ Hid (Below w2.heap.size w2 wr)) (fun i _ => l.length - (intOf i).toNat)
      case atStart => exact ⟨0, Nat.zero_le _, rfl, K20⟩
      case round =>
        obtain ⟨j, hj, rfl, hJ⟩ := hrel
        have hji : ((j : Nat) : Int).toNat = j := by omega
        have HKJ := Lib.hid (below_join K2.out hJ.out K2.out.size)
        obtain ⟨f0, f1, f2, f3, f4, f5, f6, g0, g1, g2⟩ := HF.out _ HKJ.out
        by_cases hlj : j < l.length
        · obtain ⟨z, hz⟩ : ∃ z, l[j]? = some z := ⟨_, List.getElem?_eq_getElem hlj⟩
          have HRJ := RY.out.on hJ.out (Nat.le_refl _)
          obtain ⟨b, o, rfl, -, -⟩ := HRJ.at_ hz
          have y0 := inRw HRJ hz
          have hjl : (j : Int) < (l.length : Int) := by omega
          have hzb := HWH.out j z hz
          have d1 : decide (z < 0) = false := decide_eq_false (by omega)
          have d2 : decide ((s.hosts.length : Int) ≤ z) = false := decide_eq_false (by omega)
          clear hz HRJ hzb
          go_wp2_with (fail)
          go_quiet (fail)
          go_wp2_with (fail)
          go_roundw
          case rel => exact ⟨j + 1, by omega, by go_num, Lib.hid (below_drewN hJ.out)⟩
          case measure => simp only [intOf]; omega
        · obtain rfl : j = l.length := by omega
          have HXK := HXX.out _ HKJ.out
          obtain ⟨pb, po, rfl, -, -⟩ := HXK.row.at_ HX1.out
          have y0 := (sv_at HXK.row HX1.out).1
          have hpr := HPR.out
          clear HXK
          go_wp2_with (fail)
          refine ⟨⟨k + 1, by omega, by rw [HNE.out], by rw [HME.out], by go_num, HKJ⟩, by simp only [intOf]; omega⟩
    · obtain rfl : k = xs.length := by omega
      obtain ⟨S1, S2, -, -⟩ := HSM.out
      rw [HSL.out] at S1 S2
      have HN1 := Lib.hid (show N = (d.reps.length : Int) by rw [← HN.out, HFN.out]; exact S1)
      have HM1 := Lib.hid (show M = sumN fU s.hosts.length by rw [← HM.out, HFC.out, HFU.out]; exact S2)
      clear S1 S2
      obtain ⟨uh, hu⟩ : ∃ k, k = xs.length := ⟨_, rfl⟩
      go_wp2_with (fail)
      clear f0 f1 f2 f3 f4 f5 f6 g0 g1 g2 hu
      go_loopw [9, 14] (fun m i wr => ∃ k : Nat, k ≤ s.hosts.length ∧ m = .int .i64 (sumN fU k) ∧ i = .int .i64 (k : Int) ∧ Hid (Below W.heap.size W wr)) (fun _ i _ => s.hosts.length - (intOf i).toNat)
      case atStart => exact ⟨0, Nat.zero_le _, rfl, rfl, hK⟩
      case round =>
        obtain ⟨j, hj, rfl, rfl, hJ⟩ := hrel
        have hji : ((j : Nat) : Int).toNat = j := by omega
        obtain ⟨f0, f1, f2, f3, f4, f5, f6, g0, g1, g2⟩ := HF.out wr hJ.out
        obtain ⟨U, hU⟩ : ∃ U, sumN fU j = U := ⟨_, rfl⟩
        have HU := Lib.hid hU
        have bU := sumN_bound (f := fU) (m := 24000) (n := j) (fun i hi => HBU.out i (by omega))
        rw [hU] at bU ⊢
        clear hU
        by_cases hlj : j < s.hosts.length
        · have hjl : (j : Int) < (s.hosts.length : Int) := by omega
          obtain ⟨z, hz⟩ : ∃ z, usedD (svs xs) d.reps (j : Int) = z := ⟨_, rfl⟩
          have HZ := Lib.hid hz
          have hzb := HBU.out j hlj
          have HUK := Lib.hid (show fU j = z by rw [HFU.out]; exact hz)
          rw [HUK.out] at hzb
          have HUE := Lib.hid (show sumN fU (j + 1) = U + z by rw [sumN, HU.out, HUK.out])
          clear hz
          go_wp2_with (fail)
          go_at_call 23
          refine (c_usedTo A c xs q d (j : Int) z HZ.out wr (HXX.out _ hJ.out) (HDD.out _ hJ.out)).mono ?_
          rintro e w1 ⟨rfl, b1⟩
          have K1 := Lib.hid (below_join hJ.out b1 hJ.out.size)
          clear b1 f0 f1 f2 f3 f4 f5 f6 g0 g1 g2
          go_wp2_with (fail)
          go_roundw
          case rel => exact ⟨j + 1, by omega, by rw [HUE.out], by go_num, K1⟩
          case measure => simp only [intOf]; omega
        · obtain rfl : j = s.hosts.length := by omega
          have e1 : (N == (d.reps.length : Int)) = true := by rw [HN1.out]; simp
          have e2 : (M == U) = true := by rw [HM1.out, HU.out]; simp
          go_wp2_with (fail)
          go_at_call 11
          refine (HLV.out wr).mono ?_
          rintro e w1 ⟨rfl, b1⟩
          have K1 := Lib.hid (below_join hJ.out b1 hJ.out.size)
          clear b1
          go_wp2_with (fail)
          go_ret
          exact ⟨rfl, below_join HBW.out K1.out (by rw [← hBB]; exact HBW.out.size)⟩
end Go.Proofs.Ytplncglgolhfaaa
