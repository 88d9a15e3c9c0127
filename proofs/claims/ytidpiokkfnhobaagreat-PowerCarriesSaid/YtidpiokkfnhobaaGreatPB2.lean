/-
  DERIVED. Several texts in one.
-/
import Derived.Test.YtidpiokkfnhobaaGreatPB1
import Derived.RegionTactic
import Derived.Deep.RegionHeld3
set_option linter.unusedVariables false
set_option linter.unusedSimpArgs false

namespace Go.Proofs.YtidpiokkfnhobaaGreat
open Go.RowKit
set_option maxRecDepth 100000
set_option linter.unusedVariables false
set_option linter.unusedSimpArgs false

set_option maxHeartbeats 8000000 in
theorem c_stValid (p : SP) (s : SiteD) (r : Bool) (hr : siteOk s = r) (w : World) (h : SiAt w p s) :
    Calls Tryz.prog 50 #[siV p s] w fun e w' => e = .returned (.bool r) ∧ Below w.heap.size w w' := by
  unfold siV
  obtain ⟨W, hW⟩ : ∃ W, W = w.alloc (.cells #[.slice p.a1 s.feeds.length p.c1, .slice p.a2 s.brks.length p.c2, .slice p.a3 s.loops.length p.c3, .slice p.a4 s.racks.length p.c4, .int .i64 s.sw, .slice p.a5 s.links.length p.c5, .slice p.a6 s.hosts.length p.c6] 29) := ⟨_, rfl⟩
  have B0 : Below w.heap.size w W := by subst hW; exact (Below.refl _ _).alloc (Nat.le_refl _) _
  have HB0 := Lib.hid B0
  have HX := Lib.hid (show SiBox W w.heap.size p s by subst hW; exact siBox_new _ _ _)
  have HA := Lib.hid (h.on B0 (Nat.le_refl _))
  have HR := Lib.hid (show (areB 1 8 [s.sw] && (goodB feedBad 1 4 s.feeds && (goodB (brkBad s.feeds.length) 1 8 s.brks && (goodB lpBad 1 4 s.loops && (goodB (rkBad s.brks.length s.loops.length s.sw) 1 8 s.racks && (goodB (lkBad s.sw) 0 16 s.links && (goodB (hsBad s.racks.length) 1 16 s.hosts))))))) = r from hr)
  have KW := Lib.hid (Below.refl W.heap.size W)
  clear B0 hr h
  have x0 := HX.out.c4
  rw [hW] at x0
  obtain ⟨V, hV⟩ : ∃ X, X = W.alloc (.cells #[.int .i64 s.sw] 3) := ⟨_, rfl⟩
  have bV : Below W.heap.size W V := by subst hV; exact (Below.refl _ _).alloc (Nat.le_refl _) _
  have RV := Lib.hid (show Rw 1 inF V (some ⟨w.heap.size + 1, 0, none⟩) 1 [s.sw] by subst hV; have h := rw_lit [s.sw] (by simp [maxLen]) W; rw [show W.heap.size = w.heap.size + 1 from by rw [hW, World.size_alloc]] at h; exact h)
  have HV := Lib.hid bV
  clear bV
  go_enter Tryz.func50, Tryz.ntmps50
  obtain ⟨r0, h0⟩ : ∃ b, areB 1 8 [s.sw] = b := ⟨_, rfl⟩
  have Q0 := Lib.hid h0
  clear h0
  go_wp2_with (fail)
  rw [← hW, ← hV]
  clear hW hV x0
  go_at_call 71
  refine (c_areFrom 1 8 (some ⟨w.heap.size + 1, 0, none⟩) 1 [s.sw] V RV.out r0 Q0.out).mono ?_
  rintro e w1 ⟨rfl, b1⟩
  have K1 := Lib.hid (below_join HV.out b1 HV.out.size)
  clear b1
  cases r0
  · obtain rfl : false = r := by have h := HR.out; rw [show (areB 1 8 [s.sw]) = false from Q0.out] at h; exact h
    go_wp2_with (fail)
    go_ret
    exact ⟨rfl, below_join HB0.out K1.out HB0.out.size⟩
  have x1 := (HX.out.on K1.out (Nat.le_refl _)).c0
  obtain ⟨r1, h1⟩ : ∃ b, goodB feedBad 1 4 s.feeds = b := ⟨_, rfl⟩
  have Q1 := Lib.hid h1
  clear h1
  go_wp2_with (fail)
  clear x1
  go_at_call 78
  refine (c_goodFeed 1 4 p.a1 p.c1 s.feeds w1 ((HA.out.on K1.out (Nat.le_refl _)).feeds) r1 Q1.out).mono ?_
  rintro e w2 ⟨rfl, b2⟩
  have K2 := Lib.hid (below_join K1.out b2 K1.out.size)
  clear b2
  cases r1
  · obtain rfl : false = r := by have h := HR.out; rw [show (areB 1 8 [s.sw]) = true from Q0.out, show (goodB feedBad 1 4 s.feeds) = false from Q1.out] at h; exact h
    go_wp2_with (fail)
    go_ret
    exact ⟨rfl, below_join HB0.out K2.out HB0.out.size⟩
  have x2 := (HX.out.on K2.out (Nat.le_refl _)).c1
  obtain ⟨r2, h2⟩ : ∃ b, goodB (brkBad s.feeds.length) 1 8 s.brks = b := ⟨_, rfl⟩
  have Q2 := Lib.hid h2
  clear h2
  go_wp2_with (fail)
  clear x2
  go_at_call 79
  refine (c_goodBreaker w.heap.size p s 1 8 p.a2 p.c2 s.brks w2 (HX.out.on K2.out (Nat.le_refl _)) ((HA.out.on K2.out (Nat.le_refl _)).brks) r2 Q2.out).mono ?_
  rintro e w3 ⟨rfl, b3⟩
  have K3 := Lib.hid (below_join K2.out b3 K2.out.size)
  clear b3
  cases r2
  · obtain rfl : false = r := by have h := HR.out; rw [show (areB 1 8 [s.sw]) = true from Q0.out, show (goodB feedBad 1 4 s.feeds) = true from Q1.out, show (goodB (brkBad s.feeds.length) 1 8 s.brks) = false from Q2.out] at h; exact h
    go_wp2_with (fail)
    go_ret
    exact ⟨rfl, below_join HB0.out K3.out HB0.out.size⟩
  have x3 := (HX.out.on K3.out (Nat.le_refl _)).c2
  obtain ⟨r3, h3⟩ : ∃ b, goodB lpBad 1 4 s.loops = b := ⟨_, rfl⟩
  have Q3 := Lib.hid h3
  clear h3
  go_wp2_with (fail)
  clear x3
  go_at_call 80
  refine (c_goodLoop 1 4 p.a3 p.c3 s.loops w3 ((HA.out.on K3.out (Nat.le_refl _)).loops) r3 Q3.out).mono ?_
  rintro e w4 ⟨rfl, b4⟩
  have K4 := Lib.hid (below_join K3.out b4 K3.out.size)
  clear b4
  cases r3
  · obtain rfl : false = r := by have h := HR.out; rw [show (areB 1 8 [s.sw]) = true from Q0.out, show (goodB feedBad 1 4 s.feeds) = true from Q1.out, show (goodB (brkBad s.feeds.length) 1 8 s.brks) = true from Q2.out, show (goodB lpBad 1 4 s.loops) = false from Q3.out] at h; exact h
    go_wp2_with (fail)
    go_ret
    exact ⟨rfl, below_join HB0.out K4.out HB0.out.size⟩
  have x4 := (HX.out.on K4.out (Nat.le_refl _)).c3
  obtain ⟨r4, h4⟩ : ∃ b, goodB (rkBad s.brks.length s.loops.length s.sw) 1 8 s.racks = b := ⟨_, rfl⟩
  have Q4 := Lib.hid h4
  clear h4
  go_wp2_with (fail)
  clear x4
  go_at_call 81
  refine (c_goodRack w.heap.size p s 1 8 p.a4 p.c4 s.racks w4 (HX.out.on K4.out (Nat.le_refl _)) ((HA.out.on K4.out (Nat.le_refl _)).racks) r4 Q4.out).mono ?_
  rintro e w5 ⟨rfl, b5⟩
  have K5 := Lib.hid (below_join K4.out b5 K4.out.size)
  clear b5
  cases r4
  · obtain rfl : false = r := by have h := HR.out; rw [show (areB 1 8 [s.sw]) = true from Q0.out, show (goodB feedBad 1 4 s.feeds) = true from Q1.out, show (goodB (brkBad s.feeds.length) 1 8 s.brks) = true from Q2.out, show (goodB lpBad 1 4 s.loops) = true from Q3.out, show (goodB (rkBad s.brks.length s.loops.length s.sw) 1 8 s.racks) = false from Q4.out] at h; exact h
    go_wp2_with (fail)
    go_ret
    exact ⟨rfl, below_join HB0.out K5.out HB0.out.size⟩
  have x5 := (HX.out.on K5.out (Nat.le_refl _)).c5
  obtain ⟨r5, h5⟩ : ∃ b, goodB (lkBad s.sw) 0 16 s.links = b := ⟨_, rfl⟩
  have Q5 := Lib.hid h5
  clear h5
  go_wp2_with (fail)
  clear x5
  go_at_call 82
  refine (c_goodLink w.heap.size p s 0 16 p.a5 p.c5 s.links w5 (HX.out.on K5.out (Nat.le_refl _)) ((HA.out.on K5.out (Nat.le_refl _)).links) r5 Q5.out).mono ?_
  rintro e w6 ⟨rfl, b6⟩
  have K6 := Lib.hid (below_join K5.out b6 K5.out.size)
  clear b6
  cases r5
  · obtain rfl : false = r := by have h := HR.out; rw [show (areB 1 8 [s.sw]) = true from Q0.out, show (goodB feedBad 1 4 s.feeds) = true from Q1.out, show (goodB (brkBad s.feeds.length) 1 8 s.brks) = true from Q2.out, show (goodB lpBad 1 4 s.loops) = true from Q3.out, show (goodB (rkBad s.brks.length s.loops.length s.sw) 1 8 s.racks) = true from Q4.out, show (goodB (lkBad s.sw) 0 16 s.links) = false from Q5.out] at h; exact h
    go_wp2_with (fail)
    go_ret
    exact ⟨rfl, below_join HB0.out K6.out HB0.out.size⟩
  have x6 := (HX.out.on K6.out (Nat.le_refl _)).c6
  obtain ⟨r6, h6⟩ : ∃ b, goodB (hsBad s.racks.length) 1 16 s.hosts = b := ⟨_, rfl⟩
  have Q6 := Lib.hid h6
  clear h6
  go_wp2_with (fail)
  clear x6
  go_at_call 83
  refine (c_goodHost w.heap.size p s 1 16 p.a6 p.c6 s.hosts w6 (HX.out.on K6.out (Nat.le_refl _)) ((HA.out.on K6.out (Nat.le_refl _)).hosts) r6 Q6.out).mono ?_
  rintro e w7 ⟨rfl, b7⟩
  have K7 := Lib.hid (below_join K6.out b7 K6.out.size)
  clear b7
  cases r6
  · obtain rfl : false = r := by have h := HR.out; rw [show (areB 1 8 [s.sw]) = true from Q0.out, show (goodB feedBad 1 4 s.feeds) = true from Q1.out, show (goodB (brkBad s.feeds.length) 1 8 s.brks) = true from Q2.out, show (goodB lpBad 1 4 s.loops) = true from Q3.out, show (goodB (rkBad s.brks.length s.loops.length s.sw) 1 8 s.racks) = true from Q4.out, show (goodB (lkBad s.sw) 0 16 s.links) = true from Q5.out, show (goodB (hsBad s.racks.length) 1 16 s.hosts) = false from Q6.out] at h; exact h
    go_wp2_with (fail)
    go_ret
    exact ⟨rfl, below_join HB0.out K7.out HB0.out.size⟩
  · obtain rfl : true = r := by have h := HR.out; rw [show (areB 1 8 [s.sw]) = true from Q0.out, show (goodB feedBad 1 4 s.feeds) = true from Q1.out, show (goodB (brkBad s.feeds.length) 1 8 s.brks) = true from Q2.out, show (goodB lpBad 1 4 s.loops) = true from Q3.out, show (goodB (rkBad s.brks.length s.loops.length s.sw) 1 8 s.racks) = true from Q4.out, show (goodB (lkBad s.sw) 0 16 s.links) = true from Q5.out, show (goodB (hsBad s.racks.length) 1 16 s.hosts) = true from Q6.out] at h; exact h
    go_wp2_with (fail)
    go_ret
    exact ⟨rfl, below_join HB0.out K7.out HB0.out.size⟩
end Go.Proofs.YtidpiokkfnhobaaGreat

namespace Go.Proofs.YtidpiokkfnhobaaGreat
open Go.RowKit
set_option maxRecDepth 100000
set_option linter.unusedVariables false
set_option linter.unusedSimpArgs false

set_option maxHeartbeats 2000000 in
theorem c_within (n lo hi : Int) (r : Bool) (hr : inB n lo hi = r) (w : World) : Calls Tryz.prog 67 #[.int .i64 n, .int .i64 lo, .int .i64 hi] w fun e w' => e = .returned (.bool r) ∧ w' = w := by
  unfold inB at hr
  rcases h1 : decide (lo ≤ n) with _ | _
  · rw [h1] at hr
    obtain rfl : false = r := hr
    go_enter Tryz.func67, Tryz.ntmps67
    go_wp2
    go_ret
    exact ⟨rfl, rfl⟩
  · rw [h1] at hr
    obtain rfl : decide (n ≤ hi) = r := hr
    go_enter Tryz.func67, Tryz.ntmps67
    go_wp2
    go_ret
    exact ⟨rfl, rfl⟩
set_option maxHeartbeats 16000000 in
theorem c_power (p : SP) (s : SiteD) (r : Bool) (hr : pwOk s = r) (w : World) (h : SiAt w p s) :
    Calls Tryz.prog 65 #[siV p s] w fun e w' => e = .returned (.bool r) ∧ Below w.heap.size w w' := by
  unfold siV
  obtain ⟨W, hW⟩ : ∃ W, W = w.alloc (.cells #[.slice p.a1 s.feeds.length p.c1, .slice p.a2 s.brks.length p.c2, .slice p.a3 s.loops.length p.c3, .slice p.a4 s.racks.length p.c4, .int .i64 s.sw, .slice p.a5 s.links.length p.c5, .slice p.a6 s.hosts.length p.c6] 29) := ⟨_, rfl⟩
  have B0 : Below w.heap.size w W := by subst hW; exact (Below.refl _ _).alloc (Nat.le_refl _) _
  have HB0 := Lib.hid B0
  have HX := Lib.hid (show SiBox W w.heap.size p s by subst hW; exact siBox_new _ _ _)
  have HA := Lib.hid (h.on B0 (Nat.le_refl _))
  have HF := Lib.hid (fun (X : World) (hX : Below W.heap.size W X) => (let z := HX.out.on hX (Nat.le_refl _); ⟨z.c0, z.c1, z.c2, z.c3, z.c4, z.c5, z.c6⟩ : X.cell? ⟨w.heap.size, 0, none⟩ = some (.slice p.a1 s.feeds.length p.c1) ∧ X.cell? ⟨w.heap.size, 1, none⟩ = some (.slice p.a2 s.brks.length p.c2) ∧ X.cell? ⟨w.heap.size, 2, none⟩ = some (.slice p.a3 s.loops.length p.c3) ∧ X.cell? ⟨w.heap.size, 3, none⟩ = some (.slice p.a4 s.racks.length p.c4) ∧ X.cell? ⟨w.heap.size, 4, none⟩ = some (.int .i64 s.sw) ∧ X.cell? ⟨w.heap.size, 5, none⟩ = some (.slice p.a5 s.links.length p.c5) ∧ X.cell? ⟨w.heap.size, 6, none⟩ = some (.slice p.a6 s.hosts.length p.c6)))
  have m1 := h.feeds.1; have m2 := h.brks.1; have m3 := h.loops.1; have m4 := h.racks.1; have m5 := h.links.1; have m6 := h.hosts.1
  have n1 := h.feeds.2.1; have n2 := h.brks.2.1; have n3 := h.loops.2.1; have n4 := h.racks.2.1; have n5 := h.links.2.1; have n6 := h.hosts.2.1
  unfold maxLen at n1 n2 n3 n4 n5 n6
  have KW := Lib.hid (Below.refl W.heap.size W)
  have HR := Lib.hid hr
  have hlw : w.heap.size < W.heap.size := HX.out.lt
  clear B0 hr h
  obtain ⟨f0, f1, f2, f3, f4, f5, f6⟩ := HF.out W KW.out
  rw [hW] at f0 f1 f2 f3 f4 f5 f6
  go_enter Tryz.func65, Tryz.ntmps65
  obtain ⟨r0, h0⟩ : ∃ b, inB (s.feeds.length : Int) 1 4 = b := ⟨_, rfl⟩
  have P0 := Lib.hid h0
  clear h0
  go_wp2_with (fail)
  rw [← hW] at f0 f1 f2 f3 f4 f5 f6 ⊢
  clear hW
  go_at_call 67
  refine (c_within (s.feeds.length : Int) 1 4 r0 P0.out W).mono ?_
  rintro e w0 ⟨rfl, hw0⟩
  rw [hw0]
  clear hw0
  cases r0
  · obtain rfl : false = r := by have h := HR.out; unfold pwOk at h; rw [show inB (s.feeds.length : Int) 1 4 = false from P0.out] at h; exact h
    go_wp2_with (fail)
    go_ret
    exact ⟨rfl, below_join HB0.out KW.out HB0.out.size⟩
  obtain ⟨r1, h1⟩ : ∃ b, inB (s.brks.length : Int) 1 8 = b := ⟨_, rfl⟩
  have P1 := Lib.hid h1
  clear h1
  go_wp2_with (fail)
  go_at_call 67
  refine (c_within (s.brks.length : Int) 1 8 r1 P1.out W).mono ?_
  rintro e w1 ⟨rfl, hw1⟩
  rw [hw1]
  clear hw1
  cases r1
  · obtain rfl : false = r := by have h := HR.out; unfold pwOk at h; rw [show inB (s.feeds.length : Int) 1 4 = true from P0.out, show inB (s.brks.length : Int) 1 8 = false from P1.out] at h; exact h
    go_wp2_with (fail)
    go_ret
    exact ⟨rfl, below_join HB0.out KW.out HB0.out.size⟩
  have HQ := Lib.hid (show (s.feeds.all feedIn && s.brks.all (brkIn s.feeds.length)) = r by have h := HR.out; unfold pwOk at h; rw [show inB (s.feeds.length : Int) 1 4 = true from P0.out, show inB (s.brks.length : Int) 1 8 = true from P1.out] at h; exact h)
  go_wp2_with (fail)
  clear f0 f1 f2 f3 f4 f5 f6
  go_loopw [3] (fun i wr => ∃ k : Nat, k ≤ s.feeds.length ∧ i = .int .i64 (k : Int) ∧ Hid (Below W.heap.size W wr) ∧ Hid ((s.feeds.take k).all feedIn = true)) (fun i _ => s.feeds.length - (intOf i).toNat)
  case atStart => exact ⟨0, Nat.zero_le _, rfl, KW, Lib.hid rfl⟩
  case round =>
    obtain ⟨k, hk, rfl, hB, hall⟩ := hrel
    have hki : ((k : Nat) : Int).toNat = k := by omega
    obtain ⟨f0, f1, f2, f3, f4, f5, f6⟩ := HF.out wr hB.out
    by_cases hlt : k < s.feeds.length
    · obtain ⟨z0, hx⟩ : ∃ x, s.feeds[k]? = some x := ⟨_, List.getElem?_eq_getElem hlt⟩
      have HK := (HA.out.on hB.out (Nat.le_refl _)).feeds
      obtain ⟨pb, po, hpe, hpl, -⟩ := HK.at_ hx
      rw [hpe] at HK f0
      obtain y0 := rwFeed HK hx
      have HXX := Lib.hid hx
      have hlt' : (k : Int) < ((s.feeds.length : Nat) : Int) := by omega
      clear hx HK hpe
      have HG := Lib.hid (show feedIn z0 = (inB z0 0 1000000) from rfl)
      obtain ⟨r0, h0⟩ : ∃ b, inB z0 0 1000000 = b := ⟨_, rfl⟩
      have Q0 := Lib.hid h0
      clear h0
      go_wp2_with (fail)
      go_at_call 67
      refine (c_within z0 0 1000000 r0 Q0.out wr).mono ?_
      rintro e w0 ⟨rfl, hw0⟩
      rw [hw0]
      clear hw0
      cases r0
      · have hf := all_false HXX.out (show feedIn z0 = false by rw [HG.out, show (inB z0 0 1000000) = false from Q0.out] <;> rfl)
        obtain rfl : false = r := by have h := HQ.out; rw [hf] at h; exact h
        go_wp2_with (fail)
        go_ret
        exact ⟨rfl, below_join HB0.out hB.out HB0.out.size⟩
      have HAL := Lib.hid (all_take_succ HXX.out hall.out (show feedIn z0 = true by rw [HG.out, show (inB z0 0 1000000) = true from Q0.out] <;> rfl))
      go_wp2_with (fail)
      go_roundw
      case rel => exact ⟨k + 1, by omega, by go_num, hB, HAL⟩
      case measure => simp only [intOf]; omega
    · obtain rfl : k = s.feeds.length := by omega
      have A_feeds := Lib.hid (show s.feeds.all feedIn = true by have h := hall.out; rwa [List.take_length] at h)
      obtain ⟨U_feeds, hU⟩ : ∃ z, z = wr := ⟨_, rfl⟩
      subst hU
      have K_feeds := hB
      clear hall hB hlt hk hki
      go_wp2_with (fail)
      clear f0 f1 f2 f3 f4 f5 f6
      go_loopw [4] (fun i wr => ∃ k : Nat, k ≤ s.brks.length ∧ i = .int .i64 (k : Int) ∧ Hid (Below W.heap.size W wr) ∧ Hid ((s.brks.take k).all (brkIn s.feeds.length) = true)) (fun i _ => s.brks.length - (intOf i).toNat)
      case atStart => exact ⟨0, Nat.zero_le _, rfl, K_feeds, Lib.hid rfl⟩
      case round =>
        obtain ⟨k, hk, rfl, hB, hall⟩ := hrel
        have hki : ((k : Nat) : Int).toNat = k := by omega
        obtain ⟨f0, f1, f2, f3, f4, f5, f6⟩ := HF.out wr hB.out
        by_cases hlt : k < s.brks.length
        · obtain ⟨⟨z0, z1, z2, z3⟩, hx⟩ : ∃ x, s.brks[k]? = some x := ⟨_, List.getElem?_eq_getElem hlt⟩
          have HK := (HA.out.on hB.out (Nat.le_refl _)).brks
          obtain ⟨pb, po, hpe, hpl, -⟩ := HK.at_ hx
          rw [hpe] at HK f1
          obtain ⟨y0, y1, y2, y3⟩ := rwBreaker HK hx
          have HXX := Lib.hid hx
          have hlt' : (k : Int) < ((s.brks.length : Nat) : Int) := by omega
          clear hx HK hpe
          obtain ⟨V, hV⟩ : ∃ V, V = wr.alloc (.cells #[.int .i64 z0, .int .i64 z1, .int .i64 z2, .int .i64 z3] 48) := ⟨_, rfl⟩
          have hBV : Below W.heap.size W V := by subst hV; exact hB.out.alloc hB.out.size _
          have HBV := Lib.hid hBV
          have HVA := Lib.hid (show V.heap[wr.heap.size]? = some (.cells #[.int .i64 z0, .int .i64 z1, .int .i64 z2, .int .i64 z3] 48 (0, 0)) by subst hV; exact heap_alloc_new _ _)
          have hzw : W.heap.size ≤ wr.heap.size := hB.out.size
          clear hBV
          obtain ⟨g0, g1, g2, g3, g4, g5, g6⟩ := HF.out V HBV.out
          have v0 : V.cell? ⟨wr.heap.size, 0, none⟩ = some (.int .i64 z0) := cell_of HVA.out rfl
          have v1 : V.cell? ⟨wr.heap.size, 1, none⟩ = some (.int .i64 z1) := cell_of HVA.out rfl
          have v2 : V.cell? ⟨wr.heap.size, 2, none⟩ = some (.int .i64 z2) := cell_of HVA.out rfl
          have v3 : V.cell? ⟨wr.heap.size, 3, none⟩ = some (.int .i64 z3) := cell_of HVA.out rfl
          rw [hV] at g0 g1 g2 g3 g4 g5 g6 v0 v1 v2 v3
          have HG := Lib.hid (show (brkIn s.feeds.length) ⟨z0, z1, z2, z3⟩ = (inB z0 0 ((s.feeds.length : Int) - 1) && (inB z1 0 1000000 && (inB z2 0 1000000 && (inB z3 0 1000000)))) from rfl)
          obtain ⟨r0, h0⟩ : ∃ b, inB z0 0 ((s.feeds.length : Int) - 1) = b := ⟨_, rfl⟩
          have Q0 := Lib.hid h0
          clear h0
          go_wp2_with (fail)
          rw [← hV] at g0 g1 g2 g3 g4 g5 g6 v0 v1 v2 v3 ⊢
          clear hV y0 y1 y2 y3 f0 f1 f2 f3 f4 f5 f6
          go_at_call 67
          refine (c_within z0 0 ((s.feeds.length : Int) - 1) r0 Q0.out V).mono ?_
          rintro e w0 ⟨rfl, hw0⟩
          rw [hw0]
          clear hw0
          cases r0
          · have hf := all_false HXX.out (show (brkIn s.feeds.length) ⟨z0, z1, z2, z3⟩ = false by rw [HG.out, show (inB z0 0 ((s.feeds.length : Int) - 1)) = false from Q0.out] <;> rfl)
            obtain rfl : false = r := by have h := HQ.out; rw [A_feeds.out, hf] at h; exact h
            go_wp2_with (fail)
            go_ret
            exact ⟨rfl, below_join HB0.out HBV.out HB0.out.size⟩
          obtain ⟨r1, h1⟩ : ∃ b, inB z1 0 1000000 = b := ⟨_, rfl⟩
          have Q1 := Lib.hid h1
          clear h1
          go_wp2_with (fail)
          go_at_call 67
          refine (c_within z1 0 1000000 r1 Q1.out V).mono ?_
          rintro e w1 ⟨rfl, hw1⟩
          rw [hw1]
          clear hw1
          cases r1
          · have hf := all_false HXX.out (show (brkIn s.feeds.length) ⟨z0, z1, z2, z3⟩ = false by rw [HG.out, show (inB z0 0 ((s.feeds.length : Int) - 1)) = true from Q0.out, show (inB z1 0 1000000) = false from Q1.out] <;> rfl)
            obtain rfl : false = r := by have h := HQ.out; rw [A_feeds.out, hf] at h; exact h
            go_wp2_with (fail)
            go_ret
            exact ⟨rfl, below_join HB0.out HBV.out HB0.out.size⟩
          obtain ⟨r2, h2⟩ : ∃ b, inB z2 0 1000000 = b := ⟨_, rfl⟩
          have Q2 := Lib.hid h2
          clear h2
          go_wp2_with (fail)
          go_at_call 67
          refine (c_within z2 0 1000000 r2 Q2.out V).mono ?_
          rintro e w2 ⟨rfl, hw2⟩
          rw [hw2]
          clear hw2
          cases r2
          · have hf := all_false HXX.out (show (brkIn s.feeds.length) ⟨z0, z1, z2, z3⟩ = false by rw [HG.out, show (inB z0 0 ((s.feeds.length : Int) - 1)) = true from Q0.out, show (inB z1 0 1000000) = true from Q1.out, show (inB z2 0 1000000) = false from Q2.out] <;> rfl)
            obtain rfl : false = r := by have h := HQ.out; rw [A_feeds.out, hf] at h; exact h
            go_wp2_with (fail)
            go_ret
            exact ⟨rfl, below_join HB0.out HBV.out HB0.out.size⟩
          obtain ⟨r3, h3⟩ : ∃ b, inB z3 0 1000000 = b := ⟨_, rfl⟩
          have Q3 := Lib.hid h3
          clear h3
          go_wp2_with (fail)
          go_at_call 67
          refine (c_within z3 0 1000000 r3 Q3.out V).mono ?_
          rintro e w3 ⟨rfl, hw3⟩
          rw [hw3]
          clear hw3
          cases r3
          · have hf := all_false HXX.out (show (brkIn s.feeds.length) ⟨z0, z1, z2, z3⟩ = false by rw [HG.out, show (inB z0 0 ((s.feeds.length : Int) - 1)) = true from Q0.out, show (inB z1 0 1000000) = true from Q1.out, show (inB z2 0 1000000) = true from Q2.out, show (inB z3 0 1000000) = false from Q3.out] <;> rfl)
            obtain rfl : false = r := by have h := HQ.out; rw [A_feeds.out, hf] at h; exact h
            go_wp2_with (fail)
            go_ret
            exact ⟨rfl, below_join HB0.out HBV.out HB0.out.size⟩
          have HAL := Lib.hid (all_take_succ HXX.out hall.out (show (brkIn s.feeds.length) ⟨z0, z1, z2, z3⟩ = true by rw [HG.out, show (inB z0 0 ((s.feeds.length : Int) - 1)) = true from Q0.out, show (inB z1 0 1000000) = true from Q1.out, show (inB z2 0 1000000) = true from Q2.out, show (inB z3 0 1000000) = true from Q3.out] <;> rfl))
          go_wp2_with (fail)
          go_roundw
          case rel => exact ⟨k + 1, by omega, by go_num, HBV, HAL⟩
          case measure => simp only [intOf]; omega
        · obtain rfl : k = s.brks.length := by omega
          have A_brks := Lib.hid (show s.brks.all (brkIn s.feeds.length) = true by have h := hall.out; rwa [List.take_length] at h)
          obtain ⟨U_brks, hU⟩ : ∃ z, z = wr := ⟨_, rfl⟩
          subst hU
          have K_brks := hB
          clear hall hB hlt hk hki
          obtain rfl : true = r := by have h := HQ.out; rw [A_feeds.out, A_brks.out] at h; exact h
          go_wp2_with (fail)
          go_ret
          exact ⟨rfl, below_join HB0.out K_brks.out HB0.out.size⟩
set_option maxHeartbeats 16000000 in
theorem c_rooms (p : SP) (s : SiteD) (r : Bool) (hr : rmOk s = r) (w : World) (h : SiAt w p s) :
    Calls Tryz.prog 66 #[siV p s] w fun e w' => e = .returned (.bool r) ∧ Below w.heap.size w w' := by
  unfold siV
  obtain ⟨W, hW⟩ : ∃ W, W = w.alloc (.cells #[.slice p.a1 s.feeds.length p.c1, .slice p.a2 s.brks.length p.c2, .slice p.a3 s.loops.length p.c3, .slice p.a4 s.racks.length p.c4, .int .i64 s.sw, .slice p.a5 s.links.length p.c5, .slice p.a6 s.hosts.length p.c6] 29) := ⟨_, rfl⟩
  have B0 : Below w.heap.size w W := by subst hW; exact (Below.refl _ _).alloc (Nat.le_refl _) _
  have HB0 := Lib.hid B0
  have HX := Lib.hid (show SiBox W w.heap.size p s by subst hW; exact siBox_new _ _ _)
  have HA := Lib.hid (h.on B0 (Nat.le_refl _))
  have HF := Lib.hid (fun (X : World) (hX : Below W.heap.size W X) => (let z := HX.out.on hX (Nat.le_refl _); ⟨z.c0, z.c1, z.c2, z.c3, z.c4, z.c5, z.c6⟩ : X.cell? ⟨w.heap.size, 0, none⟩ = some (.slice p.a1 s.feeds.length p.c1) ∧ X.cell? ⟨w.heap.size, 1, none⟩ = some (.slice p.a2 s.brks.length p.c2) ∧ X.cell? ⟨w.heap.size, 2, none⟩ = some (.slice p.a3 s.loops.length p.c3) ∧ X.cell? ⟨w.heap.size, 3, none⟩ = some (.slice p.a4 s.racks.length p.c4) ∧ X.cell? ⟨w.heap.size, 4, none⟩ = some (.int .i64 s.sw) ∧ X.cell? ⟨w.heap.size, 5, none⟩ = some (.slice p.a5 s.links.length p.c5) ∧ X.cell? ⟨w.heap.size, 6, none⟩ = some (.slice p.a6 s.hosts.length p.c6)))
  have m1 := h.feeds.1; have m2 := h.brks.1; have m3 := h.loops.1; have m4 := h.racks.1; have m5 := h.links.1; have m6 := h.hosts.1
  have n1 := h.feeds.2.1; have n2 := h.brks.2.1; have n3 := h.loops.2.1; have n4 := h.racks.2.1; have n5 := h.links.2.1; have n6 := h.hosts.2.1
  unfold maxLen at n1 n2 n3 n4 n5 n6
  have KW := Lib.hid (Below.refl W.heap.size W)
  have HR := Lib.hid hr
  have hlw : w.heap.size < W.heap.size := HX.out.lt
  clear B0 hr h
  obtain ⟨f0, f1, f2, f3, f4, f5, f6⟩ := HF.out W KW.out
  rw [hW] at f0 f1 f2 f3 f4 f5 f6
  go_enter Tryz.func66, Tryz.ntmps66
  obtain ⟨r0, h0⟩ : ∃ b, inB (s.loops.length : Int) 1 4 = b := ⟨_, rfl⟩
  have P0 := Lib.hid h0
  clear h0
  go_wp2_with (fail)
  rw [← hW] at f0 f1 f2 f3 f4 f5 f6 ⊢
  clear hW
  go_at_call 67
  refine (c_within (s.loops.length : Int) 1 4 r0 P0.out W).mono ?_
  rintro e w0 ⟨rfl, hw0⟩
  rw [hw0]
  clear hw0
  cases r0
  · obtain rfl : false = r := by have h := HR.out; unfold rmOk at h; rw [show inB (s.loops.length : Int) 1 4 = false from P0.out] at h; exact h
    go_wp2_with (fail)
    go_ret
    exact ⟨rfl, below_join HB0.out KW.out HB0.out.size⟩
  obtain ⟨r1, h1⟩ : ∃ b, inB s.sw 1 8 = b := ⟨_, rfl⟩
  have P1 := Lib.hid h1
  clear h1
  go_wp2_with (fail)
  go_at_call 67
  refine (c_within s.sw 1 8 r1 P1.out W).mono ?_
  rintro e w1 ⟨rfl, hw1⟩
  rw [hw1]
  clear hw1
  cases r1
  · obtain rfl : false = r := by have h := HR.out; unfold rmOk at h; rw [show inB (s.loops.length : Int) 1 4 = true from P0.out, show inB s.sw 1 8 = false from P1.out] at h; exact h
    go_wp2_with (fail)
    go_ret
    exact ⟨rfl, below_join HB0.out KW.out HB0.out.size⟩
  obtain ⟨r2, h2⟩ : ∃ b, inB (s.racks.length : Int) 1 8 = b := ⟨_, rfl⟩
  have P2 := Lib.hid h2
  clear h2
  go_wp2_with (fail)
  go_at_call 67
  refine (c_within (s.racks.length : Int) 1 8 r2 P2.out W).mono ?_
  rintro e w2 ⟨rfl, hw2⟩
  rw [hw2]
  clear hw2
  cases r2
  · obtain rfl : false = r := by have h := HR.out; unfold rmOk at h; rw [show inB (s.loops.length : Int) 1 4 = true from P0.out, show inB s.sw 1 8 = true from P1.out, show inB (s.racks.length : Int) 1 8 = false from P2.out] at h; exact h
    go_wp2_with (fail)
    go_ret
    exact ⟨rfl, below_join HB0.out KW.out HB0.out.size⟩
  rcases h3 : decide (16 < (s.links.length : Int)) with _ | _
  rotate_left
  · obtain rfl : false = r := by have h := HR.out; unfold rmOk at h; rw [show inB (s.loops.length : Int) 1 4 = true from P0.out, show inB s.sw 1 8 = true from P1.out, show inB (s.racks.length : Int) 1 8 = true from P2.out, h3] at h; exact h
    go_wp2_with (fail)
    go_ret
    exact ⟨rfl, below_join HB0.out KW.out HB0.out.size⟩
  have P3 := Lib.hid h3
  have HQ := Lib.hid (show (s.loops.all lpIn && (s.racks.all (rkIn s.brks.length s.loops.length s.sw) && s.links.all (lkIn s.sw))) = r by have h := HR.out; unfold rmOk at h; rw [show inB (s.loops.length : Int) 1 4 = true from P0.out, show inB s.sw 1 8 = true from P1.out, show inB (s.racks.length : Int) 1 8 = true from P2.out, show decide (16 < (s.links.length : Int)) = false from P3.out] at h; exact h)
  have hsw := inB_iff.1 P1.out
  go_wp2_with (fail)
  clear f0 f1 f2 f3 f4 f5 f6
  go_loopw [3] (fun i wr => ∃ k : Nat, k ≤ s.loops.length ∧ i = .int .i64 (k : Int) ∧ Hid (Below W.heap.size W wr) ∧ Hid ((s.loops.take k).all lpIn = true)) (fun i _ => s.loops.length - (intOf i).toNat)
  case atStart => exact ⟨0, Nat.zero_le _, rfl, KW, Lib.hid rfl⟩
  case round =>
    obtain ⟨k, hk, rfl, hB, hall⟩ := hrel
    have hki : ((k : Nat) : Int).toNat = k := by omega
    obtain ⟨f0, f1, f2, f3, f4, f5, f6⟩ := HF.out wr hB.out
    by_cases hlt : k < s.loops.length
    · obtain ⟨⟨z0, z1⟩, hx⟩ : ∃ x, s.loops[k]? = some x := ⟨_, List.getElem?_eq_getElem hlt⟩
      have HK := (HA.out.on hB.out (Nat.le_refl _)).loops
      obtain ⟨pb, po, hpe, hpl, -⟩ := HK.at_ hx
      rw [hpe] at HK f2
      obtain ⟨y0, y1⟩ := rwLoop HK hx
      have HXX := Lib.hid hx
      have hlt' : (k : Int) < ((s.loops.length : Nat) : Int) := by omega
      clear hx HK hpe
      have HG := Lib.hid (show lpIn ⟨z0, z1⟩ = (inB z0 0 1000000 && (inB z1 0 100)) from rfl)
      obtain ⟨r0, h0⟩ : ∃ b, inB z0 0 1000000 = b := ⟨_, rfl⟩
      have Q0 := Lib.hid h0
      clear h0
      go_wp2_with (fail)
      go_at_call 67
      refine (c_within z0 0 1000000 r0 Q0.out wr).mono ?_
      rintro e w0 ⟨rfl, hw0⟩
      rw [hw0]
      clear hw0
      cases r0
      · have hf := all_false HXX.out (show lpIn ⟨z0, z1⟩ = false by rw [HG.out, show (inB z0 0 1000000) = false from Q0.out] <;> rfl)
        obtain rfl : false = r := by have h := HQ.out; rw [hf] at h; exact h
        go_wp2_with (fail)
        go_ret
        exact ⟨rfl, below_join HB0.out hB.out HB0.out.size⟩
      obtain ⟨r1, h1⟩ : ∃ b, inB z1 0 100 = b := ⟨_, rfl⟩
      have Q1 := Lib.hid h1
      clear h1
      go_wp2_with (fail)
      go_at_call 67
      refine (c_within z1 0 100 r1 Q1.out wr).mono ?_
      rintro e w1 ⟨rfl, hw1⟩
      rw [hw1]
      clear hw1
      cases r1
      · have hf := all_false HXX.out (show lpIn ⟨z0, z1⟩ = false by rw [HG.out, show (inB z0 0 1000000) = true from Q0.out, show (inB z1 0 100) = false from Q1.out] <;> rfl)
        obtain rfl : false = r := by have h := HQ.out; rw [hf] at h; exact h
        go_wp2_with (fail)
        go_ret
        exact ⟨rfl, below_join HB0.out hB.out HB0.out.size⟩
      have HAL := Lib.hid (all_take_succ HXX.out hall.out (show lpIn ⟨z0, z1⟩ = true by rw [HG.out, show (inB z0 0 1000000) = true from Q0.out, show (inB z1 0 100) = true from Q1.out] <;> rfl))
      go_wp2_with (fail)
      go_roundw
      case rel => exact ⟨k + 1, by omega, by go_num, hB, HAL⟩
      case measure => simp only [intOf]; omega
    · obtain rfl : k = s.loops.length := by omega
      have A_loops := Lib.hid (show s.loops.all lpIn = true by have h := hall.out; rwa [List.take_length] at h)
      obtain ⟨U_loops, hU⟩ : ∃ z, z = wr := ⟨_, rfl⟩
      subst hU
      have K_loops := hB
      clear hall hB hlt hk hki
      go_wp2_with (fail)
      clear f0 f1 f2 f3 f4 f5 f6
      go_loopw [4] (fun i wr => ∃ k : Nat, k ≤ s.racks.length ∧ i = .int .i64 (k : Int) ∧ Hid (Below W.heap.size W wr) ∧ Hid ((s.racks.take k).all (rkIn s.brks.length s.loops.length s.sw) = true)) (fun i _ => s.racks.length - (intOf i).toNat)
      case atStart => exact ⟨0, Nat.zero_le _, rfl, K_loops, Lib.hid rfl⟩
      case round =>
        obtain ⟨k, hk, rfl, hB, hall⟩ := hrel
        have hki : ((k : Nat) : Int).toNat = k := by omega
        obtain ⟨f0, f1, f2, f3, f4, f5, f6⟩ := HF.out wr hB.out
        by_cases hlt : k < s.racks.length
        · obtain ⟨⟨z0, z1, z2, z3⟩, hx⟩ : ∃ x, s.racks[k]? = some x := ⟨_, List.getElem?_eq_getElem hlt⟩
          have HK := (HA.out.on hB.out (Nat.le_refl _)).racks
          obtain ⟨pb, po, hpe, hpl, -⟩ := HK.at_ hx
          rw [hpe] at HK f3
          obtain ⟨y0, y1, y2, y3⟩ := rwRack HK hx
          have HXX := Lib.hid hx
          have hlt' : (k : Int) < ((s.racks.length : Nat) : Int) := by omega
          clear hx HK hpe
          obtain ⟨V, hV⟩ : ∃ V, V = wr.alloc (.cells #[.int .i64 z0, .int .i64 z1, .int .i64 z2, .int .i64 z3] 65) := ⟨_, rfl⟩
          have hBV : Below W.heap.size W V := by subst hV; exact hB.out.alloc hB.out.size _
          have HBV := Lib.hid hBV
          have HVA := Lib.hid (show V.heap[wr.heap.size]? = some (.cells #[.int .i64 z0, .int .i64 z1, .int .i64 z2, .int .i64 z3] 65 (0, 0)) by subst hV; exact heap_alloc_new _ _)
          have hzw : W.heap.size ≤ wr.heap.size := hB.out.size
          clear hBV
          obtain ⟨g0, g1, g2, g3, g4, g5, g6⟩ := HF.out V HBV.out
          have v0 : V.cell? ⟨wr.heap.size, 0, none⟩ = some (.int .i64 z0) := cell_of HVA.out rfl
          have v1 : V.cell? ⟨wr.heap.size, 1, none⟩ = some (.int .i64 z1) := cell_of HVA.out rfl
          have v2 : V.cell? ⟨wr.heap.size, 2, none⟩ = some (.int .i64 z2) := cell_of HVA.out rfl
          have v3 : V.cell? ⟨wr.heap.size, 3, none⟩ = some (.int .i64 z3) := cell_of HVA.out rfl
          rw [hV] at g0 g1 g2 g3 g4 g5 g6 v0 v1 v2 v3
          have HG := Lib.hid (show (rkIn s.brks.length s.loops.length s.sw) ⟨z0, z1, z2, z3⟩ = (inB z0 0 3 && (inB z1 0 ((s.brks.length : Int) - 1) && (inB z2 0 ((s.loops.length : Int) - 1) && (inB z3 0 (s.sw - 1))))) from rfl)
          obtain ⟨r0, h0⟩ : ∃ b, inB z0 0 3 = b := ⟨_, rfl⟩
          have Q0 := Lib.hid h0
          clear h0
          go_wp2_with (fail)
          rw [← hV] at g0 g1 g2 g3 g4 g5 g6 v0 v1 v2 v3 ⊢
          clear hV y0 y1 y2 y3 f0 f1 f2 f3 f4 f5 f6
          go_at_call 67
          refine (c_within z0 0 3 r0 Q0.out V).mono ?_
          rintro e w0 ⟨rfl, hw0⟩
          rw [hw0]
          clear hw0
          cases r0
          · have hf := all_false HXX.out (show (rkIn s.brks.length s.loops.length s.sw) ⟨z0, z1, z2, z3⟩ = false by rw [HG.out, show (inB z0 0 3) = false from Q0.out] <;> rfl)
            obtain rfl : false = r := by have h := HQ.out; rw [A_loops.out, hf] at h; exact h
            go_wp2_with (fail)
            go_ret
            exact ⟨rfl, below_join HB0.out HBV.out HB0.out.size⟩
          obtain ⟨r1, h1⟩ : ∃ b, inB z1 0 ((s.brks.length : Int) - 1) = b := ⟨_, rfl⟩
          have Q1 := Lib.hid h1
          clear h1
          go_wp2_with (fail)
          go_at_call 67
          refine (c_within z1 0 ((s.brks.length : Int) - 1) r1 Q1.out V).mono ?_
          rintro e w1 ⟨rfl, hw1⟩
          rw [hw1]
          clear hw1
          cases r1
          · have hf := all_false HXX.out (show (rkIn s.brks.length s.loops.length s.sw) ⟨z0, z1, z2, z3⟩ = false by rw [HG.out, show (inB z0 0 3) = true from Q0.out, show (inB z1 0 ((s.brks.length : Int) - 1)) = false from Q1.out] <;> rfl)
            obtain rfl : false = r := by have h := HQ.out; rw [A_loops.out, hf] at h; exact h
            go_wp2_with (fail)
            go_ret
            exact ⟨rfl, below_join HB0.out HBV.out HB0.out.size⟩
          obtain ⟨r2, h2⟩ : ∃ b, inB z2 0 ((s.loops.length : Int) - 1) = b := ⟨_, rfl⟩
          have Q2 := Lib.hid h2
          clear h2
          go_wp2_with (fail)
          go_at_call 67
          refine (c_within z2 0 ((s.loops.length : Int) - 1) r2 Q2.out V).mono ?_
          rintro e w2 ⟨rfl, hw2⟩
          rw [hw2]
          clear hw2
          cases r2
          · have hf := all_false HXX.out (show (rkIn s.brks.length s.loops.length s.sw) ⟨z0, z1, z2, z3⟩ = false by rw [HG.out, show (inB z0 0 3) = true from Q0.out, show (inB z1 0 ((s.brks.length : Int) - 1)) = true from Q1.out, show (inB z2 0 ((s.loops.length : Int) - 1)) = false from Q2.out] <;> rfl)
            obtain rfl : false = r := by have h := HQ.out; rw [A_loops.out, hf] at h; exact h
            go_wp2_with (fail)
            go_ret
            exact ⟨rfl, below_join HB0.out HBV.out HB0.out.size⟩
          obtain ⟨r3, h3⟩ : ∃ b, inB z3 0 (s.sw - 1) = b := ⟨_, rfl⟩
          have Q3 := Lib.hid h3
          clear h3
          go_wp2_with (fail)
          go_at_call 67
          refine (c_within z3 0 (s.sw - 1) r3 Q3.out V).mono ?_
          rintro e w3 ⟨rfl, hw3⟩
          rw [hw3]
          clear hw3
          cases r3
          · have hf := all_false HXX.out (show (rkIn s.brks.length s.loops.length s.sw) ⟨z0, z1, z2, z3⟩ = false by rw [HG.out, show (inB z0 0 3) = true from Q0.out, show (inB z1 0 ((s.brks.length : Int) - 1)) = true from Q1.out, show (inB z2 0 ((s.loops.length : Int) - 1)) = true from Q2.out, show (inB z3 0 (s.sw - 1)) = false from Q3.out] <;> rfl)
            obtain rfl : false = r := by have h := HQ.out; rw [A_loops.out, hf] at h; exact h
            go_wp2_with (fail)
            go_ret
            exact ⟨rfl, below_join HB0.out HBV.out HB0.out.size⟩
          have HAL := Lib.hid (all_take_succ HXX.out hall.out (show (rkIn s.brks.length s.loops.length s.sw) ⟨z0, z1, z2, z3⟩ = true by rw [HG.out, show (inB z0 0 3) = true from Q0.out, show (inB z1 0 ((s.brks.length : Int) - 1)) = true from Q1.out, show (inB z2 0 ((s.loops.length : Int) - 1)) = true from Q2.out, show (inB z3 0 (s.sw - 1)) = true from Q3.out] <;> rfl))
          go_wp2_with (fail)
          go_roundw
          case rel => exact ⟨k + 1, by omega, by go_num, HBV, HAL⟩
          case measure => simp only [intOf]; omega
        · obtain rfl : k = s.racks.length := by omega
          have A_racks := Lib.hid (show s.racks.all (rkIn s.brks.length s.loops.length s.sw) = true by have h := hall.out; rwa [List.take_length] at h)
          obtain ⟨U_racks, hU⟩ : ∃ z, z = wr := ⟨_, rfl⟩
          subst hU
          have K_racks := hB
          clear hall hB hlt hk hki
          go_wp2_with (fail)
          clear f0 f1 f2 f3 f4 f5 f6
          go_loopw [6] (fun i wr => ∃ k : Nat, k ≤ s.links.length ∧ i = .int .i64 (k : Int) ∧ Hid (Below W.heap.size W wr) ∧ Hid ((s.links.take k).all (lkIn s.sw) = true)) (fun i _ => s.links.length - (intOf i).toNat)
          case atStart => exact ⟨0, Nat.zero_le _, rfl, K_racks, Lib.hid rfl⟩
          case round =>
            obtain ⟨k, hk, rfl, hB, hall⟩ := hrel
            have hki : ((k : Nat) : Int).toNat = k := by omega
            obtain ⟨f0, f1, f2, f3, f4, f5, f6⟩ := HF.out wr hB.out
            by_cases hlt : k < s.links.length
            · obtain ⟨⟨z0, z1, z2⟩, hx⟩ : ∃ x, s.links[k]? = some x := ⟨_, List.getElem?_eq_getElem hlt⟩
              have HK := (HA.out.on hB.out (Nat.le_refl _)).links
              obtain ⟨pb, po, hpe, hpl, -⟩ := HK.at_ hx
              rw [hpe] at HK f5
              obtain ⟨y0, y1, y2⟩ := rwLink HK hx
              have HXX := Lib.hid hx
              have hlt' : (k : Int) < ((s.links.length : Nat) : Int) := by omega
              clear hx HK hpe
              obtain ⟨V, hV⟩ : ∃ V, V = wr.alloc (.cells #[.int .i64 z0, .int .i64 z1, .int .i64 z2] 115) := ⟨_, rfl⟩
              have hBV : Below W.heap.size W V := by subst hV; exact hB.out.alloc hB.out.size _
              have HBV := Lib.hid hBV
              have HVA := Lib.hid (show V.heap[wr.heap.size]? = some (.cells #[.int .i64 z0, .int .i64 z1, .int .i64 z2] 115 (0, 0)) by subst hV; exact heap_alloc_new _ _)
              have hzw : W.heap.size ≤ wr.heap.size := hB.out.size
              clear hBV
              obtain ⟨g0, g1, g2, g3, g4, g5, g6⟩ := HF.out V HBV.out
              have v0 : V.cell? ⟨wr.heap.size, 0, none⟩ = some (.int .i64 z0) := cell_of HVA.out rfl
              have v1 : V.cell? ⟨wr.heap.size, 1, none⟩ = some (.int .i64 z1) := cell_of HVA.out rfl
              have v2 : V.cell? ⟨wr.heap.size, 2, none⟩ = some (.int .i64 z2) := cell_of HVA.out rfl
              rw [hV] at g0 g1 g2 g3 g4 g5 g6 v0 v1 v2
              have HG := Lib.hid (show (lkIn s.sw) ⟨z0, z1, z2⟩ = (inB z0 0 (s.sw - 1) && (inB z1 0 (s.sw - 1) && (!(z0 == z1) && (inB z2 1 1000000)))) from rfl)
              obtain ⟨r0, h0⟩ : ∃ b, inB z0 0 (s.sw - 1) = b := ⟨_, rfl⟩
              have Q0 := Lib.hid h0
              clear h0
              go_wp2_with (fail)
              rw [← hV] at g0 g1 g2 g3 g4 g5 g6 v0 v1 v2 ⊢
              clear hV y0 y1 y2 f0 f1 f2 f3 f4 f5 f6
              go_at_call 67
              refine (c_within z0 0 (s.sw - 1) r0 Q0.out V).mono ?_
              rintro e w0 ⟨rfl, hw0⟩
              rw [hw0]
              clear hw0
              cases r0
              · have hf := all_false HXX.out (show (lkIn s.sw) ⟨z0, z1, z2⟩ = false by rw [HG.out, show (inB z0 0 (s.sw - 1)) = false from Q0.out] <;> rfl)
                obtain rfl : false = r := by have h := HQ.out; rw [A_loops.out, A_racks.out, hf] at h; exact h
                go_wp2_with (fail)
                go_ret
                exact ⟨rfl, below_join HB0.out HBV.out HB0.out.size⟩
              obtain ⟨r1, h1⟩ : ∃ b, inB z1 0 (s.sw - 1) = b := ⟨_, rfl⟩
              have Q1 := Lib.hid h1
              clear h1
              go_wp2_with (fail)
              go_at_call 67
              refine (c_within z1 0 (s.sw - 1) r1 Q1.out V).mono ?_
              rintro e w1 ⟨rfl, hw1⟩
              rw [hw1]
              clear hw1
              cases r1
              · have hf := all_false HXX.out (show (lkIn s.sw) ⟨z0, z1, z2⟩ = false by rw [HG.out, show (inB z0 0 (s.sw - 1)) = true from Q0.out, show (inB z1 0 (s.sw - 1)) = false from Q1.out] <;> rfl)
                obtain rfl : false = r := by have h := HQ.out; rw [A_loops.out, A_racks.out, hf] at h; exact h
                go_wp2_with (fail)
                go_ret
                exact ⟨rfl, below_join HB0.out HBV.out HB0.out.size⟩
              rcases q2 : (z0 == z1) with _ | _
              rotate_left
              · have hf := all_false HXX.out (show (lkIn s.sw) ⟨z0, z1, z2⟩ = false by rw [HG.out, show (inB z0 0 (s.sw - 1)) = true from Q0.out, show (inB z1 0 (s.sw - 1)) = true from Q1.out, q2] <;> rfl)
                obtain rfl : false = r := by have h := HQ.out; rw [A_loops.out, A_racks.out, hf] at h; exact h
                go_wp2_with (fail)
                go_ret
                exact ⟨rfl, below_join HB0.out HBV.out HB0.out.size⟩
              obtain ⟨r3, h3⟩ : ∃ b, inB z2 1 1000000 = b := ⟨_, rfl⟩
              have Q3 := Lib.hid h3
              clear h3
              go_wp2_with (fail)
              go_at_call 67
              refine (c_within z2 1 1000000 r3 Q3.out V).mono ?_
              rintro e w3 ⟨rfl, hw3⟩
              rw [hw3]
              clear hw3
              cases r3
              · have hf := all_false HXX.out (show (lkIn s.sw) ⟨z0, z1, z2⟩ = false by rw [HG.out, show (inB z0 0 (s.sw - 1)) = true from Q0.out, show (inB z1 0 (s.sw - 1)) = true from Q1.out, q2, show (inB z2 1 1000000) = false from Q3.out] <;> rfl)
                obtain rfl : false = r := by have h := HQ.out; rw [A_loops.out, A_racks.out, hf] at h; exact h
                go_wp2_with (fail)
                go_ret
                exact ⟨rfl, below_join HB0.out HBV.out HB0.out.size⟩
              have HAL := Lib.hid (all_take_succ HXX.out hall.out (show (lkIn s.sw) ⟨z0, z1, z2⟩ = true by rw [HG.out, show (inB z0 0 (s.sw - 1)) = true from Q0.out, show (inB z1 0 (s.sw - 1)) = true from Q1.out, q2, show (inB z2 1 1000000) = true from Q3.out] <;> rfl))
              go_wp2_with (fail)
              go_roundw
              case rel => exact ⟨k + 1, by omega, by go_num, HBV, HAL⟩
              case measure => simp only [intOf]; omega
            · obtain rfl : k = s.links.length := by omega
              have A_links := Lib.hid (show s.links.all (lkIn s.sw) = true by have h := hall.out; rwa [List.take_length] at h)
              obtain ⟨U_links, hU⟩ : ∃ z, z = wr := ⟨_, rfl⟩
              subst hU
              have K_links := hB
              clear hall hB hlt hk hki
              obtain rfl : true = r := by have h := HQ.out; rw [A_loops.out, A_racks.out, A_links.out] at h; exact h
              go_wp2_with (fail)
              go_ret
              exact ⟨rfl, below_join HB0.out K_links.out HB0.out.size⟩
set_option maxHeartbeats 16000000 in
theorem c_srValid (p : SP) (s : SiteD) (r : Bool) (hr : siteOk s = r) (w : World) (h : SiAt w p s) :
    Calls Tryz.prog 42 #[siV p s] w fun e w' => e = .returned (.bool r) ∧ Below w.heap.size w w' := by
  unfold siV
  obtain ⟨W, hW⟩ : ∃ W, W = w.alloc (.cells #[.slice p.a1 s.feeds.length p.c1, .slice p.a2 s.brks.length p.c2, .slice p.a3 s.loops.length p.c3, .slice p.a4 s.racks.length p.c4, .int .i64 s.sw, .slice p.a5 s.links.length p.c5, .slice p.a6 s.hosts.length p.c6] 29) := ⟨_, rfl⟩
  have B0 : Below w.heap.size w W := by subst hW; exact (Below.refl _ _).alloc (Nat.le_refl _) _
  have HB0 := Lib.hid B0
  have HX := Lib.hid (show SiBox W w.heap.size p s by subst hW; exact siBox_new _ _ _)
  have HA := Lib.hid (h.on B0 (Nat.le_refl _))
  have HF := Lib.hid (fun (X : World) (hX : Below W.heap.size W X) => (let z := HX.out.on hX (Nat.le_refl _); ⟨z.c0, z.c1, z.c2, z.c3, z.c4, z.c5, z.c6⟩ : X.cell? ⟨w.heap.size, 0, none⟩ = some (.slice p.a1 s.feeds.length p.c1) ∧ X.cell? ⟨w.heap.size, 1, none⟩ = some (.slice p.a2 s.brks.length p.c2) ∧ X.cell? ⟨w.heap.size, 2, none⟩ = some (.slice p.a3 s.loops.length p.c3) ∧ X.cell? ⟨w.heap.size, 3, none⟩ = some (.slice p.a4 s.racks.length p.c4) ∧ X.cell? ⟨w.heap.size, 4, none⟩ = some (.int .i64 s.sw) ∧ X.cell? ⟨w.heap.size, 5, none⟩ = some (.slice p.a5 s.links.length p.c5) ∧ X.cell? ⟨w.heap.size, 6, none⟩ = some (.slice p.a6 s.hosts.length p.c6)))
  have m1 := h.feeds.1; have m2 := h.brks.1; have m3 := h.loops.1; have m4 := h.racks.1; have m5 := h.links.1; have m6 := h.hosts.1
  have n1 := h.feeds.2.1; have n2 := h.brks.2.1; have n3 := h.loops.2.1; have n4 := h.racks.2.1; have n5 := h.links.2.1; have n6 := h.hosts.2.1
  unfold maxLen at n1 n2 n3 n4 n5 n6
  have KW := Lib.hid (Below.refl W.heap.size W)
  have HR := Lib.hid hr
  have hlw : w.heap.size < W.heap.size := HX.out.lt
  have HPW := Lib.hid (fun (q : Bool) (hq : pwOk s = q) => c_power p s q hq W HA.out)
  have HRM := Lib.hid (fun (q : Bool) (hq : rmOk s = q) (X : World) (hX : Below W.heap.size W X) => c_rooms p s q hq X (HA.out.on hX (Nat.le_refl _)))
  have HE := Lib.hid (ref_ok s)
  unfold siV at HPW HRM
  clear B0 hr h
  obtain ⟨f0, f1, f2, f3, f4, f5, f6⟩ := HF.out W KW.out
  rw [hW] at f0 f1 f2 f3 f4 f5 f6
  go_enter Tryz.func42, Tryz.ntmps42
  obtain ⟨r0, h0⟩ : ∃ b, pwOk s = b := ⟨_, rfl⟩
  have P0 := Lib.hid h0
  clear h0
  go_wp2_with (fail)
  rw [← hW]
  clear hW f0 f1 f2 f3 f4 f5 f6
  go_at_call 65
  refine (HPW.out r0 P0.out).mono ?_
  rintro e w0 ⟨rfl, b0⟩
  have K0 := Lib.hid b0
  clear b0
  cases r0
  · obtain rfl : false = r := by rw [← HR.out, ← HE.out, P0.out]; rfl
    go_wp2_with (fail)
    go_ret
    exact ⟨rfl, below_join HB0.out K0.out HB0.out.size⟩
  obtain ⟨r1, h1⟩ : ∃ b, rmOk s = b := ⟨_, rfl⟩
  have P1 := Lib.hid h1
  clear h1
  obtain ⟨f0, f1, f2, f3, f4, f5, f6⟩ := HF.out w0 K0.out
  go_wp2_with (fail)
  clear f0 f1 f2 f3 f4 f5 f6
  go_at_call 66
  refine (HRM.out r1 P1.out w0 K0.out).mono ?_
  rintro e w1 ⟨rfl, b1⟩
  have K1 := Lib.hid (below_join K0.out b1 K0.out.size)
  clear b1
  cases r1
  · obtain rfl : false = r := by rw [← HR.out, ← HE.out, P0.out, P1.out]; rfl
    go_wp2_with (fail)
    go_ret
    exact ⟨rfl, below_join HB0.out K1.out HB0.out.size⟩
  obtain ⟨r2, h2⟩ : ∃ b, inB (s.hosts.length : Int) 1 16 = b := ⟨_, rfl⟩
  have P2 := Lib.hid h2
  clear h2
  obtain ⟨f0, f1, f2, f3, f4, f5, f6⟩ := HF.out w1 K1.out
  go_wp2_with (fail)
  go_at_call 67
  refine (c_within (s.hosts.length : Int) 1 16 r2 P2.out w1).mono ?_
  rintro e w2 ⟨rfl, hw2⟩
  rw [hw2]
  clear hw2
  cases r2
  · obtain rfl : false = r := by rw [← HR.out, ← HE.out, P0.out, P1.out]; unfold hoOk; rw [P2.out]; rfl
    go_wp2_with (fail)
    go_ret
    exact ⟨rfl, below_join HB0.out K1.out HB0.out.size⟩
  have HQ := Lib.hid (show s.hosts.all (hsIn s.racks.length) = r by rw [← HR.out, ← HE.out, P0.out, P1.out]; unfold hoOk; rw [P2.out]; rfl)
  go_wp2_with (fail)
  clear f0 f1 f2 f3 f4 f5 f6
  go_loopw [3] (fun i wr => ∃ k : Nat, k ≤ s.hosts.length ∧ i = .int .i64 (k : Int) ∧ Hid (Below W.heap.size W wr) ∧ Hid ((s.hosts.take k).all (hsIn s.racks.length) = true)) (fun i _ => s.hosts.length - (intOf i).toNat)
  case atStart => exact ⟨0, Nat.zero_le _, rfl, K1, Lib.hid rfl⟩
  case round =>
    obtain ⟨k, hk, rfl, hB, hall⟩ := hrel
    have hki : ((k : Nat) : Int).toNat = k := by omega
    obtain ⟨f0, f1, f2, f3, f4, f5, f6⟩ := HF.out wr hB.out
    by_cases hlt : k < s.hosts.length
    · obtain ⟨⟨z0, z1, z2, z3⟩, hx⟩ : ∃ x, s.hosts[k]? = some x := ⟨_, List.getElem?_eq_getElem hlt⟩
      have HK := (HA.out.on hB.out (Nat.le_refl _)).hosts
      obtain ⟨pb, po, hpe, hpl, -⟩ := HK.at_ hx
      rw [hpe] at HK f6
      obtain ⟨y0, y1, y2, y3⟩ := rwHost HK hx
      have HXX := Lib.hid hx
      have hlt' : (k : Int) < ((s.hosts.length : Nat) : Int) := by omega
      clear hx HK hpe
      obtain ⟨V, hV⟩ : ∃ V, V = wr.alloc (.cells #[.int .i64 z0, .int .i64 z1, .int .i64 z2, .int .i64 z3] 61) := ⟨_, rfl⟩
      have hBV : Below W.heap.size W V := by subst hV; exact hB.out.alloc hB.out.size _
      have HBV := Lib.hid hBV
      have HVA := Lib.hid (show V.heap[wr.heap.size]? = some (.cells #[.int .i64 z0, .int .i64 z1, .int .i64 z2, .int .i64 z3] 61 (0, 0)) by subst hV; exact heap_alloc_new _ _)
      have hzw : W.heap.size ≤ wr.heap.size := hB.out.size
      clear hBV
      obtain ⟨g0, g1, g2, g3, g4, g5, g6⟩ := HF.out V HBV.out
      have v0 : V.cell? ⟨wr.heap.size, 0, none⟩ = some (.int .i64 z0) := cell_of HVA.out rfl
      have v1 : V.cell? ⟨wr.heap.size, 1, none⟩ = some (.int .i64 z1) := cell_of HVA.out rfl
      have v2 : V.cell? ⟨wr.heap.size, 2, none⟩ = some (.int .i64 z2) := cell_of HVA.out rfl
      have v3 : V.cell? ⟨wr.heap.size, 3, none⟩ = some (.int .i64 z3) := cell_of HVA.out rfl
      rw [hV] at g0 g1 g2 g3 g4 g5 g6 v0 v1 v2 v3
      have HG := Lib.hid (show (hsIn s.racks.length) ⟨z0, z1, z2, z3⟩ = (inB z0 0 ((s.racks.length : Int) - 1) && (inB z1 1 1000 && (inB z2 0 10000 && (inB z3 0 1000)))) from rfl)
      obtain ⟨r0, h0⟩ : ∃ b, inB z0 0 ((s.racks.length : Int) - 1) = b := ⟨_, rfl⟩
      have Q0 := Lib.hid h0
      clear h0
      go_wp2_with (fail)
      rw [← hV] at g0 g1 g2 g3 g4 g5 g6 v0 v1 v2 v3 ⊢
      clear hV y0 y1 y2 y3 f0 f1 f2 f3 f4 f5 f6
      go_at_call 67
      refine (c_within z0 0 ((s.racks.length : Int) - 1) r0 Q0.out V).mono ?_
      rintro e w0 ⟨rfl, hw0⟩
      rw [hw0]
      clear hw0
      cases r0
      · have hf := all_false HXX.out (show (hsIn s.racks.length) ⟨z0, z1, z2, z3⟩ = false by rw [HG.out, show (inB z0 0 ((s.racks.length : Int) - 1)) = false from Q0.out] <;> rfl)
        obtain rfl : false = r := by rw [← HQ.out, hf]
        go_wp2_with (fail)
        go_ret
        exact ⟨rfl, below_join HB0.out HBV.out HB0.out.size⟩
      obtain ⟨r1, h1⟩ : ∃ b, inB z1 1 1000 = b := ⟨_, rfl⟩
      have Q1 := Lib.hid h1
      clear h1
      go_wp2_with (fail)
      go_at_call 67
      refine (c_within z1 1 1000 r1 Q1.out V).mono ?_
      rintro e w1 ⟨rfl, hw1⟩
      rw [hw1]
      clear hw1
      cases r1
      · have hf := all_false HXX.out (show (hsIn s.racks.length) ⟨z0, z1, z2, z3⟩ = false by rw [HG.out, show (inB z0 0 ((s.racks.length : Int) - 1)) = true from Q0.out, show (inB z1 1 1000) = false from Q1.out] <;> rfl)
        obtain rfl : false = r := by rw [← HQ.out, hf]
        go_wp2_with (fail)
        go_ret
        exact ⟨rfl, below_join HB0.out HBV.out HB0.out.size⟩
      obtain ⟨r2, h2⟩ : ∃ b, inB z2 0 10000 = b := ⟨_, rfl⟩
      have Q2 := Lib.hid h2
      clear h2
      go_wp2_with (fail)
      go_at_call 67
      refine (c_within z2 0 10000 r2 Q2.out V).mono ?_
      rintro e w2 ⟨rfl, hw2⟩
      rw [hw2]
      clear hw2
      cases r2
      · have hf := all_false HXX.out (show (hsIn s.racks.length) ⟨z0, z1, z2, z3⟩ = false by rw [HG.out, show (inB z0 0 ((s.racks.length : Int) - 1)) = true from Q0.out, show (inB z1 1 1000) = true from Q1.out, show (inB z2 0 10000) = false from Q2.out] <;> rfl)
        obtain rfl : false = r := by rw [← HQ.out, hf]
        go_wp2_with (fail)
        go_ret
        exact ⟨rfl, below_join HB0.out HBV.out HB0.out.size⟩
      obtain ⟨r3, h3⟩ : ∃ b, inB z3 0 1000 = b := ⟨_, rfl⟩
      have Q3 := Lib.hid h3
      clear h3
      go_wp2_with (fail)
      go_at_call 67
      refine (c_within z3 0 1000 r3 Q3.out V).mono ?_
      rintro e w3 ⟨rfl, hw3⟩
      rw [hw3]
      clear hw3
      cases r3
      · have hf := all_false HXX.out (show (hsIn s.racks.length) ⟨z0, z1, z2, z3⟩ = false by rw [HG.out, show (inB z0 0 ((s.racks.length : Int) - 1)) = true from Q0.out, show (inB z1 1 1000) = true from Q1.out, show (inB z2 0 10000) = true from Q2.out, show (inB z3 0 1000) = false from Q3.out] <;> rfl)
        obtain rfl : false = r := by rw [← HQ.out, hf]
        go_wp2_with (fail)
        go_ret
        exact ⟨rfl, below_join HB0.out HBV.out HB0.out.size⟩
      have HAL := Lib.hid (all_take_succ HXX.out hall.out (show (hsIn s.racks.length) ⟨z0, z1, z2, z3⟩ = true by rw [HG.out, show (inB z0 0 ((s.racks.length : Int) - 1)) = true from Q0.out, show (inB z1 1 1000) = true from Q1.out, show (inB z2 0 10000) = true from Q2.out, show (inB z3 0 1000) = true from Q3.out] <;> rfl))
      go_wp2_with (fail)
      go_roundw
      case rel => exact ⟨k + 1, by omega, by go_num, HBV, HAL⟩
      case measure => simp only [intOf]; omega
    · obtain rfl : k = s.hosts.length := by omega
      have A_hosts := Lib.hid (show s.hosts.all (hsIn s.racks.length) = true by have h := hall.out; rwa [List.take_length] at h)
      obtain ⟨U_hosts, hU⟩ : ∃ z, z = wr := ⟨_, rfl⟩
      subst hU
      have K_hosts := hB
      clear hall hB hlt hk hki
      obtain rfl : true = r := by rw [← HQ.out, A_hosts.out]
      go_wp2_with (fail)
      go_ret
      exact ⟨rfl, below_join HB0.out K_hosts.out HB0.out.size⟩
end Go.Proofs.YtidpiokkfnhobaaGreat

namespace Go.Proofs.YtidpiokkfnhobaaGreat
open Go.RowKit
set_option maxRecDepth 100000
set_option linter.unusedVariables false
set_option linter.unusedSimpArgs false

theorem set_field {W : World} {b o : Nat} {cs : Array Value} {T : TypeId} (h : W.heap[b]? = some (.cells cs T (0, 0))) (v : Value) : (W.setCell ⟨b, o, none⟩ v).heap[b]? = some (.cells (cs.setIfInBounds o v) T (0, 0)) := by
  simp only [World.setCell, Array.getElem?_modify, if_pos trivial, h]
  simp
theorem frz {X : World} {b : Nat} {cs : Array Value} {T : TypeId} (h : X.heap[b]? = some (.cells cs T (0, 0))) (o : Nat) : X.frozen? ⟨b, o, none⟩ = false := by
  simp [World.frozen?, h]
end Go.Proofs.YtidpiokkfnhobaaGreat

namespace Go.Proofs.YtidpiokkfnhobaaGreat
open Go.RowKit
set_option maxRecDepth 100000
set_option linter.unusedVariables false
set_option linter.unusedSimpArgs false

theorem info_parts {P : Program} {T : TypeId} {z : Value} {s b : Nat} (h : (P.info? T).map (fun i => (i.zero, i.size, i.bytes)) = some (some z, s, b)) : ∃ i, P.info? T = some i ∧ i.zero = some z ∧ i.size = s ∧ i.bytes = b := by
  cases hi : P.info? T with
  | none => rw [hi] at h; cases h
  | some i => rw [hi] at h; simp at h; exact ⟨i, rfl, h.1, h.2.1, h.2.2⟩
theorem ownsRow_lt {X : World} {base : Nat} {e : TypeId} {size n : Nat} {v : Value} {xs : List Value} (h : X.ownsRow base e size v n xs) {g : Nat} (hg : v.ownBlock = some g) : base ≤ g ∧ g < X.heap.size := by
  obtain ⟨k1, ⟨rfl, -⟩ | ⟨g', cap, cur, rfl, k3, k4, k⟩⟩ := h
  · cases hg
  · have hg2 : some g' = some g := hg
    injection hg2 with hg2
    subst hg2
    exact ⟨k3, at_lt k4⟩
theorem own_shape {X : World} {base : Nat} {e : TypeId} {size n : Nat} {v : Value} {xs : List Value} (h : X.ownsRow base e size v n xs) : ∃ A c, v = .slice A n c := by
  obtain ⟨k1, ⟨rfl, h0⟩ | ⟨g, cap, cur, rfl, k⟩⟩ := h
  · subst h0; exact ⟨_, _, rfl⟩
  · exact ⟨_, _, rfl⟩
theorem own_mono {w : World} {base base' : Nat} {e : TypeId} {size : Nat} {v : Value} {n : Nat} {xs : List Value} (h : w.ownsRow base e size v n xs) (hb : base' ≤ base) : w.ownsRow base' e size v n xs := by
  obtain ⟨k1, h | ⟨g, cap, cur, rfl, k3, k4, k⟩⟩ := h
  · exact ⟨k1, .inl h⟩
  · exact ⟨k1, .inr ⟨g, cap, cur, rfl, Nat.le_trans hb k3, k4, k⟩⟩
theorem own_on {X Y : World} {base : Nat} {e : TypeId} {size n B : Nat} {v : Value} {xs : List Value} (h : X.ownsRow base e size v n xs) (hb : Below B X Y) (hB : X.heap.size ≤ B) : Y.ownsRow base e size v n xs := by
  obtain ⟨k1, h | ⟨g, cap, cur, rfl, k3, k4, k⟩⟩ := h
  · exact ⟨k1, .inl h⟩
  · exact ⟨k1, .inr ⟨g, cap, cur, rfl, k3, (hb.block _ (Nat.lt_of_lt_of_le (at_lt k4) hB)).trans k4, k⟩⟩
end Go.Proofs.YtidpiokkfnhobaaGreat

namespace Go.Proofs.YtidpiokkfnhobaaGreat
open Go.RowKit
set_option maxRecDepth 100000
set_option linter.unusedVariables false
set_option linter.unusedSimpArgs false

theorem set_else {W : World} {b k o : Nat} {v : Value} {ob : Obj} (h : W.heap[k]? = some ob) (hne : k ≠ b) : (W.setCell ⟨b, o, none⟩ v).heap[k]? = some ob := by
  rw [Below.heap_setCell _ ⟨b, o, none⟩ v k hne]; exact h
theorem old_heap {X : World} {b : Nat} {o : Obj} (o' : Obj) (h : X.heap[b]? = some o) : (X.alloc o').heap[b]? = some o := (Below.heap_alloc _ _ _ (at_lt h)).trans h
end Go.Proofs.YtidpiokkfnhobaaGreat

namespace Go.Proofs.YtidpiokkfnhobaaGreat
open Go.RowKit
attribute [local go_sem] Oper.semAt_some
set_option maxRecDepth 100000
set_option linter.unusedVariables false
set_option linter.unusedSimpArgs false

theorem wrap_in {x : Int} (h : -9223372036854775808 ≤ x) (h2 : x ≤ 9223372036854775807) : IntKind.i64.wrap x = x := by
  unfold IntKind.wrap
  simp [IntKind.signed, IntKind.bits]
  omega
/-- Rows of k cells, as a slice's address and capacity. -/
def Rv {α : Type} (k : Nat) (F : α → Nat → Value) (w : World) (A : Option Addr) (c : Nat) (l : List α) : Prop :=
  l.length ≤ c ∧ c ≤ maxLen ∧ (A = none → c = 0) ∧ (0 < l.length → ∃ b o, A = some ⟨b, o, none⟩ ∧ b < w.heap.size ∧ ∀ (j : Nat) (x : α), l[j]? = some x → ∀ i, i < k → w.cell? ⟨b, o + j * k + i, none⟩ = some (F x i))
section
variable {α : Type} {k : Nat} {F : α → Nat → Value} {w w' : World} {A : Option Addr} {c : Nat} {l : List α}
theorem Rv.on {B : Nat} (h : Rv k F w A c l) (hb : Below B w w') (hB : w.heap.size ≤ B) : Rv k F w' A c l := by
  obtain ⟨h1, h2, h3, h4⟩ := h
  refine ⟨h1, h2, h3, fun h0 => ?_⟩
  obtain ⟨b, o, e, hlt, hc⟩ := h4 h0
  exact ⟨b, o, e, Nat.lt_of_lt_of_le hlt hb.size, fun j x hj i hi => (hb.cell (p := ⟨b, o + j * k + i, none⟩) (by show b < B; omega)).trans (hc j x hj i hi)⟩
theorem Rv.at_ (h : Rv k F w A c l) {j : Nat} {x : α} (hj : l[j]? = some x) : ∃ b o, A = some ⟨b, o, none⟩ ∧ b < w.heap.size ∧ ∀ i, i < k → w.cell? ⟨b, o + j * k + i, none⟩ = some (F x i) := by
  obtain ⟨h1, h2, -, h4⟩ := h
  obtain ⟨b, o, e, hlt, hc⟩ := h4 (by have := (List.getElem?_eq_some_iff.1 hj).1; omega)
  exact ⟨b, o, e, hlt, fun i hi => hc j x hj i hi⟩
theorem Rv.nil (w : World) : Rv k F w none 0 ([] : List α) := ⟨Nat.le_refl _, Nat.zero_le _, fun _ => rfl, fun h => absurd h (Nat.lt_irrefl _)⟩
theorem Rv.take (h : Rv k F w A c l) (m : Nat) (hm : m ≤ l.length) : Rv k F w A c (l.take m) := by
  obtain ⟨h1, h2, h3, h4⟩ := h
  have hl : (l.take m).length = m := by rw [List.length_take]; omega
  refine ⟨by omega, h2, h3, fun h0 => ?_⟩
  obtain ⟨b, o, e, hlt, hc⟩ := h4 (by omega)
  refine ⟨b, o, e, hlt, fun j x hj => hc j x ?_⟩
  rw [List.getElem?_take] at hj
  split at hj
  · exact hj
  · cases hj
theorem Rv.drop {b o : Nat} (h : Rv k F w (some ⟨b, o, none⟩) c l) (m : Nat) (hm : m ≤ l.length) : Rv k F w (some ⟨b, o + m * k, none⟩) (c - m) (l.drop m) := by
  obtain ⟨h1, h2, h3, h4⟩ := h
  refine ⟨by simp; omega, by omega, (by intro h; cases h), fun h0 => ?_⟩
  obtain ⟨b', o', e, hlt, hc⟩ := h4 (by simp at h0; omega)
  injection e with e
  injection e with e1 e2
  subst e1 e2
  refine ⟨b, o + m * k, rfl, hlt, fun j x hj i hi => ?_⟩
  rw [List.getElem?_drop] at hj
  have := hc (m + j) x hj i hi
  rwa [show o + (m + j) * k + i = o + m * k + j * k + i by rw [Nat.add_mul]; omega] at this
end
/-- Rows as cells. -/
def cellsV {α : Type} (k : Nat) (F : α → Nat → Value) (l : List α) : List Value := l.flatMap fun x => (List.range k).map fun i => F x i
section
variable {α : Type} {k : Nat} {F : α → Nat → Value}
theorem cellsV_at : ∀ {l : List α} {j : Nat} {x : α}, l[j]? = some x → ∀ i, i < k → (cellsV k F l)[j * k + i]? = some (F x i) := by
  intro l
  induction l with
  | nil => intro j x h; simp at h
  | cons y l ih =>
    intro j x h i hi
    have e : cellsV k F (y :: l) = ((List.range k).map fun i => F y i) ++ cellsV k F l := rfl
    rw [e]
    cases j with
    | zero =>
      simp at h
      subst h
      rw [Nat.zero_mul, Nat.zero_add, List.getElem?_append_left (by simp; omega)]
      simp [hi]
    | succ j =>
      rw [List.getElem?_append_right (by simp; rw [Nat.succ_mul]; omega)]
      have := ih (j := j) (x := x) (by simpa using h) i hi
      rw [show (j + 1) * k + i - (List.map (fun i => F y i) (List.range k)).length = j * k + i by simp [Nat.succ_mul]; omega]
      exact this
theorem cellsV_len (l : List α) : (cellsV k F l).length = l.length * k := by
  induction l with
  | nil => simp [cellsV]
  | cons y l ih =>
    have e : cellsV k F (y :: l) = ((List.range k).map fun i => F y i) ++ cellsV k F l := rfl
    rw [e, List.length_append, ih, List.length_cons, Nat.succ_mul]
    simp; omega
/-- What lies in the cells behind a slice's address. -/
theorem Rv.cells {w : World} {A : Option Addr} {c : Nat} {l : List α} (h : Rv k F w A c l) (hk : 0 < k) : ∀ ad, A = some ad → ∀ j u, (cellsV k F l)[j]? = some u → w.cell? (ad.add j) = some u := by
  intro ad hA j u hj
  have hjl := (List.getElem?_eq_some_iff.1 hj).1
  rw [cellsV_len] at hjl
  have hq : j / k < l.length := Nat.div_lt_of_lt_mul (by rw [Nat.mul_comm]; exact hjl)
  obtain ⟨x, hx⟩ : ∃ x, l[j / k]? = some x := ⟨_, List.getElem?_eq_getElem hq⟩
  obtain ⟨b, o, e, -, hc⟩ := h.at_ hx
  rw [hA] at e
  injection e with e
  subst e
  have hr : j % k < k := Nat.mod_lt _ hk
  have hd : j / k * k + j % k = j := by rw [Nat.mul_comm]; exact Nat.div_add_mod j k
  have h1 := cellsV_at (F := F) hx (j % k) hr
  rw [hd, hj] at h1
  injection h1 with h1
  have h2 := hc (j % k) hr
  rw [show o + j / k * k + j % k = o + j by omega] at h2
  rw [h1]
  have e : (⟨b, o, none⟩ : Addr).add j = ⟨b, o + j, none⟩ := by unfold Addr.add; split <;> simp_all
  rw [e]; exact h2
/-- A block of rows is a list in memory. -/
theorem rv_block {l : List α} {w : World} {b : Nat} {T : TypeId} (h : w.heap[b]? = some (.cells (cellsV k F l).toArray T (0, 0))) (hl : l.length ≤ maxLen) : Rv k F w (some ⟨b, 0, none⟩) l.length l := by
  refine ⟨Nat.le_refl _, hl, (by intro h; cases h), fun _ => ⟨b, 0, rfl, at_lt h, fun j x hj i hi => ?_⟩⟩
  rw [Nat.zero_add]
  refine cell_of h ?_
  have := cellsV_at (F := F) hj i hi
  simpa using this
/-- A list that a walk has made is a list in memory. -/
theorem own_rv {w : World} {base : Nat} {T : TypeId} {v : Value} {l : List α} (h : w.ownsRow base T k v l.length (cellsV k F l)) : ∃ A c, v = .slice A l.length c ∧ Rv k F w A c l := by
  have hc := h
  obtain ⟨k1, ⟨e, e2⟩ | ⟨g, cap, cur, e, k3, k4, k5, k6, k7, k8⟩⟩ := h
  · subst e
    obtain rfl : l = [] := List.eq_nil_of_length_eq_zero e2
    exact ⟨none, 0, rfl, Rv.nil _⟩
  · subst e
    refine ⟨some ⟨g, 0, none⟩, cap, rfl, k5, k6, (by intro h; cases h), fun _ => ⟨g, 0, rfl, at_lt k4, fun j x hj i hi => ?_⟩⟩
    have h1 := cellsV_at (F := F) hj i hi
    have h2 := (List.getElem?_eq_some_iff.1 h1).1
    have := hc.cellAt (j * k + i) (by rwa [cellsV_len] at h2)
    rw [show 0 + j * k + i = j * k + i by omega, this, h1]
end
theorem rv_int {α : Type} {k : Nat} {G : α → Nat → Int} {w : World} {A : Option Addr} {c : Nat} {l : List α} (h : Rv k (fun x i => .int .i64 (G x i)) w A c l) : Rw k G w A c l := ⟨h.1, h.2.1, h.2.2.2⟩
def hstV (x : Hst) : Nat → Value
  | 0 => .int .u8 (x.phase : Int)
  | _ => .int .i64 x.fw
def repV (x : Rep) : Nat → Value
  | 0 => .int .i64 x.svc
  | _ => .int .i64 x.host
def nrV (x : Nr) : Nat → Value
  | 0 => .int .i64 x.svc
  | _ => .int .i64 x.lat
def inV (x : Int) (_ : Nat) : Value := .int .i64 x
/-- Where a service's lists lie. -/
structure SvA where
  a1 : Option Addr
  c1 : Nat
  a2 : Option Addr
  c2 : Nat
def svV (x : Svc × SvA) : Nat → Value
  | 0 => .int .i64 x.1.cores
  | 1 => .int .i64 x.1.reps
  | 2 => .int .i64 x.1.least
  | 3 => .int .u8 (x.1.dom : Int)
  | 4 => .int .i64 x.1.spread
  | 5 => .slice x.2.a1 x.1.apart.length x.2.c1
  | 6 => .slice x.2.a2 x.1.near.length x.2.c2
  | _ => .int .i64 x.1.fw
def svA (x : Svc × SvA) : Array Value := #[.int .i64 x.1.cores, .int .i64 x.1.reps, .int .i64 x.1.least, .int .u8 (x.1.dom : Int), .int .i64 x.1.spread, .slice x.2.a1 x.1.apart.length x.2.c1, .slice x.2.a2 x.1.near.length x.2.c2, .int .i64 x.1.fw]
/-- A service's lists. -/
structure SvAt (w : World) (x : Svc × SvA) : Prop where
  apart : Rv 1 inV w x.2.a1 x.2.c1 x.1.apart
  near : Rv 2 nrV w x.2.a2 x.2.c2 x.1.near
  dom : x.1.dom < 256
theorem SvAt.on {w w' : World} {x : Svc × SvA} {B : Nat} (h : SvAt w x) (hb : Below B w w') (hB : w.heap.size ≤ B) : SvAt w' x := ⟨h.apart.on hb hB, h.near.on hb hB, h.dom⟩
/-- A wish's services in memory. -/
structure WiAt (w : World) (A : Option Addr) (c : Nat) (xs : List (Svc × SvA)) : Prop where
  row : Rv 8 svV w A c xs
  each : ∀ x ∈ xs, SvAt w x
theorem WiAt.on {w w' : World} {A : Option Addr} {c : Nat} {xs : List (Svc × SvA)} {B : Nat} (h : WiAt w A c xs) (hb : Below B w w') (hB : w.heap.size ≤ B) : WiAt w' A c xs := ⟨h.row.on hb hB, fun x hx => (h.each x hx).on hb hB⟩
def svs (xs : List (Svc × SvA)) : List Svc := xs.map (·.1)
theorem svs_len (xs : List (Svc × SvA)) : (svs xs).length = xs.length := by simp [svs]
theorem svs_at {xs : List (Svc × SvA)} {i : Nat} {x : Svc × SvA} (h : xs[i]? = some x) : (svs xs)[i]? = some x.1 := by simp [svs, h]
/-- Where a world's lists lie. -/
structure WP where
  a1 : Option Addr
  c1 : Nat
  a2 : Option Addr
  c2 : Nat
def woA (p : WP) (d : WorldD) : Array Value := #[.slice p.a1 d.hosts.length p.c1, .slice p.a2 d.reps.length p.c2]
structure WoAt (w : World) (p : WP) (d : WorldD) : Prop where
  hosts : Rv 2 hstV w p.a1 p.c1 d.hosts
  reps : Rv 2 repV w p.a2 p.c2 d.reps
  phase : ∀ h ∈ d.hosts, h.phase < 256
theorem WoAt.on {w w' : World} {p : WP} {d : WorldD} {B : Nat} (h : WoAt w p d) (hb : Below B w w') (hB : w.heap.size ≤ B) : WoAt w' p d := ⟨h.hosts.on hb hB, h.reps.on hb hB, h.phase⟩
def WoBox (w : World) (b : Nat) (p : WP) (d : WorldD) : Prop := w.heap[b]? = some (.cells (woA p d) 36 (0, 0))
theorem WoBox.on {w w' : World} {b : Nat} {p : WP} {d : WorldD} {B : Nat} (h : WoBox w b p d) (hb : Below B w w') (hB : w.heap.size ≤ B) : WoBox w' b p d := (hb.block _ (Nat.lt_of_lt_of_le (at_lt h) hB)).trans h
theorem WoBox.c0 {w : World} {b : Nat} {p : WP} {d : WorldD} (h : WoBox w b p d) : w.cell? ⟨b, 0, none⟩ = some (.slice p.a1 d.hosts.length p.c1) := cell_of h rfl
theorem WoBox.c1 {w : World} {b : Nat} {p : WP} {d : WorldD} (h : WoBox w b p d) : w.cell? ⟨b, 1, none⟩ = some (.slice p.a2 d.reps.length p.c2) := cell_of h rfl
def WiBox (w : World) (b : Nat) (A : Option Addr) (n c : Nat) : Prop := w.heap[b]? = some (.cells #[.slice A n c] 32 (0, 0))
theorem WiBox.on {w w' : World} {b : Nat} {A : Option Addr} {n c B : Nat} (h : WiBox w b A n c) (hb : Below B w w') (hB : w.heap.size ≤ B) : WiBox w' b A n c := (hb.block _ (Nat.lt_of_lt_of_le (at_lt h) hB)).trans h
theorem WiBox.c0 {w : World} {b : Nat} {A : Option Addr} {n c : Nat} (h : WiBox w b A n c) : w.cell? ⟨b, 0, none⟩ = some (.slice A n c) := cell_of h rfl
theorem box_new (w : World) (cs : Array Value) (T : TypeId) : (w.alloc (.cells cs T)).heap[w.heap.size]? = some (.cells cs T (0, 0)) := heap_alloc_new _ _
theorem box_on {w w' : World} {b : Nat} {o : Obj} {B : Nat} (h : w.heap[b]? = some o) (hb : Below B w w') (hB : w.heap.size ≤ B) : w'.heap[b]? = some o := (hb.block _ (Nat.lt_of_lt_of_le (at_lt h) hB)).trans h
theorem rep_at {w : World} {b o c : Nat} {l : List Rep} (h : Rv 2 repV w (some ⟨b, o, none⟩) c l) {j : Nat} {x : Rep} (hj : l[j]? = some x) : w.cell? ⟨b, o + j * 2, none⟩ = some (.int .i64 x.svc) ∧ w.cell? ⟨b, o + j * 2 + 1, none⟩ = some (.int .i64 x.host) := by
  obtain ⟨b', o', e, -, h0⟩ := h.at_ hj
  injection e with e
  injection e with e1 e2
  subst e1 e2
  exact ⟨h0 0 (by omega), h0 1 (by omega)⟩
theorem hst_at {w : World} {b o c : Nat} {l : List Hst} (h : Rv 2 hstV w (some ⟨b, o, none⟩) c l) {j : Nat} {x : Hst} (hj : l[j]? = some x) : w.cell? ⟨b, o + j * 2, none⟩ = some (.int .u8 (x.phase : Int)) ∧ w.cell? ⟨b, o + j * 2 + 1, none⟩ = some (.int .i64 x.fw) := by
  obtain ⟨b', o', e, -, h0⟩ := h.at_ hj
  injection e with e
  injection e with e1 e2
  subst e1 e2
  exact ⟨h0 0 (by omega), h0 1 (by omega)⟩
theorem near_at {w : World} {b o c : Nat} {l : List Nr} (h : Rv 2 nrV w (some ⟨b, o, none⟩) c l) {j : Nat} {x : Nr} (hj : l[j]? = some x) : w.cell? ⟨b, o + j * 2, none⟩ = some (.int .i64 x.svc) ∧ w.cell? ⟨b, o + j * 2 + 1, none⟩ = some (.int .i64 x.lat) := by
  obtain ⟨b', o', e, -, h0⟩ := h.at_ hj
  injection e with e
  injection e with e1 e2
  subst e1 e2
  exact ⟨h0 0 (by omega), h0 1 (by omega)⟩
theorem int_at {w : World} {b o c : Nat} {l : List Int} (h : Rv 1 inV w (some ⟨b, o, none⟩) c l) {j : Nat} {x : Int} (hj : l[j]? = some x) : w.cell? ⟨b, o + j, none⟩ = some (.int .i64 x) := by
  obtain ⟨b', o', e, -, h0⟩ := h.at_ hj
  injection e with e
  injection e with e1 e2
  subst e1 e2
  have := h0 0 (by omega)
  rwa [Nat.mul_one, Nat.add_zero] at this
theorem sv_at {w : World} {b o c : Nat} {l : List (Svc × SvA)} (h : Rv 8 svV w (some ⟨b, o, none⟩) c l) {j : Nat} {x : Svc × SvA} (hj : l[j]? = some x) :
    w.cell? ⟨b, o + j * 8, none⟩ = some (.int .i64 x.1.cores) ∧ w.cell? ⟨b, o + j * 8 + 1, none⟩ = some (.int .i64 x.1.reps) ∧ w.cell? ⟨b, o + j * 8 + 2, none⟩ = some (.int .i64 x.1.least) ∧ w.cell? ⟨b, o + j * 8 + 3, none⟩ = some (.int .u8 (x.1.dom : Int)) ∧ w.cell? ⟨b, o + j * 8 + 4, none⟩ = some (.int .i64 x.1.spread) ∧ w.cell? ⟨b, o + j * 8 + 5, none⟩ = some (.slice x.2.a1 x.1.apart.length x.2.c1) ∧ w.cell? ⟨b, o + j * 8 + 6, none⟩ = some (.slice x.2.a2 x.1.near.length x.2.c2) ∧ w.cell? ⟨b, o + j * 8 + 7, none⟩ = some (.int .i64 x.1.fw) := by
  obtain ⟨b', o', e, -, h0⟩ := h.at_ hj
  injection e with e
  injection e with e1 e2
  subst e1 e2
  exact ⟨h0 0 (by omega), h0 1 (by omega), h0 2 (by omega), h0 3 (by omega), h0 4 (by omega), h0 5 (by omega), h0 6 (by omega), h0 7 (by omega)⟩
end Go.Proofs.YtidpiokkfnhobaaGreat

namespace Go.Proofs.YtidpiokkfnhobaaGreat
open Go.RowKit
set_option maxRecDepth 100000
set_option linter.unusedVariables false
set_option linter.unusedSimpArgs false

set_option maxHeartbeats 2000000 in
theorem c_woIsFrom (lo hi n : Int) (r : Bool) (hr : inB n lo hi = r) (w : World) : Calls Tryz.prog 47 #[.int .i64 lo, .int .i64 hi, .int .i64 n] w fun e w' => e = .returned (.bool r) ∧ w' = w := by
  unfold inB at hr
  rcases h1 : decide (lo ≤ n) with _ | _
  · rw [h1] at hr
    obtain rfl : false = r := hr
    go_enter Tryz.func47, Tryz.ntmps47
    go_wp2
    go_ret
    exact ⟨rfl, rfl⟩
  · rw [h1] at hr
    obtain rfl : decide (n ≤ hi) = r := hr
    go_enter Tryz.func47, Tryz.ntmps47
    go_wp2
    go_ret
    exact ⟨rfl, rfl⟩
set_option maxHeartbeats 2000000 in
theorem c_woIsIndex (x m : Int) (r : Bool) (hr : ixB x m = r) (w : World) : Calls Tryz.prog 49 #[.int .i64 x, .int .i64 m] w fun e w' => e = .returned (.bool r) ∧ w' = w := by
  unfold ixB at hr
  rcases h1 : decide (0 ≤ x) with _ | _
  · rw [h1] at hr
    obtain rfl : false = r := hr
    go_enter Tryz.func49, Tryz.ntmps49
    go_wp2
    go_ret
    exact ⟨rfl, rfl⟩
  · rw [h1] at hr
    obtain rfl : decide (x < m) = r := hr
    go_enter Tryz.func49, Tryz.ntmps49
    go_wp2
    go_ret
    exact ⟨rfl, rfl⟩
def cmpI (x y : Int) : Int := if x < y then -1 else if y < x then 1 else 0
theorem c_cmpInt (x y : Int) (w : World) : Calls Tryz.prog 114 #[.int .i64 x, .int .i64 y] w fun e w' => e = .returned (.int .i64 (cmpI x y)) ∧ w' = w := by
  unfold cmpI
  have hn : ∀ (z : Int) (w : World), Calls Tryz.prog 126 #[.int .i64 z] w fun e w' => e = .returned (.bool false) ∧ w' = w := by
    intro z w
    go_enter Tryz.func126, Tryz.ntmps126
    go_wp2
    go_ret
    exact ⟨by simp, rfl⟩
  have HN := Lib.hid hn
  clear hn
  by_cases h1 : x < y
  · rw [if_pos h1]
    go_enter Tryz.func114, Tryz.ntmps114
    go_wp2_with (go_at_call 126; refine (HN.out _ _).mono ?_; rintro e w' ⟨rfl, rfl⟩)
    go_ret
    exact ⟨rfl, rfl⟩
  · rw [if_neg h1]
    by_cases h2 : y < x
    · rw [if_pos h2]
      go_enter Tryz.func114, Tryz.ntmps114
      go_wp2_with (go_at_call 126; refine (HN.out _ _).mono ?_; rintro e w' ⟨rfl, rfl⟩)
      go_ret
      exact ⟨rfl, rfl⟩
    · rw [if_neg h2]
      go_enter Tryz.func114, Tryz.ntmps114
      go_wp2_with (go_at_call 126; refine (HN.out _ _).mono ?_; rintro e w' ⟨rfl, rfl⟩)
      go_ret
      exact ⟨rfl, rfl⟩
set_option maxHeartbeats 2000000 in
theorem c_orInt (b : Nat) (x y : Int) (r : Int) (hr : (if x = 0 then y else x) = r) (w : World) (hb : w.heap[b]? = some (.cells #[.int .i64 x, .int .i64 y] 3 (0, 0))) :
    Calls Tryz.prog 113 #[.slice (some ⟨b, 0, none⟩) 2 2] w fun e w' => e = .returned (.int .i64 r) ∧ w' = w := by
  have x0 : w.cell? ⟨b, 0, none⟩ = some (.int .i64 x) := cell_of hb rfl
  have x1 : w.cell? ⟨b, 1, none⟩ = some (.int .i64 y) := cell_of hb rfl
  clear hb
  have HR := Lib.hid hr
  clear hr
  go_enter Tryz.func113, Tryz.ntmps113
  go_wp2_with (fail)
  go_loopw [8] (fun i wr => ∃ k : Nat, k ≤ 2 ∧ i = .int .i64 (k : Int) ∧ wr = w ∧ Hid ((1 ≤ k → x = 0) ∧ (2 ≤ k → y = 0))) (fun i _ => 2 - (intOf i).toNat)
  case atStart => exact ⟨0, by omega, rfl, rfl, Lib.hid ⟨by omega, by omega⟩⟩
  case round =>
    obtain ⟨k, hk, rfl, rfl, hz⟩ := hrel
    match k, hk with
    | 0, _ =>
      rcases hx : (x != 0) with _ | _
      · have HX := Lib.hid (show x = 0 by simpa using hx)
        go_wp2_with (fail)
        go_roundw
        case rel => exact ⟨1, by omega, rfl, trivial, Lib.hid ⟨fun _ => HX.out, by omega⟩⟩
        case measure => simp [intOf]
      · have HX := Lib.hid (show x = r by rw [← HR.out, if_neg (by simpa using hx)])
        go_wp2_with (fail)
        go_ret
        exact ⟨(show Ending.returned (.int .i64 x) = .returned (.int .i64 r) by rw [HX.out]), rfl⟩
    | 1, _ =>
      have HY := Lib.hid (show y = r by rw [← HR.out, if_pos (hz.out.1 (by omega))])
      rcases hy : (y != 0) with _ | _
      · have HX := Lib.hid (show y = 0 by simpa using hy)
        go_wp2_with (fail)
        go_roundw
        case rel => exact ⟨2, by omega, rfl, trivial, Lib.hid ⟨fun _ => hz.out.1 (by omega), fun _ => HX.out⟩⟩
        case measure => simp [intOf]
      · go_wp2_with (fail)
        go_ret
        exact ⟨(show Ending.returned (.int .i64 y) = .returned (.int .i64 r) by rw [HY.out]), rfl⟩
    | 2, _ =>
      have HY := Lib.hid (show 0 = r by rw [← HR.out, if_pos (hz.out.1 (by omega)), hz.out.2 (by omega)])
      go_wp2_with (fail)
      go_ret
      exact ⟨(show Ending.returned (.int .i64 0) = .returned (.int .i64 r) by rw [HY.out]), rfl⟩
def cmpR (a b : Rep) : Int := if cmpI a.svc b.svc = 0 then cmpI a.host b.host else cmpI a.svc b.svc
theorem cmpR_less (a b : Rep) : decide (0 ≤ cmpR a b) = !lessR a b := by
  have h : 0 ≤ cmpR a b ↔ ¬ lessR a b = true := by
    rw [lessR_iff]
    unfold cmpR cmpI
    repeat' split
    all_goals omega
  cases h2 : lessR a b
  · simp [h, h2]
  · simp [h, h2]
set_option maxHeartbeats 4000000 in
theorem c_compare (p q : Rep) (r : Int) (hr : cmpR p q = r) (w : World) : Calls Tryz.prog 88 #[.agg #[.int .i64 p.svc, .int .i64 p.host], .agg #[.int .i64 q.svc, .int .i64 q.host]] w fun e w' => e = .returned (.int .i64 r) ∧ Below w.heap.size w w' := by
  obtain ⟨W1, hW1⟩ : ∃ W, W = w.alloc (.cells #[.int .i64 p.svc, .int .i64 p.host] 79) := ⟨_, rfl⟩
  obtain ⟨W2, hW2⟩ : ∃ W, W = W1.alloc (.cells #[.int .i64 q.svc, .int .i64 q.host] 79) := ⟨_, rfl⟩
  have hs1 : W1.heap.size = w.heap.size + 1 := by rw [hW1, World.size_alloc]
  have hs2 : W2.heap.size = w.heap.size + 2 := by rw [hW2, World.size_alloc]; omega
  have b1 : W1.heap[w.heap.size]? = some (.cells #[.int .i64 p.svc, .int .i64 p.host] 79 (0, 0)) := by rw [hW1]; exact box_new _ _ _
  have b2 : W2.heap[w.heap.size]? = some (.cells #[.int .i64 p.svc, .int .i64 p.host] 79 (0, 0)) := by rw [hW2]; exact old_heap _ b1
  have b3 : W2.heap[w.heap.size + 1]? = some (.cells #[.int .i64 q.svc, .int .i64 q.host] 79 (0, 0)) := by rw [← hs1, hW2]; exact box_new _ _ _
  have HB := Lib.hid (show Below w.heap.size w W2 by rw [hW2]; exact ((hW1 ▸ (Below.refl _ _).alloc (Nat.le_refl _) _ : Below w.heap.size w W1)).alloc (by omega) _)
  have HF := Lib.hid (fun (X : World) (hX : Below W2.heap.size W2 X) => (⟨cell_of (box_on b2 hX (Nat.le_refl _)) rfl, cell_of (box_on b2 hX (Nat.le_refl _)) rfl, cell_of (box_on b3 hX (Nat.le_refl _)) rfl, cell_of (box_on b3 hX (Nat.le_refl _)) rfl⟩ : X.cell? ⟨w.heap.size, 0, none⟩ = some (.int .i64 p.svc) ∧ X.cell? ⟨w.heap.size, 1, none⟩ = some (.int .i64 p.host) ∧ X.cell? ⟨w.heap.size + 1, 0, none⟩ = some (.int .i64 q.svc) ∧ X.cell? ⟨w.heap.size + 1, 1, none⟩ = some (.int .i64 q.host)))
  have HR := Lib.hid (show (if cmpI p.svc q.svc = 0 then cmpI p.host q.host else cmpI p.svc q.svc) = r from hr)
  clear hr b1 b2 b3 hs1 hs2
  obtain ⟨x0, x1, x2, x3⟩ := HF.out W2 (Below.refl _ _)
  generalize hA : w.heap.size = A at *
  go_enter Tryz.func88, Tryz.ntmps88
  go_wp2_with (fail)
  rw [← hW1, ← hW2]
  clear hW1 hW2
  have HO := Lib.hid (c_orInt W2.heap.size (cmpI p.svc q.svc) (cmpI p.host q.host) r HR.out (W2.alloc (.cells #[.int .i64 (cmpI p.svc q.svc), .int .i64 (cmpI p.host q.host)] 3)).drew (box_new W2 _ _))
  have HK := Lib.hid (HF.out (W2.alloc (.cells #[.int .i64 (cmpI p.svc q.svc), .int .i64 (cmpI p.host q.host)] 3)).drew ((Below.refl _ _).alloc (Nat.le_refl _) _).drew)
  go_region_held3 (fun X => X.cell? ⟨A, 0, none⟩ = some (.int .i64 p.svc) ∧ X.cell? ⟨A, 1, none⟩ = some (.int .i64 p.host) ∧ X.cell? ⟨A + 1, 0, none⟩ = some (.int .i64 q.svc) ∧ X.cell? ⟨A + 1, 1, none⟩ = some (.int .i64 q.host))
    (first | exact HF.out W2 (Below.refl _ _) | exact HF.out W2.drew (Below.refl _ _).drew | exact HK.out | fail)
    (first
      | (go_at_call 114; (with_reducible refine (c_cmpInt _ _ _).mono ?_); rintro e w1 ⟨rfl, rfl⟩)
      | (go_at_call 113; refine HO.out.mono ?_; rintro e w1 ⟨rfl, rfl⟩)
      | fail)
  go_wp2_with (fail)
  go_ret
  exact ⟨rfl, below_join HB.out (((Below.refl W2.heap.size W2).alloc (Nat.le_refl _) _).drew) (by have := HB.out.size; omega)⟩
set_option maxHeartbeats 8000000 in
theorem c_ascend (A : Option Addr) (c : Nat) (l : List Rep) (r : Bool) (hr : ascB l = r) (w : World) (h : Rv 2 repV w A c l) :
    Calls Tryz.prog 54 #[.slice A l.length c] w fun e w' => e = .returned (.bool r) ∧ Below w.heap.size w w' := by
  have H := Lib.hid h
  have HR := Lib.hid hr
  have k1 := h.1; have k2 := h.2.1
  unfold maxLen at k2
  clear h hr
  go_enter Tryz.func54, Tryz.ntmps54
  go_wp2_with (fail)
  go_loopw [3] (fun i wr => ∃ k : Nat, (k ≤ l.length ∨ k = 1) ∧ 1 ≤ k ∧ i = .int .i64 (k : Int) ∧ Hid (Below w.heap.size w wr) ∧ Hid (∀ j a b, j + 1 < k → l[j]? = some a → l[j + 1]? = some b → lessR a b = true)) (fun i _ => l.length - (intOf i).toNat)
  case atStart => exact ⟨1, .inr rfl, by omega, rfl, Lib.hid (Below.refl _ _), Lib.hid (fun j a b hj => absurd hj (by omega))⟩
  case round =>
    obtain ⟨k, hk, hk1, rfl, hB, hasc⟩ := hrel
    by_cases hlt : k < l.length
    · obtain ⟨m, hm⟩ : ∃ m, k = m + 1 := ⟨k - 1, by omega⟩
      obtain ⟨x, hx⟩ : ∃ x, l[m]? = some x := ⟨_, List.getElem?_eq_getElem (by omega)⟩
      obtain ⟨y, hy⟩ : ∃ y, l[k]? = some y := ⟨_, List.getElem?_eq_getElem hlt⟩
      obtain ⟨b, o, rfl, -, -⟩ := H.out.at_ hx
      have HF := Lib.hid (fun (X : World) (hX : Below w.heap.size w X) => (let z := rep_at (H.out.on hX (Nat.le_refl _)) hx; let u := rep_at (H.out.on hX (Nat.le_refl _)) hy; (⟨z.1, z.2, u.1, u.2⟩ : X.cell? ⟨b, o + m * 2, none⟩ = some (.int .i64 x.svc) ∧ X.cell? ⟨b, o + m * 2 + 1, none⟩ = some (.int .i64 x.host) ∧ X.cell? ⟨b, o + k * 2, none⟩ = some (.int .i64 y.svc) ∧ X.cell? ⟨b, o + k * 2 + 1, none⟩ = some (.int .i64 y.host))))
      obtain ⟨f0, f1, f2, f3⟩ := HF.out wr hB.out
      have hk2 : ((k : Nat) : Int) < (l.length : Int) := by omega
      have hk3 : IntKind.i64.wrap (((k : Nat) : Int) - 1) = (m : Int) := by rw [show ((k : Nat) : Int) - 1 = (m : Int) by omega]; exact wrap_in (by omega) (by omega)
      have hk0 : (0 : Int) ≤ (m : Int) := by omega
      have hk4 : ((m : Nat) : Int) < (l.length : Int) := by omega
      have hi1 : ((m : Nat) : Int).toNat = m := by omega
      have hi2 : ((k : Nat) : Int).toNat = k := by omega
      have HM := Lib.hid hm
      clear hm
      have HXX := Lib.hid hx
      have HYY := Lib.hid hy
      obtain ⟨z, hz⟩ : ∃ z, cmpR x y = z := ⟨_, rfl⟩
      have HZ := Lib.hid hz
      have HC := Lib.hid (c_compare x y z hz wr.drew)
      clear hx hy hz
      go_wp2_with (fail)
      go_region_held3 (fun X => X.cell? ⟨b, o + m * 2, none⟩ = some (.int .i64 x.svc) ∧ X.cell? ⟨b, o + m * 2 + 1, none⟩ = some (.int .i64 x.host) ∧ X.cell? ⟨b, o + k * 2, none⟩ = some (.int .i64 y.svc) ∧ X.cell? ⟨b, o + k * 2 + 1, none⟩ = some (.int .i64 y.host))
        (first | exact HF.out wr hB.out | exact HF.out w1 HB1.out | fail)
        (first
          | (go_at_call 88; refine HC.out.mono ?_; rintro e w1 ⟨rfl, bb1⟩; have HB1 := Lib.hid (below_join hB.out.drew bb1 hB.out.size); clear bb1)
          | fail)
      rcases hL : lessR x y with _ | _
      · obtain rfl : false = r := by
          rw [← HR.out]
          refine ((Bool.eq_false_iff).2 fun h => ?_).symm
          have := ascB_iff.1 h m x y HXX.out (by rw [← HM.out]; exact HYY.out)
          rw [hL] at this; cases this
        have hd : decide (0 ≤ z) = true := by rw [← HZ.out, cmpR_less, hL]; rfl
        rw [hd]
        go_wp2_with (fail)
        go_ret
        exact ⟨rfl, HB1.out⟩
      · have hd : decide (0 ≤ z) = false := by rw [← HZ.out, cmpR_less, hL]; rfl
        have HN := Lib.hid (show ∀ j a b, j + 1 < k + 1 → l[j]? = some a → l[j + 1]? = some b → lessR a b = true from fun j a b hj ha hb => by
          have hM := HM.out
          by_cases e : j + 1 < k
          · exact hasc.out j a b e ha hb
          · obtain rfl : j = m := by omega
            rw [HXX.out] at ha
            rw [← hM, HYY.out] at hb
            injection ha with ha
            injection hb with hb
            subst ha hb
            exact hL)
        rw [hd]
        go_wp2_with (fail)
        go_roundw
        case rel => exact ⟨k + 1, .inl (by omega), by omega, by go_num, HB1, HN⟩
        case measure => simp only [intOf]; omega
    · obtain rfl : true = r := by
        rw [← HR.out]
        refine (ascB_iff.2 fun i a b ha hb => hasc.out i a b ?_ ha hb).symm
        have := (List.getElem?_eq_some_iff.1 hb).1
        omega
      go_wp2_with (fail)
      go_ret
      exact ⟨rfl, hB.out⟩
set_option maxHeartbeats 4000000 in
theorem c_Less (p q : Rep) (r : Bool) (hr : lessR p q = r) (w : World) : Calls Tryz.prog 69 #[.agg #[.int .i64 p.svc, .int .i64 p.host], .agg #[.int .i64 q.svc, .int .i64 q.host]] w fun e w' => e = .returned (.bool r) ∧ Below w.heap.size w w' := by
  obtain ⟨W1, hW1⟩ : ∃ W, W = w.alloc (.cells #[.int .i64 p.svc, .int .i64 p.host] 79) := ⟨_, rfl⟩
  obtain ⟨W2, hW2⟩ : ∃ W, W = W1.alloc (.cells #[.int .i64 q.svc, .int .i64 q.host] 79) := ⟨_, rfl⟩
  have hs1 : W1.heap.size = w.heap.size + 1 := by rw [hW1, World.size_alloc]
  have b1 : W1.heap[w.heap.size]? = some (.cells #[.int .i64 p.svc, .int .i64 p.host] 79 (0, 0)) := by rw [hW1]; exact box_new _ _ _
  have b2 : W2.heap[w.heap.size]? = some (.cells #[.int .i64 p.svc, .int .i64 p.host] 79 (0, 0)) := by rw [hW2]; exact old_heap _ b1
  have b3 : W2.heap[w.heap.size + 1]? = some (.cells #[.int .i64 q.svc, .int .i64 q.host] 79 (0, 0)) := by rw [← hs1, hW2]; exact box_new _ _ _
  have HB := Lib.hid (show Below w.heap.size w W2 by rw [hW2]; exact ((hW1 ▸ (Below.refl _ _).alloc (Nat.le_refl _) _ : Below w.heap.size w W1)).alloc (by omega) _)
  have x0 : W2.cell? ⟨w.heap.size, 0, none⟩ = some (.int .i64 p.svc) := cell_of b2 rfl
  have x1 : W2.cell? ⟨w.heap.size, 1, none⟩ = some (.int .i64 p.host) := cell_of b2 rfl
  have x2 : W2.cell? ⟨w.heap.size + 1, 0, none⟩ = some (.int .i64 q.svc) := cell_of b3 rfl
  have x3 : W2.cell? ⟨w.heap.size + 1, 1, none⟩ = some (.int .i64 q.host) := cell_of b3 rfl
  have HR := Lib.hid (show (decide (p.svc < q.svc) || (p.svc == q.svc && decide (p.host < q.host))) = r from hr)
  clear hr b1 b2 b3 hs1
  generalize hA : w.heap.size = A at *
  go_enter Tryz.func69, Tryz.ntmps69
  rcases h1 : decide (p.svc < q.svc) with _ | _
  · rcases h2 : (p.svc == q.svc) with _ | _
    · obtain rfl : false = r := by have h := HR.out; rw [h1, h2] at h; exact h
      go_wp2_with (fail)
      rw [← hW1, ← hW2]
      clear hW1 hW2
      go_wp2_with (fail)
      go_ret
      exact ⟨rfl, HB.out⟩
    · obtain rfl : decide (p.host < q.host) = r := by have h := HR.out; rw [h1, h2] at h; exact h
      go_wp2_with (fail)
      rw [← hW1, ← hW2]
      clear hW1 hW2
      go_wp2_with (fail)
      go_ret
      exact ⟨rfl, HB.out⟩
  · obtain rfl : true = r := by have h := HR.out; rw [h1] at h; exact h
    go_wp2_with (fail)
    rw [← hW1, ← hW2]
    clear hW1 hW2
    go_wp2_with (fail)
    go_ret
    exact ⟨rfl, HB.out⟩
set_option maxHeartbeats 8000000 in
theorem c_Ascending (A : Option Addr) (c : Nat) (l : List Rep) (r : Bool) (hr : ascB l = r) (w : World) (h : Rv 2 repV w A c l) :
    Calls Tryz.prog 44 #[.slice A l.length c] w fun e w' => e = .returned (.bool r) ∧ Below w.heap.size w w' := by
  have H := Lib.hid h
  have HR := Lib.hid hr
  have k1 := h.1; have k2 := h.2.1
  unfold maxLen at k2
  clear h hr
  go_enter Tryz.func44, Tryz.ntmps44
  go_wp2_with (fail)
  go_loopw [3] (fun i wr => ∃ k : Nat, (k ≤ l.length ∨ k = 1) ∧ 1 ≤ k ∧ i = .int .i64 (k : Int) ∧ Hid (Below w.heap.size w wr) ∧ Hid (∀ j a b, j + 1 < k → l[j]? = some a → l[j + 1]? = some b → lessR a b = true)) (fun i _ => l.length - (intOf i).toNat)
  case atStart => exact ⟨1, .inr rfl, by omega, rfl, Lib.hid (Below.refl _ _), Lib.hid (fun j a b hj => absurd hj (by omega))⟩
  case round =>
    obtain ⟨k, hk, hk1, rfl, hB, hasc⟩ := hrel
    by_cases hlt : k < l.length
    · obtain ⟨m, hm⟩ : ∃ m, k = m + 1 := ⟨k - 1, by omega⟩
      obtain ⟨x, hx⟩ : ∃ x, l[m]? = some x := ⟨_, List.getElem?_eq_getElem (by omega)⟩
      obtain ⟨y, hy⟩ : ∃ y, l[k]? = some y := ⟨_, List.getElem?_eq_getElem hlt⟩
      obtain ⟨b, o, rfl, -, -⟩ := H.out.at_ hx
      have HF := Lib.hid (fun (X : World) (hX : Below w.heap.size w X) => (let z := rep_at (H.out.on hX (Nat.le_refl _)) hx; let u := rep_at (H.out.on hX (Nat.le_refl _)) hy; (⟨z.1, z.2, u.1, u.2⟩ : X.cell? ⟨b, o + m * 2, none⟩ = some (.int .i64 x.svc) ∧ X.cell? ⟨b, o + m * 2 + 1, none⟩ = some (.int .i64 x.host) ∧ X.cell? ⟨b, o + k * 2, none⟩ = some (.int .i64 y.svc) ∧ X.cell? ⟨b, o + k * 2 + 1, none⟩ = some (.int .i64 y.host))))
      obtain ⟨f0, f1, f2, f3⟩ := HF.out wr hB.out
      have hk2 : ((k : Nat) : Int) < (l.length : Int) := by omega
      have hk3 : IntKind.i64.wrap (((k : Nat) : Int) - 1) = (m : Int) := by rw [show ((k : Nat) : Int) - 1 = (m : Int) by omega]; exact wrap_in (by omega) (by omega)
      have hk0 : (0 : Int) ≤ (m : Int) := by omega
      have hk4 : ((m : Nat) : Int) < (l.length : Int) := by omega
      have hi1 : ((m : Nat) : Int).toNat = m := by omega
      have hi2 : ((k : Nat) : Int).toNat = k := by omega
      have HM := Lib.hid hm
      clear hm
      have HXX := Lib.hid hx
      have HYY := Lib.hid hy
      obtain ⟨z, hz⟩ : ∃ z, lessR x y = z := ⟨_, rfl⟩
      have HZ := Lib.hid hz
      have HC := Lib.hid (c_Less x y z hz wr.drew)
      clear hx hy hz
      go_wp2_with (fail)
      go_region_held3 (fun X => X.cell? ⟨b, o + m * 2, none⟩ = some (.int .i64 x.svc) ∧ X.cell? ⟨b, o + m * 2 + 1, none⟩ = some (.int .i64 x.host) ∧ X.cell? ⟨b, o + k * 2, none⟩ = some (.int .i64 y.svc) ∧ X.cell? ⟨b, o + k * 2 + 1, none⟩ = some (.int .i64 y.host))
        (first | exact HF.out wr hB.out | exact HF.out w1 HB1.out | fail)
        (first
          | (go_at_call 69; refine HC.out.mono ?_; rintro e w1 ⟨rfl, bb1⟩; have HB1 := Lib.hid (below_join hB.out.drew bb1 hB.out.size); clear bb1)
          | fail)
      rcases hL : lessR x y with _ | _
      · obtain rfl : false = r := by
          rw [← HR.out]
          refine ((Bool.eq_false_iff).2 fun h => ?_).symm
          have := ascB_iff.1 h m x y HXX.out (by rw [← HM.out]; exact HYY.out)
          rw [hL] at this; cases this
        obtain rfl : false = z := by rw [← HZ.out, hL]
        go_wp2_with (fail)
        go_ret
        exact ⟨rfl, HB1.out⟩
      · obtain rfl : true = z := by rw [← HZ.out, hL]
        have HN := Lib.hid (show ∀ j a b, j + 1 < k + 1 → l[j]? = some a → l[j + 1]? = some b → lessR a b = true from fun j a b hj ha hb => by
          have hM := HM.out
          by_cases e : j + 1 < k
          · exact hasc.out j a b e ha hb
          · obtain rfl : j = m := by omega
            rw [HXX.out] at ha
            rw [← hM, HYY.out] at hb
            injection ha with ha
            injection hb with hb
            subst ha hb
            exact hL)
        go_wp2_with (fail)
        go_roundw
        case rel => exact ⟨k + 1, .inl (by omega), by omega, by go_num, HB1, HN⟩
        case measure => simp only [intOf]; omega
    · obtain rfl : true = r := by
        rw [← HR.out]
        refine (ascB_iff.2 fun i a b ha hb => hasc.out i a b ?_ ha hb).symm
        have := (List.getElem?_eq_some_iff.1 hb).1
        omega
      go_wp2_with (fail)
      go_ret
      exact ⟨rfl, hB.out⟩
end Go.Proofs.YtidpiokkfnhobaaGreat

namespace Go.Proofs.YtidpiokkfnhobaaGreat
open Go.RowKit
set_option maxRecDepth 100000
set_option linter.unusedVariables false
set_option linter.unusedSimpArgs false

set_option maxHeartbeats 4000000 in
theorem c_badNear (x : Nr) (r : Bool) (hr : nearBad x = r) (w : World) : Calls Tryz.prog 107 #[.agg #[.int .i64 x.svc, .int .i64 x.lat]] w fun e w' => e = .returned (.bool r) ∧ Below w.heap.size w w' := by
  obtain ⟨W, hW⟩ : ∃ W, W = w.alloc (.cells #[.int .i64 x.svc, .int .i64 x.lat] 139) := ⟨_, rfl⟩
  have HB := Lib.hid (show Below w.heap.size w W by subst hW; exact (Below.refl _ _).alloc (Nat.le_refl _) _)
  have x1 : W.cell? ⟨w.heap.size, 1, none⟩ = some (.int .i64 x.lat) := by subst hW; exact cell_of (box_new _ _ _) rfl
  obtain ⟨q, hq⟩ : ∃ q, inB x.lat 0 1000000 = q := ⟨_, rfl⟩
  have HQ := Lib.hid hq
  have HR := Lib.hid (show (!q) = r by rw [← hq]; exact hr)
  clear hr hq
  generalize hA : w.heap.size = A at *
  go_enter Tryz.func107, Tryz.ntmps107
  go_wp2_with (fail)
  rw [← hW]
  clear hW
  go_wp2_with (go_at_call 47; refine (c_woIsFrom _ _ _ q HQ.out _).mono ?_; rintro e w1 ⟨rfl, rfl⟩)
  go_ret
  exact ⟨(show Ending.returned (.bool (!q)) = .returned (.bool r) by rw [HR.out]), HB.out⟩
set_option maxHeartbeats 4000000 in
theorem c_badHst (x : Hst) (r : Bool) (hr : (!hstOk x) = r) (w : World) : Calls Tryz.prog 46 #[.agg #[.int .u8 (x.phase : Int), .int .i64 x.fw]] w fun e w' => e = .returned (.bool r) ∧ Below w.heap.size w w' := by
  obtain ⟨W, hW⟩ : ∃ W, W = w.alloc (.cells #[.int .u8 (x.phase : Int), .int .i64 x.fw] 59) := ⟨_, rfl⟩
  have HB := Lib.hid (show Below w.heap.size w W by subst hW; exact (Below.refl _ _).alloc (Nat.le_refl _) _)
  have x0 : W.cell? ⟨w.heap.size, 0, none⟩ = some (.int .u8 (x.phase : Int)) := by subst hW; exact cell_of (box_new _ _ _) rfl
  have x1 : W.cell? ⟨w.heap.size, 1, none⟩ = some (.int .i64 x.fw) := by subst hW; exact cell_of (box_new _ _ _) rfl
  obtain ⟨q, hq⟩ : ∃ q, inB x.fw 0 1000000 = q := ⟨_, rfl⟩
  have HQ := Lib.hid hq
  have HR := Lib.hid (show (!(decide (x.phase ≤ 4) && q)) = r by rw [← hq]; exact hr)
  clear hr hq
  generalize hA : w.heap.size = A at *
  by_cases hp : x.phase ≤ 4
  · have hd : decide ((4 : Int) < (x.phase : Int)) = false := decide_eq_false (by omega)
    have HE := Lib.hid (show (!q) = r by have h := HR.out; rw [decide_eq_true hp] at h; exact h)
    clear hp
    go_enter Tryz.func46, Tryz.ntmps46
    go_wp2_with (fail)
    rw [← hW]
    clear hW
    go_wp2_with (go_at_call 47; refine (c_woIsFrom _ _ _ q HQ.out _).mono ?_; rintro e w1 ⟨rfl, rfl⟩)
    go_ret
    exact ⟨(show Ending.returned (.bool (!q)) = .returned (.bool r) by rw [HE.out]), HB.out⟩
  · have hd : decide ((4 : Int) < (x.phase : Int)) = true := decide_eq_true (by omega)
    obtain rfl : true = r := by have h := HR.out; rw [decide_eq_false hp] at h; exact h
    clear hp
    go_enter Tryz.func46, Tryz.ntmps46
    go_wp2_with (fail)
    rw [← hW]
    clear hW
    go_wp2_with (fail)
    go_ret
    exact ⟨rfl, HB.out⟩
set_option maxHeartbeats 4000000 in
theorem c_badRep (wb sb : Nat) (p : SP) (s : SiteD) (WA : Option Addr) (n wc : Nat) (x : Rep) (r : Bool) (hr : (!repOk n s.hosts.length x) = r) (w : World) (hw : WiBox w wb WA n wc) (hs : SiBox w sb p s) :
    Calls Tryz.prog 48 #[.agg #[.int .i64 x.svc, .int .i64 x.host], .pointer (some ⟨wb, 0, none⟩), .pointer (some ⟨sb, 0, none⟩)] w fun e w' => e = .returned (.bool r) ∧ Below w.heap.size w w' := by
  obtain ⟨W, hW⟩ : ∃ W, W = w.alloc (.cells #[.int .i64 x.svc, .int .i64 x.host] 79) := ⟨_, rfl⟩
  have B0 : Below w.heap.size w W := by subst hW; exact (Below.refl _ _).alloc (Nat.le_refl _) _
  have HB := Lib.hid B0
  have x0 : W.cell? ⟨w.heap.size, 0, none⟩ = some (.int .i64 x.svc) := by subst hW; exact cell_of (box_new _ _ _) rfl
  have x1 : W.cell? ⟨w.heap.size, 1, none⟩ = some (.int .i64 x.host) := by subst hW; exact cell_of (box_new _ _ _) rfl
  have y0 := (hw.on B0 (Nat.le_refl _)).c0
  have y1 := (hs.on B0 (Nat.le_refl _)).c6
  obtain ⟨q1, hq1⟩ : ∃ q, ixB x.svc (n : Int) = q := ⟨_, rfl⟩
  obtain ⟨q2, hq2⟩ : ∃ q, ixB x.host (s.hosts.length : Int) = q := ⟨_, rfl⟩
  have HQ1 := Lib.hid hq1
  have HQ2 := Lib.hid hq2
  have HR := Lib.hid (show (!(q1 && q2)) = r by rw [← hq1, ← hq2]; exact hr)
  clear hr hq1 hq2 hw hs B0
  generalize hA : w.heap.size = A at *
  cases q1
  · obtain rfl : true = r := by have h := HR.out; exact h
    rw [hW] at x0 x1 y0 y1
    go_enter Tryz.func48, Tryz.ntmps48
    go_wp2_with (fail)
    rw [← hW] at x0 x1 y0 y1 ⊢
    clear hW
    go_at_call 49
    refine (c_woIsIndex _ _ false HQ1.out _).mono ?_
    rintro e w1 ⟨rfl, rfl⟩
    go_wp2_with (fail)
    go_ret
    exact ⟨rfl, HB.out⟩
  · have HE := Lib.hid (show (!q2) = r by have h := HR.out; exact h)
    rw [hW] at x0 x1 y0 y1
    go_enter Tryz.func48, Tryz.ntmps48
    go_wp2_with (fail)
    rw [← hW] at x0 x1 y0 y1 ⊢
    clear hW
    go_at_call 49
    refine (c_woIsIndex _ _ true HQ1.out _).mono ?_
    rintro e w1 ⟨rfl, rfl⟩
    go_wp2_with (fail)
    go_at_call 49
    refine (c_woIsIndex _ _ q2 HQ2.out _).mono ?_
    rintro e w1 ⟨rfl, rfl⟩
    go_wp2_with (fail)
    go_ret
    exact ⟨(show Ending.returned (.bool (!q2)) = .returned (.bool r) by rw [HE.out]), HB.out⟩
set_option maxHeartbeats 4000000 in
theorem c_IF_Near (A : Option Addr) (c : Nat) (l : List Nr) (w : World) (h : Rv 2 nrV w A c l) (y : Int) (hy : fidx nearBad l = y) :
    Calls Tryz.prog 125 #[.slice A l.length c, .func (.func 107) #[] #[]] w fun e w' => e = .returned (.int .i64 y) ∧ Below w.heap.size w w' := by
  have H := Lib.hid h
  have HY := Lib.hid hy
  have hc1 := h.1
  have hc2 := h.2.1
  unfold maxLen at hc2
  clear h hy
  go_enter Tryz.func125, Tryz.ntmps125
  go_wp2_with (fail)
  go_loopw [8] (fun i wr => ∃ k : Nat, k ≤ l.length ∧ i = .int .i64 (k : Int) ∧ Hid (∀ i y, i < k → l[i]? = some y → nearBad y = false) ∧ Hid (Below w.heap.size w wr)) (fun i _ => l.length - (intOf i).toNat)
  case atStart => exact ⟨0, Nat.zero_le _, rfl, Lib.hid (fun i y hi => absurd hi (by omega)), Lib.hid (Below.refl _ _)⟩
  case round =>
    obtain ⟨k, hk, rfl, hun, hB⟩ := hrel
    by_cases hlt : k < l.length
    · obtain ⟨⟨z0, z1⟩, hx⟩ : ∃ x, l[k]? = some x := ⟨_, List.getElem?_eq_getElem hlt⟩
      have HK := H.out
      obtain ⟨pb, o, rfl, -, -⟩ := HK.at_ hx
      obtain ⟨y0, y1⟩ := near_at (HK.on hB.out (Nat.le_refl _)) hx
      have HXX := Lib.hid hx
      have hki : ((k : Nat) : Int).toNat = k := by omega
      have hlt' : (k : Int) < ((l.length : Nat) : Int) := by omega
      have HC := Lib.hid (fun (r : Bool) (hr : nearBad ⟨z0, z1⟩ = r) => c_badNear ⟨z0, z1⟩ r hr wr)
      clear hx HK
      rcases hp : nearBad ⟨z0, z1⟩ with _ | _
      · have HP := Lib.hid hp
        clear hp
        go_wp2_with (go_at_call 107; refine (HC.out _ HP.out).mono ?_; rintro e w1 ⟨rfl, b1⟩; have HB1 := Lib.hid (below_join hB.out b1 hB.out.size); clear b1 y0 y1)
        go_roundw
        case rel => exact ⟨k + 1, by omega, by go_num, Lib.hid (fun i y hi hy => by
          rcases Nat.lt_or_ge i k with h | h
          · exact hun.out i y h hy
          · obtain rfl : i = k := by omega
            have := HXX.out
            rw [hy] at this
            injection this with this
            subst this
            exact HP.out), HB1⟩
        case measure => simp only [intOf]; omega
      · have HKY := Lib.hid (show (k : Int) = y by rw [← HY.out]; exact (fidx_at _ l k _ hun.out HXX.out hp).symm)
        have HP := Lib.hid hp
        clear hp
        go_wp2_with (go_at_call 107; refine (HC.out _ HP.out).mono ?_; rintro e w1 ⟨rfl, b1⟩; have HB1 := Lib.hid (below_join hB.out b1 hB.out.size); clear b1 y0 y1)
        go_ret
        exact ⟨(show Ending.returned (.int .i64 (k : Int)) = .returned (.int .i64 y) by rw [HKY.out]), HB1.out⟩
    · obtain rfl : k = l.length := by omega
      have HKY := Lib.hid (show (-1 : Int) = y by rw [← HY.out, fidx_none _ l (fun i y hy => hun.out i y (List.getElem?_eq_some_iff.1 hy).1 hy)])
      go_wp2_with (fail)
      go_ret
      exact ⟨(show Ending.returned (.int .i64 (-1)) = .returned (.int .i64 y) by rw [HKY.out]), hB.out⟩
set_option maxHeartbeats 4000000 in
theorem c_CF_Near (A : Option Addr) (c : Nat) (l : List Nr) (w : World) (h : Rv 2 nrV w A c l) (r : Bool) (hr : l.any nearBad = r) :
    Calls Tryz.prog 108 #[.slice A l.length c, .func (.func 107) #[] #[]] w fun e w' => e = .returned (.bool r) ∧ Below w.heap.size w w' := by
  obtain ⟨y, hy⟩ : ∃ y, fidx nearBad l = y := ⟨_, rfl⟩
  have HC := Lib.hid (c_IF_Near A c l w h y hy)
  have HR := Lib.hid (show decide (0 ≤ y) = r by rw [← hy, fidx_any, hr])
  clear hy hr h
  go_enter Tryz.func108, Tryz.ntmps108
  go_wp2_with (go_at_call 125; refine HC.out.mono ?_; rintro e w1 ⟨rfl, b1⟩; have HB1 := Lib.hid b1; clear b1)
  go_ret
  exact ⟨(show Ending.returned (.bool (decide (0 ≤ y))) = .returned (.bool r) by rw [HR.out]), HB1.out⟩
set_option maxHeartbeats 4000000 in
theorem c_IF_HostState (A : Option Addr) (c : Nat) (l : List Hst) (w : World) (h : Rv 2 hstV w A c l) (y : Int) (hy : fidx (fun x => !hstOk x) l = y) :
    Calls Tryz.prog 86 #[.slice A l.length c, .func (.func 46) #[] #[]] w fun e w' => e = .returned (.int .i64 y) ∧ Below w.heap.size w w' := by
  have H := Lib.hid h
  have HY := Lib.hid hy
  have hc1 := h.1
  have hc2 := h.2.1
  unfold maxLen at hc2
  clear h hy
  go_enter Tryz.func86, Tryz.ntmps86
  go_wp2_with (fail)
  go_loopw [8] (fun i wr => ∃ k : Nat, k ≤ l.length ∧ i = .int .i64 (k : Int) ∧ Hid (∀ i y, i < k → l[i]? = some y → (fun x => !hstOk x) y = false) ∧ Hid (Below w.heap.size w wr)) (fun i _ => l.length - (intOf i).toNat)
  case atStart => exact ⟨0, Nat.zero_le _, rfl, Lib.hid (fun i y hi => absurd hi (by omega)), Lib.hid (Below.refl _ _)⟩
  case round =>
    obtain ⟨k, hk, rfl, hun, hB⟩ := hrel
    by_cases hlt : k < l.length
    · obtain ⟨⟨z0, z1⟩, hx⟩ : ∃ x, l[k]? = some x := ⟨_, List.getElem?_eq_getElem hlt⟩
      have HK := H.out
      obtain ⟨pb, o, rfl, -, -⟩ := HK.at_ hx
      obtain ⟨y0, y1⟩ := hst_at (HK.on hB.out (Nat.le_refl _)) hx
      have HXX := Lib.hid hx
      have hki : ((k : Nat) : Int).toNat = k := by omega
      have hlt' : (k : Int) < ((l.length : Nat) : Int) := by omega
      have HC := Lib.hid (fun (r : Bool) (hr : (fun x => !hstOk x) ⟨z0, z1⟩ = r) => c_badHst ⟨z0, z1⟩ r hr wr)
      clear hx HK
      rcases hp : (fun x => !hstOk x) ⟨z0, z1⟩ with _ | _
      · have HP := Lib.hid hp
        clear hp
        go_wp2_with (go_at_call 46; refine (HC.out _ HP.out).mono ?_; rintro e w1 ⟨rfl, b1⟩; have HB1 := Lib.hid (below_join hB.out b1 hB.out.size); clear b1 y0 y1)
        go_roundw
        case rel => exact ⟨k + 1, by omega, by go_num, Lib.hid (fun i y hi hy => by
          rcases Nat.lt_or_ge i k with h | h
          · exact hun.out i y h hy
          · obtain rfl : i = k := by omega
            have := HXX.out
            rw [hy] at this
            injection this with this
            subst this
            exact HP.out), HB1⟩
        case measure => simp only [intOf]; omega
      · have HKY := Lib.hid (show (k : Int) = y by rw [← HY.out]; exact (fidx_at _ l k _ hun.out HXX.out hp).symm)
        have HP := Lib.hid hp
        clear hp
        go_wp2_with (go_at_call 46; refine (HC.out _ HP.out).mono ?_; rintro e w1 ⟨rfl, b1⟩; have HB1 := Lib.hid (below_join hB.out b1 hB.out.size); clear b1 y0 y1)
        go_ret
        exact ⟨(show Ending.returned (.int .i64 (k : Int)) = .returned (.int .i64 y) by rw [HKY.out]), HB1.out⟩
    · obtain rfl : k = l.length := by omega
      have HKY := Lib.hid (show (-1 : Int) = y by rw [← HY.out, fidx_none _ l (fun i y hy => hun.out i y (List.getElem?_eq_some_iff.1 hy).1 hy)])
      go_wp2_with (fail)
      go_ret
      exact ⟨(show Ending.returned (.int .i64 (-1)) = .returned (.int .i64 y) by rw [HKY.out]), hB.out⟩
set_option maxHeartbeats 4000000 in
theorem c_CF_HostState (A : Option Addr) (c : Nat) (l : List Hst) (w : World) (h : Rv 2 hstV w A c l) (r : Bool) (hr : l.any (fun x => !hstOk x) = r) :
    Calls Tryz.prog 52 #[.slice A l.length c, .func (.func 46) #[] #[]] w fun e w' => e = .returned (.bool r) ∧ Below w.heap.size w w' := by
  obtain ⟨y, hy⟩ : ∃ y, fidx (fun x => !hstOk x) l = y := ⟨_, rfl⟩
  have HC := Lib.hid (c_IF_HostState A c l w h y hy)
  have HR := Lib.hid (show decide (0 ≤ y) = r by rw [← hy, fidx_any, hr])
  clear hy hr h
  go_enter Tryz.func52, Tryz.ntmps52
  go_wp2_with (go_at_call 86; refine HC.out.mono ?_; rintro e w1 ⟨rfl, b1⟩; have HB1 := Lib.hid b1; clear b1)
  go_ret
  exact ⟨(show Ending.returned (.bool (decide (0 ≤ y))) = .returned (.bool r) by rw [HR.out]), HB1.out⟩
set_option maxHeartbeats 4000000 in
theorem c_IF_Replica (wb sb : Nat) (p : SP) (s : SiteD) (WA : Option Addr) (n wc : Nat) (A : Option Addr) (c : Nat) (l : List Rep) (w : World) (hw : WiBox w wb WA n wc) (hs : SiBox w sb p s) (h : Rv 2 repV w A c l) (y : Int) (hy : fidx (fun x => !repOk n s.hosts.length x) l = y) :
    Calls Tryz.prog 87 #[.slice A l.length c, .func (.func 48) #[] #[.pointer (some ⟨wb, 0, none⟩), .pointer (some ⟨sb, 0, none⟩)]] w fun e w' => e = .returned (.int .i64 y) ∧ Below w.heap.size w w' := by
  have H := Lib.hid h
  have HY := Lib.hid hy
  have hc1 := h.1
  have hc2 := h.2.1
  unfold maxLen at hc2
  have HW := Lib.hid hw
  have HS := Lib.hid hs
  clear h hy hw hs
  go_enter Tryz.func87, Tryz.ntmps87
  go_wp2_with (fail)
  go_loopw [8] (fun i wr => ∃ k : Nat, k ≤ l.length ∧ i = .int .i64 (k : Int) ∧ Hid (∀ i y, i < k → l[i]? = some y → (fun x => !repOk n s.hosts.length x) y = false) ∧ Hid (Below w.heap.size w wr)) (fun i _ => l.length - (intOf i).toNat)
  case atStart => exact ⟨0, Nat.zero_le _, rfl, Lib.hid (fun i y hi => absurd hi (by omega)), Lib.hid (Below.refl _ _)⟩
  case round =>
    obtain ⟨k, hk, rfl, hun, hB⟩ := hrel
    by_cases hlt : k < l.length
    · obtain ⟨⟨z0, z1⟩, hx⟩ : ∃ x, l[k]? = some x := ⟨_, List.getElem?_eq_getElem hlt⟩
      have HK := H.out
      obtain ⟨pb, o, rfl, -, -⟩ := HK.at_ hx
      obtain ⟨y0, y1⟩ := rep_at (HK.on hB.out (Nat.le_refl _)) hx
      have HXX := Lib.hid hx
      have hki : ((k : Nat) : Int).toNat = k := by omega
      have hlt' : (k : Int) < ((l.length : Nat) : Int) := by omega
      have HC := Lib.hid (fun (r : Bool) (hr : (fun x => !repOk n s.hosts.length x) ⟨z0, z1⟩ = r) => c_badRep wb sb p s WA n wc ⟨z0, z1⟩ r hr wr (HW.out.on hB.out (Nat.le_refl _)) (HS.out.on hB.out (Nat.le_refl _)))
      clear hx HK
      rcases hp : (fun x => !repOk n s.hosts.length x) ⟨z0, z1⟩ with _ | _
      · have HP := Lib.hid hp
        clear hp
        go_wp2_with (go_at_call 48; refine (HC.out _ HP.out).mono ?_; rintro e w1 ⟨rfl, b1⟩; have HB1 := Lib.hid (below_join hB.out b1 hB.out.size); clear b1 y0 y1)
        go_roundw
        case rel => exact ⟨k + 1, by omega, by go_num, Lib.hid (fun i y hi hy => by
          rcases Nat.lt_or_ge i k with h | h
          · exact hun.out i y h hy
          · obtain rfl : i = k := by omega
            have := HXX.out
            rw [hy] at this
            injection this with this
            subst this
            exact HP.out), HB1⟩
        case measure => simp only [intOf]; omega
      · have HKY := Lib.hid (show (k : Int) = y by rw [← HY.out]; exact (fidx_at _ l k _ hun.out HXX.out hp).symm)
        have HP := Lib.hid hp
        clear hp
        go_wp2_with (go_at_call 48; refine (HC.out _ HP.out).mono ?_; rintro e w1 ⟨rfl, b1⟩; have HB1 := Lib.hid (below_join hB.out b1 hB.out.size); clear b1 y0 y1)
        go_ret
        exact ⟨(show Ending.returned (.int .i64 (k : Int)) = .returned (.int .i64 y) by rw [HKY.out]), HB1.out⟩
    · obtain rfl : k = l.length := by omega
      have HKY := Lib.hid (show (-1 : Int) = y by rw [← HY.out, fidx_none _ l (fun i y hy => hun.out i y (List.getElem?_eq_some_iff.1 hy).1 hy)])
      go_wp2_with (fail)
      go_ret
      exact ⟨(show Ending.returned (.int .i64 (-1)) = .returned (.int .i64 y) by rw [HKY.out]), hB.out⟩
set_option maxHeartbeats 4000000 in
theorem c_CF_Replica (wb sb : Nat) (p : SP) (s : SiteD) (WA : Option Addr) (n wc : Nat) (A : Option Addr) (c : Nat) (l : List Rep) (w : World) (hw : WiBox w wb WA n wc) (hs : SiBox w sb p s) (h : Rv 2 repV w A c l) (r : Bool) (hr : l.any (fun x => !repOk n s.hosts.length x) = r) :
    Calls Tryz.prog 53 #[.slice A l.length c, .func (.func 48) #[] #[.pointer (some ⟨wb, 0, none⟩), .pointer (some ⟨sb, 0, none⟩)]] w fun e w' => e = .returned (.bool r) ∧ Below w.heap.size w w' := by
  obtain ⟨y, hy⟩ : ∃ y, fidx (fun x => !repOk n s.hosts.length x) l = y := ⟨_, rfl⟩
  have HC := Lib.hid (c_IF_Replica wb sb p s WA n wc A c l w hw hs h y hy)
  have HR := Lib.hid (show decide (0 ≤ y) = r by rw [← hy, fidx_any, hr])
  clear hy hr h hw hs
  go_enter Tryz.func53, Tryz.ntmps53
  go_wp2_with (go_at_call 87; refine HC.out.mono ?_; rintro e w1 ⟨rfl, b1⟩; have HB1 := Lib.hid b1; clear b1)
  go_ret
  exact ⟨(show Ending.returned (.bool (decide (0 ≤ y))) = .returned (.bool r) by rw [HR.out]), HB1.out⟩
end Go.Proofs.YtidpiokkfnhobaaGreat
