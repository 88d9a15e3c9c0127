/-
  DERIVED. Valid of the landed package (written by gen/site_BD.py).
-/
import Derived.Test.YtplncglgolhfaaaBCF
import Derived.Test.YtplncglgolhfaaaBCB
import Derived.Test.YtplncglgolhfaaaBCL
import Derived.Test.YtplncglgolhfaaaBCR
import Derived.Test.YtplncglgolhfaaaBCK
import Derived.Test.YtplncglgolhfaaaBCH
namespace Go.Proofs.Ytplncglgolhfaaa
open Go.RowKit
set_option maxRecDepth 100000
set_option linter.unusedVariables false
set_option linter.unusedSimpArgs false

set_option maxHeartbeats 8000000 in
theorem c_stValid (p : SP) (s : SiteD) (r : Bool) (hr : siteOk s = r) (w : World) (h : SiAt w p s) :
    Calls Try.prog 45 #[siV p s] w fun e w' => e = .returned (.bool r) ∧ Below w.heap.size w w' := by
  unfold siV
  obtain ⟨W, hW⟩ : ∃ W, W = w.alloc (.cells #[.slice p.a1 s.feeds.length p.c1, .slice p.a2 s.brks.length p.c2, .slice p.a3 s.loops.length p.c3, .slice p.a4 s.racks.length p.c4, .int .i64 s.sw, .slice p.a5 s.links.length p.c5, .slice p.a6 s.hosts.length p.c6] 29) := ⟨_, rfl⟩
  have B0 : Below w.heap.size w W := by subst hW; exact (Below.refl _ _).alloc (Nat.le_refl _) _
  have HB0 := Lib.hid B0
  have HX := Lib.hid (show SiBox W w.heap.size p s by subst hW; exact siBox_new _ _ _)
  have HA := Lib.hid (h.on B0 (Nat.le_refl _))
  have HR := Lib.hid (show (areB 1 8 [s.sw] && (goodB feedBad 1 4 s.feeds && (goodB (brkBad s.feeds.length) 1 8 s.brks && (goodB lpBad 1 4 s.loops && (goodB (rkBad s.brks.length s.loops.length s.sw) 1 8 s.racks && (goodB (lkBad s.sw) 0 16 s.links && (goodB (hsBad s.racks.length) 1 16 s.hosts))))))) = r from hr)
  have KW := Lib.hid (Below.refl W.heap.size W)
  clear B0 hr h
  have x0 := HX.out.c4
  rw [hW] at x0
  obtain ⟨V, hV⟩ : ∃ X, X = W.alloc (.cells #[.int .i64 s.sw] 3) := ⟨_, rfl⟩
  have bV : Below W.heap.size W V := by subst hV; exact (Below.refl _ _).alloc (Nat.le_refl _) _
  have RV := Lib.hid (show Rw 1 inF V (some ⟨w.heap.size + 1, 0, none⟩) 1 [s.sw] by subst hV; have h := rw_lit [s.sw] (by simp [maxLen]) W; rw [show W.heap.size = w.heap.size + 1 from by rw [hW, World.size_alloc]] at h; exact h)
  have HV := Lib.hid bV
  clear bV
  go_enter Try.func45, Try.ntmps45
  obtain ⟨r0, h0⟩ : ∃ b, areB 1 8 [s.sw] = b := ⟨_, rfl⟩
  have Q0 := Lib.hid h0
  clear h0
  go_wp2_with (fail)
  rw [← hW, ← hV]
  clear hW hV x0
  go_at_call 66
  refine (c_areFrom 1 8 (some ⟨w.heap.size + 1, 0, none⟩) 1 [s.sw] V RV.out r0 Q0.out).mono ?_
  rintro e w1 ⟨rfl, b1⟩
  have K1 := Lib.hid (below_join HV.out b1 HV.out.size)
  clear b1
  cases r0
  · obtain rfl : false = r := by have h := HR.out; rw [show (areB 1 8 [s.sw]) = false from Q0.out] at h; exact h
    go_wp2_with (fail)
    go_ret
    exact ⟨rfl, below_join HB0.out K1.out HB0.out.size⟩
  have x1 := (HX.out.on K1.out (Nat.le_refl _)).c0
  obtain ⟨r1, h1⟩ : ∃ b, goodB feedBad 1 4 s.feeds = b := ⟨_, rfl⟩
  have Q1 := Lib.hid h1
  clear h1
  go_wp2_with (fail)
  clear x1
  go_at_call 73
  refine (c_goodFeed 1 4 p.a1 p.c1 s.feeds w1 ((HA.out.on K1.out (Nat.le_refl _)).feeds) r1 Q1.out).mono ?_
  rintro e w2 ⟨rfl, b2⟩
  have K2 := Lib.hid (below_join K1.out b2 K1.out.size)
  clear b2
  cases r1
  · obtain rfl : false = r := by have h := HR.out; rw [show (areB 1 8 [s.sw]) = true from Q0.out, show (goodB feedBad 1 4 s.feeds) = false from Q1.out] at h; exact h
    go_wp2_with (fail)
    go_ret
    exact ⟨rfl, below_join HB0.out K2.out HB0.out.size⟩
  have x2 := (HX.out.on K2.out (Nat.le_refl _)).c1
  obtain ⟨r2, h2⟩ : ∃ b, goodB (brkBad s.feeds.length) 1 8 s.brks = b := ⟨_, rfl⟩
  have Q2 := Lib.hid h2
  clear h2
  go_wp2_with (fail)
  clear x2
  go_at_call 74
  refine (c_goodBreaker w.heap.size p s 1 8 p.a2 p.c2 s.brks w2 (HX.out.on K2.out (Nat.le_refl _)) ((HA.out.on K2.out (Nat.le_refl _)).brks) r2 Q2.out).mono ?_
  rintro e w3 ⟨rfl, b3⟩
  have K3 := Lib.hid (below_join K2.out b3 K2.out.size)
  clear b3
  cases r2
  · obtain rfl : false = r := by have h := HR.out; rw [show (areB 1 8 [s.sw]) = true from Q0.out, show (goodB feedBad 1 4 s.feeds) = true from Q1.out, show (goodB (brkBad s.feeds.length) 1 8 s.brks) = false from Q2.out] at h; exact h
    go_wp2_with (fail)
    go_ret
    exact ⟨rfl, below_join HB0.out K3.out HB0.out.size⟩
  have x3 := (HX.out.on K3.out (Nat.le_refl _)).c2
  obtain ⟨r3, h3⟩ : ∃ b, goodB lpBad 1 4 s.loops = b := ⟨_, rfl⟩
  have Q3 := Lib.hid h3
  clear h3
  go_wp2_with (fail)
  clear x3
  go_at_call 75
  refine (c_goodLoop 1 4 p.a3 p.c3 s.loops w3 ((HA.out.on K3.out (Nat.le_refl _)).loops) r3 Q3.out).mono ?_
  rintro e w4 ⟨rfl, b4⟩
  have K4 := Lib.hid (below_join K3.out b4 K3.out.size)
  clear b4
  cases r3
  · obtain rfl : false = r := by have h := HR.out; rw [show (areB 1 8 [s.sw]) = true from Q0.out, show (goodB feedBad 1 4 s.feeds) = true from Q1.out, show (goodB (brkBad s.feeds.length) 1 8 s.brks) = true from Q2.out, show (goodB lpBad 1 4 s.loops) = false from Q3.out] at h; exact h
    go_wp2_with (fail)
    go_ret
    exact ⟨rfl, below_join HB0.out K4.out HB0.out.size⟩
  have x4 := (HX.out.on K4.out (Nat.le_refl _)).c3
  obtain ⟨r4, h4⟩ : ∃ b, goodB (rkBad s.brks.length s.loops.length s.sw) 1 8 s.racks = b := ⟨_, rfl⟩
  have Q4 := Lib.hid h4
  clear h4
  go_wp2_with (fail)
  clear x4
  go_at_call 76
  refine (c_goodRack w.heap.size p s 1 8 p.a4 p.c4 s.racks w4 (HX.out.on K4.out (Nat.le_refl _)) ((HA.out.on K4.out (Nat.le_refl _)).racks) r4 Q4.out).mono ?_
  rintro e w5 ⟨rfl, b5⟩
  have K5 := Lib.hid (below_join K4.out b5 K4.out.size)
  clear b5
  cases r4
  · obtain rfl : false = r := by have h := HR.out; rw [show (areB 1 8 [s.sw]) = true from Q0.out, show (goodB feedBad 1 4 s.feeds) = true from Q1.out, show (goodB (brkBad s.feeds.length) 1 8 s.brks) = true from Q2.out, show (goodB lpBad 1 4 s.loops) = true from Q3.out, show (goodB (rkBad s.brks.length s.loops.length s.sw) 1 8 s.racks) = false from Q4.out] at h; exact h
    go_wp2_with (fail)
    go_ret
    exact ⟨rfl, below_join HB0.out K5.out HB0.out.size⟩
  have x5 := (HX.out.on K5.out (Nat.le_refl _)).c5
  obtain ⟨r5, h5⟩ : ∃ b, goodB (lkBad s.sw) 0 16 s.links = b := ⟨_, rfl⟩
  have Q5 := Lib.hid h5
  clear h5
  go_wp2_with (fail)
  clear x5
  go_at_call 77
  refine (c_goodLink w.heap.size p s 0 16 p.a5 p.c5 s.links w5 (HX.out.on K5.out (Nat.le_refl _)) ((HA.out.on K5.out (Nat.le_refl _)).links) r5 Q5.out).mono ?_
  rintro e w6 ⟨rfl, b6⟩
  have K6 := Lib.hid (below_join K5.out b6 K5.out.size)
  clear b6
  cases r5
  · obtain rfl : false = r := by have h := HR.out; rw [show (areB 1 8 [s.sw]) = true from Q0.out, show (goodB feedBad 1 4 s.feeds) = true from Q1.out, show (goodB (brkBad s.feeds.length) 1 8 s.brks) = true from Q2.out, show (goodB lpBad 1 4 s.loops) = true from Q3.out, show (goodB (rkBad s.brks.length s.loops.length s.sw) 1 8 s.racks) = true from Q4.out, show (goodB (lkBad s.sw) 0 16 s.links) = false from Q5.out] at h; exact h
    go_wp2_with (fail)
    go_ret
    exact ⟨rfl, below_join HB0.out K6.out HB0.out.size⟩
  have x6 := (HX.out.on K6.out (Nat.le_refl _)).c6
  obtain ⟨r6, h6⟩ : ∃ b, goodB (hsBad s.racks.length) 1 16 s.hosts = b := ⟨_, rfl⟩
  have Q6 := Lib.hid h6
  clear h6
  go_wp2_with (fail)
  clear x6
  go_at_call 78
  refine (c_goodHost w.heap.size p s 1 16 p.a6 p.c6 s.hosts w6 (HX.out.on K6.out (Nat.le_refl _)) ((HA.out.on K6.out (Nat.le_refl _)).hosts) r6 Q6.out).mono ?_
  rintro e w7 ⟨rfl, b7⟩
  have K7 := Lib.hid (below_join K6.out b7 K6.out.size)
  clear b7
  cases r6
  · obtain rfl : false = r := by have h := HR.out; rw [show (areB 1 8 [s.sw]) = true from Q0.out, show (goodB feedBad 1 4 s.feeds) = true from Q1.out, show (goodB (brkBad s.feeds.length) 1 8 s.brks) = true from Q2.out, show (goodB lpBad 1 4 s.loops) = true from Q3.out, show (goodB (rkBad s.brks.length s.loops.length s.sw) 1 8 s.racks) = true from Q4.out, show (goodB (lkBad s.sw) 0 16 s.links) = true from Q5.out, show (goodB (hsBad s.racks.length) 1 16 s.hosts) = false from Q6.out] at h; exact h
    go_wp2_with (fail)
    go_ret
    exact ⟨rfl, below_join HB0.out K7.out HB0.out.size⟩
  · obtain rfl : true = r := by have h := HR.out; rw [show (areB 1 8 [s.sw]) = true from Q0.out, show (goodB feedBad 1 4 s.feeds) = true from Q1.out, show (goodB (brkBad s.feeds.length) 1 8 s.brks) = true from Q2.out, show (goodB lpBad 1 4 s.loops) = true from Q3.out, show (goodB (rkBad s.brks.length s.loops.length s.sw) 1 8 s.racks) = true from Q4.out, show (goodB (lkBad s.sw) 0 16 s.links) = true from Q5.out, show (goodB (hsBad s.racks.length) 1 16 s.hosts) = true from Q6.out] at h; exact h
    go_wp2_with (fail)
    go_ret
    exact ⟨rfl, below_join HB0.out K7.out HB0.out.size⟩
end Go.Proofs.Ytplncglgolhfaaa
