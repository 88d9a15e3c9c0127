/-
  DERIVED. Several texts in one.
-/
import Derived.Test.YtbbadnlaelgmlaaGreatPXA1
import Derived.RegionTactic
import Derived.Deep.RegionHeld3
import Derived.Laws.EntriesVeiled
set_option linter.unusedVariables false
set_option linter.unusedSimpArgs false

namespace Go.Proofs.YtbbadnlaelgmlaaGreat
open Go.RowKit
set_option maxRecDepth 100000
set_option linter.unusedVariables false
set_option linter.unusedSimpArgs false

set_option maxHeartbeats 2000000 in
theorem c_within (n lo hi : Int) (r : Bool) (hr : inB n lo hi = r) (w : World) : Calls Tryz.prog 72 #[.int .i64 n, .int .i64 lo, .int .i64 hi] w fun e w' => e = .returned (.bool r) ∧ w' = w := by
  unfold inB at hr
  rcases h1 : decide (lo ≤ n) with _ | _
  · rw [h1] at hr
    obtain rfl : false = r := hr
    go_enter Tryz.func72, Tryz.ntmps72
    go_wp2
    go_ret
    exact ⟨rfl, rfl⟩
  · rw [h1] at hr
    obtain rfl : decide (n ≤ hi) = r := hr
    go_enter Tryz.func72, Tryz.ntmps72
    go_wp2
    go_ret
    exact ⟨rfl, rfl⟩
set_option maxHeartbeats 16000000 in
theorem c_power (p : SP) (s : SiteD) (r : Bool) (hr : pwOk s = r) (w : World) (h : SiAt w p s) :
    Calls Tryz.prog 70 #[siV p s] w fun e w' => e = .returned (.bool r) ∧ Below w.heap.size w w' := by
  unfold siV
  obtain ⟨W, hW⟩ : ∃ W, W = w.alloc (.cells #[.slice p.a1 s.feeds.length p.c1, .slice p.a2 s.brks.length p.c2, .slice p.a3 s.loops.length p.c3, .slice p.a4 s.racks.length p.c4, .int .i64 s.sw, .slice p.a5 s.links.length p.c5, .slice p.a6 s.hosts.length p.c6] 29) := ⟨_, rfl⟩
  have B0 : Below w.heap.size w W := by subst hW; exact (Below.refl _ _).alloc (Nat.le_refl _) _
  have HB0 := Lib.hid B0
  have HX := Lib.hid (show SiBox W w.heap.size p s by subst hW; exact siBox_new _ _ _)
  have HA := Lib.hid (h.on B0 (Nat.le_refl _))
  have HF := Lib.hid (fun (X : World) (hX : Below W.heap.size W X) => (let z := HX.out.on hX (Nat.le_refl _); ⟨z.c0, z.c1, z.c2, z.c3, z.c4, z.c5, z.c6⟩ : X.cell? ⟨w.heap.size, 0, none⟩ = some (.slice p.a1 s.feeds.length p.c1) ∧ X.cell? ⟨w.heap.size, 1, none⟩ = some (.slice p.a2 s.brks.length p.c2) ∧ X.cell? ⟨w.heap.size, 2, none⟩ = some (.slice p.a3 s.loops.length p.c3) ∧ X.cell? ⟨w.heap.size, 3, none⟩ = some (.slice p.a4 s.racks.length p.c4) ∧ X.cell? ⟨w.heap.size, 4, none⟩ = some (.int .i64 s.sw) ∧ X.cell? ⟨w.heap.size, 5, none⟩ = some (.slice p.a5 s.links.length p.c5) ∧ X.cell? ⟨w.heap.size, 6, none⟩ = some (.slice p.a6 s.hosts.length p.c6)))
  have m1 := h.feeds.1; have m2 := h.brks.1; have m3 := h.loops.1; have m4 := h.racks.1; have m5 := h.links.1; have m6 := h.hosts.1
  have n1 := h.feeds.2.1; have n2 := h.brks.2.1; have n3 := h.loops.2.1; have n4 := h.racks.2.1; have n5 := h.links.2.1; have n6 := h.hosts.2.1
  unfold maxLen at n1 n2 n3 n4 n5 n6
  have KW := Lib.hid (Below.refl W.heap.size W)
  have HR := Lib.hid hr
  have hlw : w.heap.size < W.heap.size := HX.out.lt
  clear B0 hr h
  obtain ⟨f0, f1, f2, f3, f4, f5, f6⟩ := HF.out W KW.out
  rw [hW] at f0 f1 f2 f3 f4 f5 f6
  go_enter Tryz.func70, Tryz.ntmps70
  obtain ⟨r0, h0⟩ : ∃ b, inB (s.feeds.length : Int) 1 4 = b := ⟨_, rfl⟩
  have P0 := Lib.hid h0
  clear h0
  go_wp2_with (fail)
  rw [← hW] at f0 f1 f2 f3 f4 f5 f6 ⊢
  clear hW
  go_at_call 72
  refine (c_within (s.feeds.length : Int) 1 4 r0 P0.out W).mono ?_
  rintro e w0 ⟨rfl, hw0⟩
  rw [hw0]
  clear hw0
  cases r0
  · obtain rfl : false = r := by have h := HR.out; unfold pwOk at h; rw [show inB (s.feeds.length : Int) 1 4 = false from P0.out] at h; exact h
    go_wp2_with (fail)
    go_ret
    exact ⟨rfl, below_join HB0.out KW.out HB0.out.size⟩
  obtain ⟨r1, h1⟩ : ∃ b, inB (s.brks.length : Int) 1 8 = b := ⟨_, rfl⟩
  have P1 := Lib.hid h1
  clear h1
  go_wp2_with (fail)
  go_at_call 72
  refine (c_within (s.brks.length : Int) 1 8 r1 P1.out W).mono ?_
  rintro e w1 ⟨rfl, hw1⟩
  rw [hw1]
  clear hw1
  cases r1
  · obtain rfl : false = r := by have h := HR.out; unfold pwOk at h; rw [show inB (s.feeds.length : Int) 1 4 = true from P0.out, show inB (s.brks.length : Int) 1 8 = false from P1.out] at h; exact h
    go_wp2_with (fail)
    go_ret
    exact ⟨rfl, below_join HB0.out KW.out HB0.out.size⟩
  have HQ := Lib.hid (show (s.feeds.all feedIn && s.brks.all (brkIn s.feeds.length)) = r by have h := HR.out; unfold pwOk at h; rw [show inB (s.feeds.length : Int) 1 4 = true from P0.out, show inB (s.brks.length : Int) 1 8 = true from P1.out] at h; exact h)
  go_wp2_with (fail)
  clear f0 f1 f2 f3 f4 f5 f6
  go_loopw [3] (fun i wr => ∃ k : Nat, k ≤ s.feeds.length ∧ i = .int .i64 (k : Int) ∧ Hid (Below W.heap.size W wr) ∧ Hid ((s.feeds.take k).all feedIn = true)) (fun i _ => s.feeds.length - (intOf i).toNat)
  case atStart => exact ⟨0, Nat.zero_le _, rfl, KW, Lib.hid rfl⟩
  case round =>
    obtain ⟨k, hk, rfl, hB, hall⟩ := hrel
    have hki : ((k : Nat) : Int).toNat = k := by omega
    obtain ⟨f0, f1, f2, f3, f4, f5, f6⟩ := HF.out wr hB.out
    by_cases hlt : k < s.feeds.length
    · obtain ⟨z0, hx⟩ : ∃ x, s.feeds[k]? = some x := ⟨_, List.getElem?_eq_getElem hlt⟩
      have HK := (HA.out.on hB.out (Nat.le_refl _)).feeds
      obtain ⟨pb, po, hpe, hpl, -⟩ := HK.at_ hx
      rw [hpe] at HK f0
      obtain y0 := rwFeed HK hx
      have HXX := Lib.hid hx
      have hlt' : (k : Int) < ((s.feeds.length : Nat) : Int) := by omega
      clear hx HK hpe
      have HG := Lib.hid (show feedIn z0 = (inB z0 0 1000000) from rfl)
      obtain ⟨r0, h0⟩ : ∃ b, inB z0 0 1000000 = b := ⟨_, rfl⟩
      have Q0 := Lib.hid h0
      clear h0
      go_wp2_with (fail)
      go_at_call 72
      refine (c_within z0 0 1000000 r0 Q0.out wr).mono ?_
      rintro e w0 ⟨rfl, hw0⟩
      rw [hw0]
      clear hw0
      cases r0
      · have hf := all_false HXX.out (show feedIn z0 = false by rw [HG.out, show (inB z0 0 1000000) = false from Q0.out] <;> rfl)
        obtain rfl : false = r := by have h := HQ.out; rw [hf] at h; exact h
        go_wp2_with (fail)
        go_ret
        exact ⟨rfl, below_join HB0.out hB.out HB0.out.size⟩
      have HAL := Lib.hid (all_take_succ HXX.out hall.out (show feedIn z0 = true by rw [HG.out, show (inB z0 0 1000000) = true from Q0.out] <;> rfl))
      go_wp2_with (fail)
      go_roundw
      case rel => exact ⟨k + 1, by omega, by go_num, hB, HAL⟩
      case measure => simp only [intOf]; omega
    · obtain rfl : k = s.feeds.length := by omega
      have A_feeds := Lib.hid (show s.feeds.all feedIn = true by have h := hall.out; rwa [List.take_length] at h)
      obtain ⟨U_feeds, hU⟩ : ∃ z, z = wr := ⟨_, rfl⟩
      subst hU
      have K_feeds := hB
      clear hall hB hlt hk hki
      go_wp2_with (fail)
      clear f0 f1 f2 f3 f4 f5 f6
      go_loopw [4] (fun i wr => ∃ k : Nat, k ≤ s.brks.length ∧ i = .int .i64 (k : Int) ∧ Hid (Below W.heap.size W wr) ∧ Hid ((s.brks.take k).all (brkIn s.feeds.length) = true)) (fun i _ => s.brks.length - (intOf i).toNat)
      case atStart => exact ⟨0, Nat.zero_le _, rfl, K_feeds, Lib.hid rfl⟩
      case round =>
        obtain ⟨k, hk, rfl, hB, hall⟩ := hrel
        have hki : ((k : Nat) : Int).toNat = k := by omega
        obtain ⟨f0, f1, f2, f3, f4, f5, f6⟩ := HF.out wr hB.out
        by_cases hlt : k < s.brks.length
        · obtain ⟨⟨z0, z1, z2, z3⟩, hx⟩ : ∃ x, s.brks[k]? = some x := ⟨_, List.getElem?_eq_getElem hlt⟩
          have HK := (HA.out.on hB.out (Nat.le_refl _)).brks
          obtain ⟨pb, po, hpe, hpl, -⟩ := HK.at_ hx
          rw [hpe] at HK f1
          obtain ⟨y0, y1, y2, y3⟩ := rwBreaker HK hx
          have HXX := Lib.hid hx
          have hlt' : (k : Int) < ((s.brks.length : Nat) : Int) := by omega
          clear hx HK hpe
          obtain ⟨V, hV⟩ : ∃ V, V = wr.alloc (.cells #[.int .i64 z0, .int .i64 z1, .int .i64 z2, .int .i64 z3] 83) := ⟨_, rfl⟩
          have hBV : Below W.heap.size W V := by subst hV; exact hB.out.alloc hB.out.size _
          have HBV := Lib.hid hBV
          have HVA := Lib.hid (show V.heap[wr.heap.size]? = some (.cells #[.int .i64 z0, .int .i64 z1, .int .i64 z2, .int .i64 z3] 83 (0, 0)) by subst hV; exact heap_alloc_new _ _)
          have hzw : W.heap.size ≤ wr.heap.size := hB.out.size
          clear hBV
          obtain ⟨g0, g1, g2, g3, g4, g5, g6⟩ := HF.out V HBV.out
          have v0 : V.cell? ⟨wr.heap.size, 0, none⟩ = some (.int .i64 z0) := cell_of HVA.out rfl
          have v1 : V.cell? ⟨wr.heap.size, 1, none⟩ = some (.int .i64 z1) := cell_of HVA.out rfl
          have v2 : V.cell? ⟨wr.heap.size, 2, none⟩ = some (.int .i64 z2) := cell_of HVA.out rfl
          have v3 : V.cell? ⟨wr.heap.size, 3, none⟩ = some (.int .i64 z3) := cell_of HVA.out rfl
          rw [hV] at g0 g1 g2 g3 g4 g5 g6 v0 v1 v2 v3
          have HG := Lib.hid (show (brkIn s.feeds.length) ⟨z0, z1, z2, z3⟩ = (inB z0 0 ((s.feeds.length : Int) - 1) && (inB z1 0 1000000 && (inB z2 0 1000000 && (inB z3 0 1000000)))) from rfl)
          obtain ⟨r0, h0⟩ : ∃ b, inB z0 0 ((s.feeds.length : Int) - 1) = b := ⟨_, rfl⟩
          have Q0 := Lib.hid h0
          clear h0
          go_wp2_with (fail)
          rw [← hV] at g0 g1 g2 g3 g4 g5 g6 v0 v1 v2 v3 ⊢
          clear hV y0 y1 y2 y3 f0 f1 f2 f3 f4 f5 f6
          go_at_call 72
          refine (c_within z0 0 ((s.feeds.length : Int) - 1) r0 Q0.out V).mono ?_
          rintro e w0 ⟨rfl, hw0⟩
          rw [hw0]
          clear hw0
          cases r0
          · have hf := all_false HXX.out (show (brkIn s.feeds.length) ⟨z0, z1, z2, z3⟩ = false by rw [HG.out, show (inB z0 0 ((s.feeds.length : Int) - 1)) = false from Q0.out] <;> rfl)
            obtain rfl : false = r := by have h := HQ.out; rw [A_feeds.out, hf] at h; exact h
            go_wp2_with (fail)
            go_ret
            exact ⟨rfl, below_join HB0.out HBV.out HB0.out.size⟩
          obtain ⟨r1, h1⟩ : ∃ b, inB z1 0 1000000 = b := ⟨_, rfl⟩
          have Q1 := Lib.hid h1
          clear h1
          go_wp2_with (fail)
          go_at_call 72
          refine (c_within z1 0 1000000 r1 Q1.out V).mono ?_
          rintro e w1 ⟨rfl, hw1⟩
          rw [hw1]
          clear hw1
          cases r1
          · have hf := all_false HXX.out (show (brkIn s.feeds.length) ⟨z0, z1, z2, z3⟩ = false by rw [HG.out, show (inB z0 0 ((s.feeds.length : Int) - 1)) = true from Q0.out, show (inB z1 0 1000000) = false from Q1.out] <;> rfl)
            obtain rfl : false = r := by have h := HQ.out; rw [A_feeds.out, hf] at h; exact h
            go_wp2_with (fail)
            go_ret
            exact ⟨rfl, below_join HB0.out HBV.out HB0.out.size⟩
          obtain ⟨r2, h2⟩ : ∃ b, inB z2 0 1000000 = b := ⟨_, rfl⟩
          have Q2 := Lib.hid h2
          clear h2
          go_wp2_with (fail)
          go_at_call 72
          refine (c_within z2 0 1000000 r2 Q2.out V).mono ?_
          rintro e w2 ⟨rfl, hw2⟩
          rw [hw2]
          clear hw2
          cases r2
          · have hf := all_false HXX.out (show (brkIn s.feeds.length) ⟨z0, z1, z2, z3⟩ = false by rw [HG.out, show (inB z0 0 ((s.feeds.length : Int) - 1)) = true from Q0.out, show (inB z1 0 1000000) = true from Q1.out, show (inB z2 0 1000000) = false from Q2.out] <;> rfl)
            obtain rfl : false = r := by have h := HQ.out; rw [A_feeds.out, hf] at h; exact h
            go_wp2_with (fail)
            go_ret
            exact ⟨rfl, below_join HB0.out HBV.out HB0.out.size⟩
          obtain ⟨r3, h3⟩ : ∃ b, inB z3 0 1000000 = b := ⟨_, rfl⟩
          have Q3 := Lib.hid h3
          clear h3
          go_wp2_with (fail)
          go_at_call 72
          refine (c_within z3 0 1000000 r3 Q3.out V).mono ?_
          rintro e w3 ⟨rfl, hw3⟩
          rw [hw3]
          clear hw3
          cases r3
          · have hf := all_false HXX.out (show (brkIn s.feeds.length) ⟨z0, z1, z2, z3⟩ = false by rw [HG.out, show (inB z0 0 ((s.feeds.length : Int) - 1)) = true from Q0.out, show (inB z1 0 1000000) = true from Q1.out, show (inB z2 0 1000000) = true from Q2.out, show (inB z3 0 1000000) = false from Q3.out] <;> rfl)
            obtain rfl : false = r := by have h := HQ.out; rw [A_feeds.out, hf] at h; exact h
            go_wp2_with (fail)
            go_ret
            exact ⟨rfl, below_join HB0.out HBV.out HB0.out.size⟩
          have HAL := Lib.hid (all_take_succ HXX.out hall.out (show (brkIn s.feeds.length) ⟨z0, z1, z2, z3⟩ = true by rw [HG.out, show (inB z0 0 ((s.feeds.length : Int) - 1)) = true from Q0.out, show (inB z1 0 1000000) = true from Q1.out, show (inB z2 0 1000000) = true from Q2.out, show (inB z3 0 1000000) = true from Q3.out] <;> rfl))
          go_wp2_with (fail)
          go_roundw
          case rel => exact ⟨k + 1, by omega, by go_num, HBV, HAL⟩
          case measure => simp only [intOf]; omega
        · obtain rfl : k = s.brks.length := by omega
          have A_brks := Lib.hid (show s.brks.all (brkIn s.feeds.length) = true by have h := hall.out; rwa [List.take_length] at h)
          obtain ⟨U_brks, hU⟩ : ∃ z, z = wr := ⟨_, rfl⟩
          subst hU
          have K_brks := hB
          clear hall hB hlt hk hki
          obtain rfl : true = r := by have h := HQ.out; rw [A_feeds.out, A_brks.out] at h; exact h
          go_wp2_with (fail)
          go_ret
          exact ⟨rfl, below_join HB0.out K_brks.out HB0.out.size⟩
set_option maxHeartbeats 16000000 in
theorem c_rooms (p : SP) (s : SiteD) (r : Bool) (hr : rmOk s = r) (w : World) (h : SiAt w p s) :
    Calls Tryz.prog 71 #[siV p s] w fun e w' => e = .returned (.bool r) ∧ Below w.heap.size w w' := by
  unfold siV
  obtain ⟨W, hW⟩ : ∃ W, W = w.alloc (.cells #[.slice p.a1 s.feeds.length p.c1, .slice p.a2 s.brks.length p.c2, .slice p.a3 s.loops.length p.c3, .slice p.a4 s.racks.length p.c4, .int .i64 s.sw, .slice p.a5 s.links.length p.c5, .slice p.a6 s.hosts.length p.c6] 29) := ⟨_, rfl⟩
  have B0 : Below w.heap.size w W := by subst hW; exact (Below.refl _ _).alloc (Nat.le_refl _) _
  have HB0 := Lib.hid B0
  have HX := Lib.hid (show SiBox W w.heap.size p s by subst hW; exact siBox_new _ _ _)
  have HA := Lib.hid (h.on B0 (Nat.le_refl _))
  have HF := Lib.hid (fun (X : World) (hX : Below W.heap.size W X) => (let z := HX.out.on hX (Nat.le_refl _); ⟨z.c0, z.c1, z.c2, z.c3, z.c4, z.c5, z.c6⟩ : X.cell? ⟨w.heap.size, 0, none⟩ = some (.slice p.a1 s.feeds.length p.c1) ∧ X.cell? ⟨w.heap.size, 1, none⟩ = some (.slice p.a2 s.brks.length p.c2) ∧ X.cell? ⟨w.heap.size, 2, none⟩ = some (.slice p.a3 s.loops.length p.c3) ∧ X.cell? ⟨w.heap.size, 3, none⟩ = some (.slice p.a4 s.racks.length p.c4) ∧ X.cell? ⟨w.heap.size, 4, none⟩ = some (.int .i64 s.sw) ∧ X.cell? ⟨w.heap.size, 5, none⟩ = some (.slice p.a5 s.links.length p.c5) ∧ X.cell? ⟨w.heap.size, 6, none⟩ = some (.slice p.a6 s.hosts.length p.c6)))
  have m1 := h.feeds.1; have m2 := h.brks.1; have m3 := h.loops.1; have m4 := h.racks.1; have m5 := h.links.1; have m6 := h.hosts.1
  have n1 := h.feeds.2.1; have n2 := h.brks.2.1; have n3 := h.loops.2.1; have n4 := h.racks.2.1; have n5 := h.links.2.1; have n6 := h.hosts.2.1
  unfold maxLen at n1 n2 n3 n4 n5 n6
  have KW := Lib.hid (Below.refl W.heap.size W)
  have HR := Lib.hid hr
  have hlw : w.heap.size < W.heap.size := HX.out.lt
  clear B0 hr h
  obtain ⟨f0, f1, f2, f3, f4, f5, f6⟩ := HF.out W KW.out
  rw [hW] at f0 f1 f2 f3 f4 f5 f6
  go_enter Tryz.func71, Tryz.ntmps71
  obtain ⟨r0, h0⟩ : ∃ b, inB (s.loops.length : Int) 1 4 = b := ⟨_, rfl⟩
  have P0 := Lib.hid h0
  clear h0
  go_wp2_with (fail)
  rw [← hW] at f0 f1 f2 f3 f4 f5 f6 ⊢
  clear hW
  go_at_call 72
  refine (c_within (s.loops.length : Int) 1 4 r0 P0.out W).mono ?_
  rintro e w0 ⟨rfl, hw0⟩
  rw [hw0]
  clear hw0
  cases r0
  · obtain rfl : false = r := by have h := HR.out; unfold rmOk at h; rw [show inB (s.loops.length : Int) 1 4 = false from P0.out] at h; exact h
    go_wp2_with (fail)
    go_ret
    exact ⟨rfl, below_join HB0.out KW.out HB0.out.size⟩
  obtain ⟨r1, h1⟩ : ∃ b, inB s.sw 1 8 = b := ⟨_, rfl⟩
  have P1 := Lib.hid h1
  clear h1
  go_wp2_with (fail)
  go_at_call 72
  refine (c_within s.sw 1 8 r1 P1.out W).mono ?_
  rintro e w1 ⟨rfl, hw1⟩
  rw [hw1]
  clear hw1
  cases r1
  · obtain rfl : false = r := by have h := HR.out; unfold rmOk at h; rw [show inB (s.loops.length : Int) 1 4 = true from P0.out, show inB s.sw 1 8 = false from P1.out] at h; exact h
    go_wp2_with (fail)
    go_ret
    exact ⟨rfl, below_join HB0.out KW.out HB0.out.size⟩
  obtain ⟨r2, h2⟩ : ∃ b, inB (s.racks.length : Int) 1 8 = b := ⟨_, rfl⟩
  have P2 := Lib.hid h2
  clear h2
  go_wp2_with (fail)
  go_at_call 72
  refine (c_within (s.racks.length : Int) 1 8 r2 P2.out W).mono ?_
  rintro e w2 ⟨rfl, hw2⟩
  rw [hw2]
  clear hw2
  cases r2
  · obtain rfl : false = r := by have h := HR.out; unfold rmOk at h; rw [show inB (s.loops.length : Int) 1 4 = true from P0.out, show inB s.sw 1 8 = true from P1.out, show inB (s.racks.length : Int) 1 8 = false from P2.out] at h; exact h
    go_wp2_with (fail)
    go_ret
    exact ⟨rfl, below_join HB0.out KW.out HB0.out.size⟩
  rcases h3 : decide (16 < (s.links.length : Int)) with _ | _
  rotate_left
  · obtain rfl : false = r := by have h := HR.out; unfold rmOk at h; rw [show inB (s.loops.length : Int) 1 4 = true from P0.out, show inB s.sw 1 8 = true from P1.out, show inB (s.racks.length : Int) 1 8 = true from P2.out, h3] at h; exact h
    go_wp2_with (fail)
    go_ret
    exact ⟨rfl, below_join HB0.out KW.out HB0.out.size⟩
  have P3 := Lib.hid h3
  have HQ := Lib.hid (show (s.loops.all lpIn && (s.racks.all (rkIn s.brks.length s.loops.length s.sw) && s.links.all (lkIn s.sw))) = r by have h := HR.out; unfold rmOk at h; rw [show inB (s.loops.length : Int) 1 4 = true from P0.out, show inB s.sw 1 8 = true from P1.out, show inB (s.racks.length : Int) 1 8 = true from P2.out, show decide (16 < (s.links.length : Int)) = false from P3.out] at h; exact h)
  have hsw := inB_iff.1 P1.out
  go_wp2_with (fail)
  clear f0 f1 f2 f3 f4 f5 f6
  go_loopw [3] (fun i wr => ∃ k : Nat, k ≤ s.loops.length ∧ i = .int .i64 (k : Int) ∧ Hid (Below W.heap.size W wr) ∧ Hid ((s.loops.take k).all lpIn = true)) (fun i _ => s.loops.length - (intOf i).toNat)
  case atStart => exact ⟨0, Nat.zero_le _, rfl, KW, Lib.hid rfl⟩
  case round =>
    obtain ⟨k, hk, rfl, hB, hall⟩ := hrel
    have hki : ((k : Nat) : Int).toNat = k := by omega
    obtain ⟨f0, f1, f2, f3, f4, f5, f6⟩ := HF.out wr hB.out
    by_cases hlt : k < s.loops.length
    · obtain ⟨⟨z0, z1⟩, hx⟩ : ∃ x, s.loops[k]? = some x := ⟨_, List.getElem?_eq_getElem hlt⟩
      have HK := (HA.out.on hB.out (Nat.le_refl _)).loops
      obtain ⟨pb, po, hpe, hpl, -⟩ := HK.at_ hx
      rw [hpe] at HK f2
      obtain ⟨y0, y1⟩ := rwLoop HK hx
      have HXX := Lib.hid hx
      have hlt' : (k : Int) < ((s.loops.length : Nat) : Int) := by omega
      clear hx HK hpe
      have HG := Lib.hid (show lpIn ⟨z0, z1⟩ = (inB z0 0 1000000 && (inB z1 0 100)) from rfl)
      obtain ⟨r0, h0⟩ : ∃ b, inB z0 0 1000000 = b := ⟨_, rfl⟩
      have Q0 := Lib.hid h0
      clear h0
      go_wp2_with (fail)
      go_at_call 72
      refine (c_within z0 0 1000000 r0 Q0.out wr).mono ?_
      rintro e w0 ⟨rfl, hw0⟩
      rw [hw0]
      clear hw0
      cases r0
      · have hf := all_false HXX.out (show lpIn ⟨z0, z1⟩ = false by rw [HG.out, show (inB z0 0 1000000) = false from Q0.out] <;> rfl)
        obtain rfl : false = r := by have h := HQ.out; rw [hf] at h; exact h
        go_wp2_with (fail)
        go_ret
        exact ⟨rfl, below_join HB0.out hB.out HB0.out.size⟩
      obtain ⟨r1, h1⟩ : ∃ b, inB z1 0 100 = b := ⟨_, rfl⟩
      have Q1 := Lib.hid h1
      clear h1
      go_wp2_with (fail)
      go_at_call 72
      refine (c_within z1 0 100 r1 Q1.out wr).mono ?_
      rintro e w1 ⟨rfl, hw1⟩
      rw [hw1]
      clear hw1
      cases r1
      · have hf := all_false HXX.out (show lpIn ⟨z0, z1⟩ = false by rw [HG.out, show (inB z0 0 1000000) = true from Q0.out, show (inB z1 0 100) = false from Q1.out] <;> rfl)
        obtain rfl : false = r := by have h := HQ.out; rw [hf] at h; exact h
        go_wp2_with (fail)
        go_ret
        exact ⟨rfl, below_join HB0.out hB.out HB0.out.size⟩
      have HAL := Lib.hid (all_take_succ HXX.out hall.out (show lpIn ⟨z0, z1⟩ = true by rw [HG.out, show (inB z0 0 1000000) = true from Q0.out, show (inB z1 0 100) = true from Q1.out] <;> rfl))
      go_wp2_with (fail)
      go_roundw
      case rel => exact ⟨k + 1, by omega, by go_num, hB, HAL⟩
      case measure => simp only [intOf]; omega
    · obtain rfl : k = s.loops.length := by omega
      have A_loops := Lib.hid (show s.loops.all lpIn = true by have h := hall.out; rwa [List.take_length] at h)
      obtain ⟨U_loops, hU⟩ : ∃ z, z = wr := ⟨_, rfl⟩
      subst hU
      have K_loops := hB
      clear hall hB hlt hk hki
      go_wp2_with (fail)
      clear f0 f1 f2 f3 f4 f5 f6
      go_loopw [4] (fun i wr => ∃ k : Nat, k ≤ s.racks.length ∧ i = .int .i64 (k : Int) ∧ Hid (Below W.heap.size W wr) ∧ Hid ((s.racks.take k).all (rkIn s.brks.length s.loops.length s.sw) = true)) (fun i _ => s.racks.length - (intOf i).toNat)
      case atStart => exact ⟨0, Nat.zero_le _, rfl, K_loops, Lib.hid rfl⟩
      case round =>
        obtain ⟨k, hk, rfl, hB, hall⟩ := hrel
        have hki : ((k : Nat) : Int).toNat = k := by omega
        obtain ⟨f0, f1, f2, f3, f4, f5, f6⟩ := HF.out wr hB.out
        by_cases hlt : k < s.racks.length
        · obtain ⟨⟨z0, z1, z2, z3⟩, hx⟩ : ∃ x, s.racks[k]? = some x := ⟨_, List.getElem?_eq_getElem hlt⟩
          have HK := (HA.out.on hB.out (Nat.le_refl _)).racks
          obtain ⟨pb, po, hpe, hpl, -⟩ := HK.at_ hx
          rw [hpe] at HK f3
          obtain ⟨y0, y1, y2, y3⟩ := rwRack HK hx
          have HXX := Lib.hid hx
          have hlt' : (k : Int) < ((s.racks.length : Nat) : Int) := by omega
          clear hx HK hpe
          obtain ⟨V, hV⟩ : ∃ V, V = wr.alloc (.cells #[.int .i64 z0, .int .i64 z1, .int .i64 z2, .int .i64 z3] 87) := ⟨_, rfl⟩
          have hBV : Below W.heap.size W V := by subst hV; exact hB.out.alloc hB.out.size _
          have HBV := Lib.hid hBV
          have HVA := Lib.hid (show V.heap[wr.heap.size]? = some (.cells #[.int .i64 z0, .int .i64 z1, .int .i64 z2, .int .i64 z3] 87 (0, 0)) by subst hV; exact heap_alloc_new _ _)
          have hzw : W.heap.size ≤ wr.heap.size := hB.out.size
          clear hBV
          obtain ⟨g0, g1, g2, g3, g4, g5, g6⟩ := HF.out V HBV.out
          have v0 : V.cell? ⟨wr.heap.size, 0, none⟩ = some (.int .i64 z0) := cell_of HVA.out rfl
          have v1 : V.cell? ⟨wr.heap.size, 1, none⟩ = some (.int .i64 z1) := cell_of HVA.out rfl
          have v2 : V.cell? ⟨wr.heap.size, 2, none⟩ = some (.int .i64 z2) := cell_of HVA.out rfl
          have v3 : V.cell? ⟨wr.heap.size, 3, none⟩ = some (.int .i64 z3) := cell_of HVA.out rfl
          rw [hV] at g0 g1 g2 g3 g4 g5 g6 v0 v1 v2 v3
          have HG := Lib.hid (show (rkIn s.brks.length s.loops.length s.sw) ⟨z0, z1, z2, z3⟩ = (inB z0 0 3 && (inB z1 0 ((s.brks.length : Int) - 1) && (inB z2 0 ((s.loops.length : Int) - 1) && (inB z3 0 (s.sw - 1))))) from rfl)
          obtain ⟨r0, h0⟩ : ∃ b, inB z0 0 3 = b := ⟨_, rfl⟩
          have Q0 := Lib.hid h0
          clear h0
          go_wp2_with (fail)
          rw [← hV] at g0 g1 g2 g3 g4 g5 g6 v0 v1 v2 v3 ⊢
          clear hV y0 y1 y2 y3 f0 f1 f2 f3 f4 f5 f6
          go_at_call 72
          refine (c_within z0 0 3 r0 Q0.out V).mono ?_
          rintro e w0 ⟨rfl, hw0⟩
          rw [hw0]
          clear hw0
          cases r0
          · have hf := all_false HXX.out (show (rkIn s.brks.length s.loops.length s.sw) ⟨z0, z1, z2, z3⟩ = false by rw [HG.out, show (inB z0 0 3) = false from Q0.out] <;> rfl)
            obtain rfl : false = r := by have h := HQ.out; rw [A_loops.out, hf] at h; exact h
            go_wp2_with (fail)
            go_ret
            exact ⟨rfl, below_join HB0.out HBV.out HB0.out.size⟩
          obtain ⟨r1, h1⟩ : ∃ b, inB z1 0 ((s.brks.length : Int) - 1) = b := ⟨_, rfl⟩
          have Q1 := Lib.hid h1
          clear h1
          go_wp2_with (fail)
          go_at_call 72
          refine (c_within z1 0 ((s.brks.length : Int) - 1) r1 Q1.out V).mono ?_
          rintro e w1 ⟨rfl, hw1⟩
          rw [hw1]
          clear hw1
          cases r1
          · have hf := all_false HXX.out (show (rkIn s.brks.length s.loops.length s.sw) ⟨z0, z1, z2, z3⟩ = false by rw [HG.out, show (inB z0 0 3) = true from Q0.out, show (inB z1 0 ((s.brks.length : Int) - 1)) = false from Q1.out] <;> rfl)
            obtain rfl : false = r := by have h := HQ.out; rw [A_loops.out, hf] at h; exact h
            go_wp2_with (fail)
            go_ret
            exact ⟨rfl, below_join HB0.out HBV.out HB0.out.size⟩
          obtain ⟨r2, h2⟩ : ∃ b, inB z2 0 ((s.loops.length : Int) - 1) = b := ⟨_, rfl⟩
          have Q2 := Lib.hid h2
          clear h2
          go_wp2_with (fail)
          go_at_call 72
          refine (c_within z2 0 ((s.loops.length : Int) - 1) r2 Q2.out V).mono ?_
          rintro e w2 ⟨rfl, hw2⟩
          rw [hw2]
          clear hw2
          cases r2
          · have hf := all_false HXX.out (show (rkIn s.brks.length s.loops.length s.sw) ⟨z0, z1, z2, z3⟩ = false by rw [HG.out, show (inB z0 0 3) = true from Q0.out, show (inB z1 0 ((s.brks.length : Int) - 1)) = true from Q1.out, show (inB z2 0 ((s.loops.length : Int) - 1)) = false from Q2.out] <;> rfl)
            obtain rfl : false = r := by have h := HQ.out; rw [A_loops.out, hf] at h; exact h
            go_wp2_with (fail)
            go_ret
            exact ⟨rfl, below_join HB0.out HBV.out HB0.out.size⟩
          obtain ⟨r3, h3⟩ : ∃ b, inB z3 0 (s.sw - 1) = b := ⟨_, rfl⟩
          have Q3 := Lib.hid h3
          clear h3
          go_wp2_with (fail)
          go_at_call 72
          refine (c_within z3 0 (s.sw - 1) r3 Q3.out V).mono ?_
          rintro e w3 ⟨rfl, hw3⟩
          rw [hw3]
          clear hw3
          cases r3
          · have hf := all_false HXX.out (show (rkIn s.brks.length s.loops.length s.sw) ⟨z0, z1, z2, z3⟩ = false by rw [HG.out, show (inB z0 0 3) = true from Q0.out, show (inB z1 0 ((s.brks.length : Int) - 1)) = true from Q1.out, show (inB z2 0 ((s.loops.length : Int) - 1)) = true from Q2.out, show (inB z3 0 (s.sw - 1)) = false from Q3.out] <;> rfl)
            obtain rfl : false = r := by have h := HQ.out; rw [A_loops.out, hf] at h; exact h
            go_wp2_with (fail)
            go_ret
            exact ⟨rfl, below_join HB0.out HBV.out HB0.out.size⟩
          have HAL := Lib.hid (all_take_succ HXX.out hall.out (show (rkIn s.brks.length s.loops.length s.sw) ⟨z0, z1, z2, z3⟩ = true by rw [HG.out, show (inB z0 0 3) = true from Q0.out, show (inB z1 0 ((s.brks.length : Int) - 1)) = true from Q1.out, show (inB z2 0 ((s.loops.length : Int) - 1)) = true from Q2.out, show (inB z3 0 (s.sw - 1)) = true from Q3.out] <;> rfl))
          go_wp2_with (fail)
          go_roundw
          case rel => exact ⟨k + 1, by omega, by go_num, HBV, HAL⟩
          case measure => simp only [intOf]; omega
        · obtain rfl : k = s.racks.length := by omega
          have A_racks := Lib.hid (show s.racks.all (rkIn s.brks.length s.loops.length s.sw) = true by have h := hall.out; rwa [List.take_length] at h)
          obtain ⟨U_racks, hU⟩ : ∃ z, z = wr := ⟨_, rfl⟩
          subst hU
          have K_racks := hB
          clear hall hB hlt hk hki
          go_wp2_with (fail)
          clear f0 f1 f2 f3 f4 f5 f6
          go_loopw [6] (fun i wr => ∃ k : Nat, k ≤ s.links.length ∧ i = .int .i64 (k : Int) ∧ Hid (Below W.heap.size W wr) ∧ Hid ((s.links.take k).all (lkIn s.sw) = true)) (fun i _ => s.links.length - (intOf i).toNat)
          case atStart => exact ⟨0, Nat.zero_le _, rfl, K_racks, Lib.hid rfl⟩
          case round =>
            obtain ⟨k, hk, rfl, hB, hall⟩ := hrel
            have hki : ((k : Nat) : Int).toNat = k := by omega
            obtain ⟨f0, f1, f2, f3, f4, f5, f6⟩ := HF.out wr hB.out
            by_cases hlt : k < s.links.length
            · obtain ⟨⟨z0, z1, z2⟩, hx⟩ : ∃ x, s.links[k]? = some x := ⟨_, List.getElem?_eq_getElem hlt⟩
              have HK := (HA.out.on hB.out (Nat.le_refl _)).links
              obtain ⟨pb, po, hpe, hpl, -⟩ := HK.at_ hx
              rw [hpe] at HK f5
              obtain ⟨y0, y1, y2⟩ := rwLink HK hx
              have HXX := Lib.hid hx
              have hlt' : (k : Int) < ((s.links.length : Nat) : Int) := by omega
              clear hx HK hpe
              obtain ⟨V, hV⟩ : ∃ V, V = wr.alloc (.cells #[.int .i64 z0, .int .i64 z1, .int .i64 z2] 119) := ⟨_, rfl⟩
              have hBV : Below W.heap.size W V := by subst hV; exact hB.out.alloc hB.out.size _
              have HBV := Lib.hid hBV
              have HVA := Lib.hid (show V.heap[wr.heap.size]? = some (.cells #[.int .i64 z0, .int .i64 z1, .int .i64 z2] 119 (0, 0)) by subst hV; exact heap_alloc_new _ _)
              have hzw : W.heap.size ≤ wr.heap.size := hB.out.size
              clear hBV
              obtain ⟨g0, g1, g2, g3, g4, g5, g6⟩ := HF.out V HBV.out
              have v0 : V.cell? ⟨wr.heap.size, 0, none⟩ = some (.int .i64 z0) := cell_of HVA.out rfl
              have v1 : V.cell? ⟨wr.heap.size, 1, none⟩ = some (.int .i64 z1) := cell_of HVA.out rfl
              have v2 : V.cell? ⟨wr.heap.size, 2, none⟩ = some (.int .i64 z2) := cell_of HVA.out rfl
              rw [hV] at g0 g1 g2 g3 g4 g5 g6 v0 v1 v2
              have HG := Lib.hid (show (lkIn s.sw) ⟨z0, z1, z2⟩ = (inB z0 0 (s.sw - 1) && (inB z1 0 (s.sw - 1) && (!(z0 == z1) && (inB z2 1 1000000)))) from rfl)
              obtain ⟨r0, h0⟩ : ∃ b, inB z0 0 (s.sw - 1) = b := ⟨_, rfl⟩
              have Q0 := Lib.hid h0
              clear h0
              go_wp2_with (fail)
              rw [← hV] at g0 g1 g2 g3 g4 g5 g6 v0 v1 v2 ⊢
              clear hV y0 y1 y2 f0 f1 f2 f3 f4 f5 f6
              go_at_call 72
              refine (c_within z0 0 (s.sw - 1) r0 Q0.out V).mono ?_
              rintro e w0 ⟨rfl, hw0⟩
              rw [hw0]
              clear hw0
              cases r0
              · have hf := all_false HXX.out (show (lkIn s.sw) ⟨z0, z1, z2⟩ = false by rw [HG.out, show (inB z0 0 (s.sw - 1)) = false from Q0.out] <;> rfl)
                obtain rfl : false = r := by have h := HQ.out; rw [A_loops.out, A_racks.out, hf] at h; exact h
                go_wp2_with (fail)
                go_ret
                exact ⟨rfl, below_join HB0.out HBV.out HB0.out.size⟩
              obtain ⟨r1, h1⟩ : ∃ b, inB z1 0 (s.sw - 1) = b := ⟨_, rfl⟩
              have Q1 := Lib.hid h1
              clear h1
              go_wp2_with (fail)
              go_at_call 72
              refine (c_within z1 0 (s.sw - 1) r1 Q1.out V).mono ?_
              rintro e w1 ⟨rfl, hw1⟩
              rw [hw1]
              clear hw1
              cases r1
              · have hf := all_false HXX.out (show (lkIn s.sw) ⟨z0, z1, z2⟩ = false by rw [HG.out, show (inB z0 0 (s.sw - 1)) = true from Q0.out, show (inB z1 0 (s.sw - 1)) = false from Q1.out] <;> rfl)
                obtain rfl : false = r := by have h := HQ.out; rw [A_loops.out, A_racks.out, hf] at h; exact h
                go_wp2_with (fail)
                go_ret
                exact ⟨rfl, below_join HB0.out HBV.out HB0.out.size⟩
              rcases q2 : (z0 == z1) with _ | _
              rotate_left
              · have hf := all_false HXX.out (show (lkIn s.sw) ⟨z0, z1, z2⟩ = false by rw [HG.out, show (inB z0 0 (s.sw - 1)) = true from Q0.out, show (inB z1 0 (s.sw - 1)) = true from Q1.out, q2] <;> rfl)
                obtain rfl : false = r := by have h := HQ.out; rw [A_loops.out, A_racks.out, hf] at h; exact h
                go_wp2_with (fail)
                go_ret
                exact ⟨rfl, below_join HB0.out HBV.out HB0.out.size⟩
              obtain ⟨r3, h3⟩ : ∃ b, inB z2 1 1000000 = b := ⟨_, rfl⟩
              have Q3 := Lib.hid h3
              clear h3
              go_wp2_with (fail)
              go_at_call 72
              refine (c_within z2 1 1000000 r3 Q3.out V).mono ?_
              rintro e w3 ⟨rfl, hw3⟩
              rw [hw3]
              clear hw3
              cases r3
              · have hf := all_false HXX.out (show (lkIn s.sw) ⟨z0, z1, z2⟩ = false by rw [HG.out, show (inB z0 0 (s.sw - 1)) = true from Q0.out, show (inB z1 0 (s.sw - 1)) = true from Q1.out, q2, show (inB z2 1 1000000) = false from Q3.out] <;> rfl)
                obtain rfl : false = r := by have h := HQ.out; rw [A_loops.out, A_racks.out, hf] at h; exact h
                go_wp2_with (fail)
                go_ret
                exact ⟨rfl, below_join HB0.out HBV.out HB0.out.size⟩
              have HAL := Lib.hid (all_take_succ HXX.out hall.out (show (lkIn s.sw) ⟨z0, z1, z2⟩ = true by rw [HG.out, show (inB z0 0 (s.sw - 1)) = true from Q0.out, show (inB z1 0 (s.sw - 1)) = true from Q1.out, q2, show (inB z2 1 1000000) = true from Q3.out] <;> rfl))
              go_wp2_with (fail)
              go_roundw
              case rel => exact ⟨k + 1, by omega, by go_num, HBV, HAL⟩
              case measure => simp only [intOf]; omega
            · obtain rfl : k = s.links.length := by omega
              have A_links := Lib.hid (show s.links.all (lkIn s.sw) = true by have h := hall.out; rwa [List.take_length] at h)
              obtain ⟨U_links, hU⟩ : ∃ z, z = wr := ⟨_, rfl⟩
              subst hU
              have K_links := hB
              clear hall hB hlt hk hki
              obtain rfl : true = r := by have h := HQ.out; rw [A_loops.out, A_racks.out, A_links.out] at h; exact h
              go_wp2_with (fail)
              go_ret
              exact ⟨rfl, below_join HB0.out K_links.out HB0.out.size⟩
set_option maxHeartbeats 16000000 in
theorem c_srValid (p : SP) (s : SiteD) (r : Bool) (hr : siteOk s = r) (w : World) (h : SiAt w p s) :
    Calls Tryz.prog 34 #[siV p s] w fun e w' => e = .returned (.bool r) ∧ Below w.heap.size w w' := by
  unfold siV
  obtain ⟨W, hW⟩ : ∃ W, W = w.alloc (.cells #[.slice p.a1 s.feeds.length p.c1, .slice p.a2 s.brks.length p.c2, .slice p.a3 s.loops.length p.c3, .slice p.a4 s.racks.length p.c4, .int .i64 s.sw, .slice p.a5 s.links.length p.c5, .slice p.a6 s.hosts.length p.c6] 29) := ⟨_, rfl⟩
  have B0 : Below w.heap.size w W := by subst hW; exact (Below.refl _ _).alloc (Nat.le_refl _) _
  have HB0 := Lib.hid B0
  have HX := Lib.hid (show SiBox W w.heap.size p s by subst hW; exact siBox_new _ _ _)
  have HA := Lib.hid (h.on B0 (Nat.le_refl _))
  have HF := Lib.hid (fun (X : World) (hX : Below W.heap.size W X) => (let z := HX.out.on hX (Nat.le_refl _); ⟨z.c0, z.c1, z.c2, z.c3, z.c4, z.c5, z.c6⟩ : X.cell? ⟨w.heap.size, 0, none⟩ = some (.slice p.a1 s.feeds.length p.c1) ∧ X.cell? ⟨w.heap.size, 1, none⟩ = some (.slice p.a2 s.brks.length p.c2) ∧ X.cell? ⟨w.heap.size, 2, none⟩ = some (.slice p.a3 s.loops.length p.c3) ∧ X.cell? ⟨w.heap.size, 3, none⟩ = some (.slice p.a4 s.racks.length p.c4) ∧ X.cell? ⟨w.heap.size, 4, none⟩ = some (.int .i64 s.sw) ∧ X.cell? ⟨w.heap.size, 5, none⟩ = some (.slice p.a5 s.links.length p.c5) ∧ X.cell? ⟨w.heap.size, 6, none⟩ = some (.slice p.a6 s.hosts.length p.c6)))
  have m1 := h.feeds.1; have m2 := h.brks.1; have m3 := h.loops.1; have m4 := h.racks.1; have m5 := h.links.1; have m6 := h.hosts.1
  have n1 := h.feeds.2.1; have n2 := h.brks.2.1; have n3 := h.loops.2.1; have n4 := h.racks.2.1; have n5 := h.links.2.1; have n6 := h.hosts.2.1
  unfold maxLen at n1 n2 n3 n4 n5 n6
  have KW := Lib.hid (Below.refl W.heap.size W)
  have HR := Lib.hid hr
  have hlw : w.heap.size < W.heap.size := HX.out.lt
  have HPW := Lib.hid (fun (q : Bool) (hq : pwOk s = q) => c_power p s q hq W HA.out)
  have HRM := Lib.hid (fun (q : Bool) (hq : rmOk s = q) (X : World) (hX : Below W.heap.size W X) => c_rooms p s q hq X (HA.out.on hX (Nat.le_refl _)))
  have HE := Lib.hid (ref_ok s)
  unfold siV at HPW HRM
  clear B0 hr h
  obtain ⟨f0, f1, f2, f3, f4, f5, f6⟩ := HF.out W KW.out
  rw [hW] at f0 f1 f2 f3 f4 f5 f6
  go_enter Tryz.func34, Tryz.ntmps34
  obtain ⟨r0, h0⟩ : ∃ b, pwOk s = b := ⟨_, rfl⟩
  have P0 := Lib.hid h0
  clear h0
  go_wp2_with (fail)
  rw [← hW]
  clear hW f0 f1 f2 f3 f4 f5 f6
  go_at_call 70
  refine (HPW.out r0 P0.out).mono ?_
  rintro e w0 ⟨rfl, b0⟩
  have K0 := Lib.hid b0
  clear b0
  cases r0
  · obtain rfl : false = r := by rw [← HR.out, ← HE.out, P0.out]; rfl
    go_wp2_with (fail)
    go_ret
    exact ⟨rfl, below_join HB0.out K0.out HB0.out.size⟩
  obtain ⟨r1, h1⟩ : ∃ b, rmOk s = b := ⟨_, rfl⟩
  have P1 := Lib.hid h1
  clear h1
  obtain ⟨f0, f1, f2, f3, f4, f5, f6⟩ := HF.out w0 K0.out
  go_wp2_with (fail)
  clear f0 f1 f2 f3 f4 f5 f6
  go_at_call 71
  refine (HRM.out r1 P1.out w0 K0.out).mono ?_
  rintro e w1 ⟨rfl, b1⟩
  have K1 := Lib.hid (below_join K0.out b1 K0.out.size)
  clear b1
  cases r1
  · obtain rfl : false = r := by rw [← HR.out, ← HE.out, P0.out, P1.out]; rfl
    go_wp2_with (fail)
    go_ret
    exact ⟨rfl, below_join HB0.out K1.out HB0.out.size⟩
  obtain ⟨r2, h2⟩ : ∃ b, inB (s.hosts.length : Int) 1 16 = b := ⟨_, rfl⟩
  have P2 := Lib.hid h2
  clear h2
  obtain ⟨f0, f1, f2, f3, f4, f5, f6⟩ := HF.out w1 K1.out
  go_wp2_with (fail)
  go_at_call 72
  refine (c_within (s.hosts.length : Int) 1 16 r2 P2.out w1).mono ?_
  rintro e w2 ⟨rfl, hw2⟩
  rw [hw2]
  clear hw2
  cases r2
  · obtain rfl : false = r := by rw [← HR.out, ← HE.out, P0.out, P1.out]; unfold hoOk; rw [P2.out]; rfl
    go_wp2_with (fail)
    go_ret
    exact ⟨rfl, below_join HB0.out K1.out HB0.out.size⟩
  have HQ := Lib.hid (show s.hosts.all (hsIn s.racks.length) = r by rw [← HR.out, ← HE.out, P0.out, P1.out]; unfold hoOk; rw [P2.out]; rfl)
  go_wp2_with (fail)
  clear f0 f1 f2 f3 f4 f5 f6
  go_loopw [3] (fun i wr => ∃ k : Nat, k ≤ s.hosts.length ∧ i = .int .i64 (k : Int) ∧ Hid (Below W.heap.size W wr) ∧ Hid ((s.hosts.take k).all (hsIn s.racks.length) = true)) (fun i _ => s.hosts.length - (intOf i).toNat)
  case atStart => exact ⟨0, Nat.zero_le _, rfl, K1, Lib.hid rfl⟩
  case round =>
    obtain ⟨k, hk, rfl, hB, hall⟩ := hrel
    have hki : ((k : Nat) : Int).toNat = k := by omega
    obtain ⟨f0, f1, f2, f3, f4, f5, f6⟩ := HF.out wr hB.out
    by_cases hlt : k < s.hosts.length
    · obtain ⟨⟨z0, z1, z2, z3⟩, hx⟩ : ∃ x, s.hosts[k]? = some x := ⟨_, List.getElem?_eq_getElem hlt⟩
      have HK := (HA.out.on hB.out (Nat.le_refl _)).hosts
      obtain ⟨pb, po, hpe, hpl, -⟩ := HK.at_ hx
      rw [hpe] at HK f6
      obtain ⟨y0, y1, y2, y3⟩ := rwHost HK hx
      have HXX := Lib.hid hx
      have hlt' : (k : Int) < ((s.hosts.length : Nat) : Int) := by omega
      clear hx HK hpe
      obtain ⟨V, hV⟩ : ∃ V, V = wr.alloc (.cells #[.int .i64 z0, .int .i64 z1, .int .i64 z2, .int .i64 z3] 89) := ⟨_, rfl⟩
      have hBV : Below W.heap.size W V := by subst hV; exact hB.out.alloc hB.out.size _
      have HBV := Lib.hid hBV
      have HVA := Lib.hid (show V.heap[wr.heap.size]? = some (.cells #[.int .i64 z0, .int .i64 z1, .int .i64 z2, .int .i64 z3] 89 (0, 0)) by subst hV; exact heap_alloc_new _ _)
      have hzw : W.heap.size ≤ wr.heap.size := hB.out.size
      clear hBV
      obtain ⟨g0, g1, g2, g3, g4, g5, g6⟩ := HF.out V HBV.out
      have v0 : V.cell? ⟨wr.heap.size, 0, none⟩ = some (.int .i64 z0) := cell_of HVA.out rfl
      have v1 : V.cell? ⟨wr.heap.size, 1, none⟩ = some (.int .i64 z1) := cell_of HVA.out rfl
      have v2 : V.cell? ⟨wr.heap.size, 2, none⟩ = some (.int .i64 z2) := cell_of HVA.out rfl
      have v3 : V.cell? ⟨wr.heap.size, 3, none⟩ = some (.int .i64 z3) := cell_of HVA.out rfl
      rw [hV] at g0 g1 g2 g3 g4 g5 g6 v0 v1 v2 v3
      have HG := Lib.hid (show (hsIn s.racks.length) ⟨z0, z1, z2, z3⟩ = (inB z0 0 ((s.racks.length : Int) - 1) && (inB z1 1 1000 && (inB z2 0 10000 && (inB z3 0 1000)))) from rfl)
      obtain ⟨r0, h0⟩ : ∃ b, inB z0 0 ((s.racks.length : Int) - 1) = b := ⟨_, rfl⟩
      have Q0 := Lib.hid h0
      clear h0
      go_wp2_with (fail)
      rw [← hV] at g0 g1 g2 g3 g4 g5 g6 v0 v1 v2 v3 ⊢
      clear hV y0 y1 y2 y3 f0 f1 f2 f3 f4 f5 f6
      go_at_call 72
      refine (c_within z0 0 ((s.racks.length : Int) - 1) r0 Q0.out V).mono ?_
      rintro e w0 ⟨rfl, hw0⟩
      rw [hw0]
      clear hw0
      cases r0
      · have hf := all_false HXX.out (show (hsIn s.racks.length) ⟨z0, z1, z2, z3⟩ = false by rw [HG.out, show (inB z0 0 ((s.racks.length : Int) - 1)) = false from Q0.out] <;> rfl)
        obtain rfl : false = r := by rw [← HQ.out, hf]
        go_wp2_with (fail)
        go_ret
        exact ⟨rfl, below_join HB0.out HBV.out HB0.out.size⟩
      obtain ⟨r1, h1⟩ : ∃ b, inB z1 1 1000 = b := ⟨_, rfl⟩
      have Q1 := Lib.hid h1
      clear h1
      go_wp2_with (fail)
      go_at_call 72
      refine (c_within z1 1 1000 r1 Q1.out V).mono ?_
      rintro e w1 ⟨rfl, hw1⟩
      rw [hw1]
      clear hw1
      cases r1
      · have hf := all_false HXX.out (show (hsIn s.racks.length) ⟨z0, z1, z2, z3⟩ = false by rw [HG.out, show (inB z0 0 ((s.racks.length : Int) - 1)) = true from Q0.out, show (inB z1 1 1000) = false from Q1.out] <;> rfl)
        obtain rfl : false = r := by rw [← HQ.out, hf]
        go_wp2_with (fail)
        go_ret
        exact ⟨rfl, below_join HB0.out HBV.out HB0.out.size⟩
      obtain ⟨r2, h2⟩ : ∃ b, inB z2 0 10000 = b := ⟨_, rfl⟩
      have Q2 := Lib.hid h2
      clear h2
      go_wp2_with (fail)
      go_at_call 72
      refine (c_within z2 0 10000 r2 Q2.out V).mono ?_
      rintro e w2 ⟨rfl, hw2⟩
      rw [hw2]
      clear hw2
      cases r2
      · have hf := all_false HXX.out (show (hsIn s.racks.length) ⟨z0, z1, z2, z3⟩ = false by rw [HG.out, show (inB z0 0 ((s.racks.length : Int) - 1)) = true from Q0.out, show (inB z1 1 1000) = true from Q1.out, show (inB z2 0 10000) = false from Q2.out] <;> rfl)
        obtain rfl : false = r := by rw [← HQ.out, hf]
        go_wp2_with (fail)
        go_ret
        exact ⟨rfl, below_join HB0.out HBV.out HB0.out.size⟩
      obtain ⟨r3, h3⟩ : ∃ b, inB z3 0 1000 = b := ⟨_, rfl⟩
      have Q3 := Lib.hid h3
      clear h3
      go_wp2_with (fail)
      go_at_call 72
      refine (c_within z3 0 1000 r3 Q3.out V).mono ?_
      rintro e w3 ⟨rfl, hw3⟩
      rw [hw3]
      clear hw3
      cases r3
      · have hf := all_false HXX.out (show (hsIn s.racks.length) ⟨z0, z1, z2, z3⟩ = false by rw [HG.out, show (inB z0 0 ((s.racks.length : Int) - 1)) = true from Q0.out, show (inB z1 1 1000) = true from Q1.out, show (inB z2 0 10000) = true from Q2.out, show (inB z3 0 1000) = false from Q3.out] <;> rfl)
        obtain rfl : false = r := by rw [← HQ.out, hf]
        go_wp2_with (fail)
        go_ret
        exact ⟨rfl, below_join HB0.out HBV.out HB0.out.size⟩
      have HAL := Lib.hid (all_take_succ HXX.out hall.out (show (hsIn s.racks.length) ⟨z0, z1, z2, z3⟩ = true by rw [HG.out, show (inB z0 0 ((s.racks.length : Int) - 1)) = true from Q0.out, show (inB z1 1 1000) = true from Q1.out, show (inB z2 0 10000) = true from Q2.out, show (inB z3 0 1000) = true from Q3.out] <;> rfl))
      go_wp2_with (fail)
      go_roundw
      case rel => exact ⟨k + 1, by omega, by go_num, HBV, HAL⟩
      case measure => simp only [intOf]; omega
    · obtain rfl : k = s.hosts.length := by omega
      have A_hosts := Lib.hid (show s.hosts.all (hsIn s.racks.length) = true by have h := hall.out; rwa [List.take_length] at h)
      obtain ⟨U_hosts, hU⟩ : ∃ z, z = wr := ⟨_, rfl⟩
      subst hU
      have K_hosts := hB
      clear hall hB hlt hk hki
      obtain rfl : true = r := by rw [← HQ.out, A_hosts.out]
      go_wp2_with (fail)
      go_ret
      exact ⟨rfl, below_join HB0.out K_hosts.out HB0.out.size⟩
end Go.Proofs.YtbbadnlaelgmlaaGreat

namespace Go.Proofs.YtbbadnlaelgmlaaGreat
open Go.RowKit
set_option maxRecDepth 100000
set_option linter.unusedVariables false
set_option linter.unusedSimpArgs false

theorem set_field {W : World} {b o : Nat} {cs : Array Value} {T : TypeId} (h : W.heap[b]? = some (.cells cs T (0, 0))) (v : Value) : (W.setCell ⟨b, o, none⟩ v).heap[b]? = some (.cells (cs.setIfInBounds o v) T (0, 0)) := by
  simp only [World.setCell, Array.getElem?_modify, if_pos trivial, h]
  simp
theorem frz {X : World} {b : Nat} {cs : Array Value} {T : TypeId} (h : X.heap[b]? = some (.cells cs T (0, 0))) (o : Nat) : X.frozen? ⟨b, o, none⟩ = false := by
  simp [World.frozen?, h]
theorem row_store4 {W : World} {b : Nat} {y0 y1 y2 y3 : Value} {T : TypeId} (h : W.heap[b]? = some (.cells #[y0, y1, y2, y3] T (0, 0))) (x0 x1 x2 x3 : Value) :
    ((((W.setCell ⟨b, 0, none⟩ x0).setCell ⟨b, 1, none⟩ x1).setCell ⟨b, 2, none⟩ x2).setCell ⟨b, 3, none⟩ x3).heap[b]? = some (.cells #[x0, x1, x2, x3] T (0, 0)) :=
  set_field (set_field (set_field (set_field h x0) x1) x2) x3
theorem ret4 {fn : Func} {a : Act} {W : World} {R : Ending → World → Prop} {b i : Nat} {x0 x1 x2 x3 : Value} (hfn : fn.results = #[.cell i 87]) (hp : a.tmps[i]?.getD undef = .pointer (some ⟨b, 0, none⟩)) (hd : a.defers = [])
    (h : W.heap[b]? = some (.cells #[x0, x1, x2, x3] 87 (0, 0))) (hR : R (.returned (.agg #[x0, x1, x2, x3])) W) : bodyPost Tryz.prog fn R .ret a W := by
  have c0 : W.cell? ⟨b, 0, none⟩ = some x0 := cell_of h rfl
  have c1 : W.cell? ⟨b, 1, none⟩ = some x1 := cell_of h rfl
  have c2 : W.cell? ⟨b, 2, none⟩ = some x2 := cell_of h rfl
  have c3 : W.cell? ⟨b, 3, none⟩ = some x3 := cell_of h rfl
  exact bodyPost_ret (v := .agg #[x0, x1, x2, x3]) (by simp [results, hfn, hp, go_sem, c0, c1, c2, c3]) hd hR
def rkV (x : Rk) : Value := .agg #[.int .i64 x.row, .int .i64 x.brk, .int .i64 x.loop, .int .i64 x.sw]
/-- A host's row in memory. -/
theorem host_row {w : World} {p : SP} {s : SiteD} (h : SiAt w p s) {k : Nat} (hk : k < s.hosts.length) : ∃ b o, p.a6 = some ⟨b, o, none⟩ ∧ w.cell? ⟨b, o + k * 4, none⟩ = some (.int .i64 (rackAt s k)) := by
  have e : s.hosts[k]? = some s.hosts[k] := List.getElem?_eq_getElem hk
  obtain ⟨b, o, e1, -, h0⟩ := h.hosts.at_ e
  refine ⟨b, o, e1, ?_⟩
  have := h0 0 (by omega)
  unfold rackAt
  rw [e]
  simpa [hsF] using this
theorem rack_row {w : World} {p : SP} {s : SiteD} (h : SiAt w p s) {m : Nat} {x : Rk} (hm : s.racks[m]? = some x) : ∃ b o, p.a4 = some ⟨b, o, none⟩ ∧ w.cell? ⟨b, o + m * 4, none⟩ = some (.int .i64 x.row) ∧ w.cell? ⟨b, o + m * 4 + 1, none⟩ = some (.int .i64 x.brk) ∧ w.cell? ⟨b, o + m * 4 + 2, none⟩ = some (.int .i64 x.loop) ∧ w.cell? ⟨b, o + m * 4 + 3, none⟩ = some (.int .i64 x.sw) := by
  obtain ⟨b, o, e1, -, h0⟩ := h.racks.at_ hm
  exact ⟨b, o, e1, by simpa [rkF] using h0 0 (by omega), by simpa [rkF] using h0 1 (by omega), by simpa [rkF] using h0 2 (by omega), by simpa [rkF] using h0 3 (by omega)⟩
theorem brk_row {w : World} {p : SP} {s : SiteD} (h : SiAt w p s) {m : Nat} {x : Brk} (hm : s.brks[m]? = some x) : ∃ b o, p.a2 = some ⟨b, o, none⟩ ∧ w.cell? ⟨b, o + m * 4, none⟩ = some (.int .i64 x.feed) := by
  obtain ⟨b, o, e1, -, h0⟩ := h.brks.at_ hm
  exact ⟨b, o, e1, by simpa [brkF] using h0 0 (by omega)⟩
set_option maxHeartbeats 8000000 in
/-- rackOf. -/
theorem c_dom1 (bs : Nat) (p : SP) (s : SiteD) (hs : SiteOk s) (k : Nat) (hk : k < s.hosts.length) (w : World) (hbox : SiBox w bs p s) (hat : SiAt w p s) :
    Calls Tryz.prog 151 #[.int .i64 (k : Int), .pointer (some ⟨bs, 0, none⟩)] w fun e w' => e = .returned (rkV (rkAt s k)) ∧ Below w.heap.size w w' := by
  obtain ⟨m, hm, hm1, hmr, -⟩ := rk_ok hs hk
  obtain ⟨hb, ho, he, y0⟩ := host_row hat hk
  obtain ⟨rb, ro, hre, z0, z1, z2, z3⟩ := rack_row hat hmr
  rw [hm] at y0
  unfold rkV
  obtain ⟨V, hV⟩ : ∃ V, V = w.alloc (.cells #[.int .i64 0, .int .i64 0, .int .i64 0, .int .i64 0] 87) := ⟨_, rfl⟩
  have B0 : Below w.heap.size w V := by subst hV; exact (Below.refl _ _).alloc (Nat.le_refl _) _
  have HB0 := Lib.hid B0
  have HV := Lib.hid (show V.heap[w.heap.size]? = some (.cells #[.int .i64 0, .int .i64 0, .int .i64 0, .int .i64 0] 87 (0, 0)) by subst hV; exact heap_alloc_new _ _)
  have hbox2 := hbox.on B0 (Nat.le_refl _)
  have f3 := hbox2.c3
  have f6 := hbox2.c6
  rw [he] at f6
  rw [hre] at f3
  have hat2 := hat.on B0 (Nat.le_refl _)
  obtain ⟨hb', ho', he', y0⟩ := host_row hat2 hk
  obtain ⟨rb', ro', hre', z0, z1, z2, z3⟩ := rack_row hat2 hmr
  rw [hm] at y0
  rw [he] at he'
  rw [hre] at hre'
  injection he' with he'
  injection he' with e1 e2
  subst e1 e2
  injection hre' with hre'
  injection hre' with e1 e2
  subst e1 e2
  have v0 : V.cell? ⟨w.heap.size, 0, none⟩ = some (.int .i64 0) := cell_of HV.out rfl
  have v1 : V.cell? ⟨w.heap.size, 1, none⟩ = some (.int .i64 0) := cell_of HV.out rfl
  have v2 : V.cell? ⟨w.heap.size, 2, none⟩ = some (.int .i64 0) := cell_of HV.out rfl
  have v3 : V.cell? ⟨w.heap.size, 3, none⟩ = some (.int .i64 0) := cell_of HV.out rfl
  have u0 := frz HV.out 0
  have u1 := frz HV.out 1
  have u2 := frz HV.out 2
  have u3 := frz HV.out 3
  have hkk : (k : Int) < ((s.hosts.length : Nat) : Int) := by omega
  have hmm : (m : Int) < ((s.racks.length : Nat) : Int) := by omega
  have ht1 : ((k : Nat) : Int).toNat = k := by omega
  have ht2 : ((m : Nat) : Int).toNat = m := by omega
  have m4 := hat.racks.1; have m6 := hat.hosts.1
  have n4 := hat.racks.2.1; have n6 := hat.hosts.2.1
  unfold maxLen at n4 n6
  clear hbox hbox2 hat hat2 he hre hmr B0 hs hm
  rw [hV] at f3 f6 y0 z0 z1 z2 z3 v0 v1 v2 v3 u0 u1 u2 u3
  go_enter Tryz.func151, Tryz.ntmps151
  go_wp2_with (fail)
  rw [← hV] at f3 f6 y0 z0 z1 z2 z3 v0 v1 v2 v3 u0 u1 u2 u3 ⊢
  clear hV
  go_region
  go_wp2
  refine ret4 (i := 3) (b := w.heap.size) rfl rfl rfl (row_store4 HV.out _ _ _ _) ⟨rfl, ?_⟩
  exact ((((HB0.out.setCell (p := ⟨w.heap.size, 0, none⟩) (Nat.le_refl _) _).setCell (p := ⟨w.heap.size, 1, none⟩) (Nat.le_refl _) _).setCell (p := ⟨w.heap.size, 2, none⟩) (Nat.le_refl _) _).setCell (p := ⟨w.heap.size, 3, none⟩) (Nat.le_refl _) _).drew
set_option maxHeartbeats 4000000 in
theorem c_dom2 (k : Int) (w : World) : Calls Tryz.prog 152 #[.int .i64 k] w fun e w' => e = .returned (.int .i64 k) ∧ Below w.heap.size w w' := by
  go_enter Tryz.func152, Tryz.ntmps152
  go_wp2
  go_ret
  exact ⟨rfl, Below.refl _ _⟩
set_option maxHeartbeats 4000000 in
theorem c_dom3 (bs : Nat) (p : SP) (s : SiteD) (k : Nat) (hk : k < s.hosts.length) (w : World) (hbox : SiBox w bs p s) (hat : SiAt w p s) :
    Calls Tryz.prog 153 #[.int .i64 (k : Int), .pointer (some ⟨bs, 0, none⟩)] w fun e w' => e = .returned (.int .i64 (rackAt s k)) ∧ Below w.heap.size w w' := by
  obtain ⟨hb, ho, he, y0⟩ := host_row hat hk
  have f6 := hbox.c6
  rw [he] at f6
  have hkk : (k : Int) < ((s.hosts.length : Nat) : Int) := by omega
  have ht1 : ((k : Nat) : Int).toNat = k := by omega
  have m6 := hat.hosts.1
  have n6 := hat.hosts.2.1
  unfold maxLen at n6
  clear hbox hat he
  go_enter Tryz.func153, Tryz.ntmps153
  go_wp2
  go_ret
  exact ⟨rfl, Below.refl _ _⟩
theorem rk_field0 (a b c d : Int) (w : World) : (Instr.field 87 (.agg #[.int .i64 a, .int .i64 b, .int .i64 c, .int .i64 d]) 0).run Tryz.prog w = .ok (.int .i64 a) w := by kernel_rfl
theorem rk_field1 (a b c d : Int) (w : World) : (Instr.field 87 (.agg #[.int .i64 a, .int .i64 b, .int .i64 c, .int .i64 d]) 1).run Tryz.prog w = .ok (.int .i64 b) w := by kernel_rfl
theorem rk_field2 (a b c d : Int) (w : World) : (Instr.field 87 (.agg #[.int .i64 a, .int .i64 b, .int .i64 c, .int .i64 d]) 2).run Tryz.prog w = .ok (.int .i64 c) w := by kernel_rfl
/-- The box of rackOf. -/
def RkBox (w : World) (bt bs : Nat) : Prop := w.heap[bt]? = some (.cells #[.func (.func 151) #[] #[.pointer (some ⟨bs, 0, none⟩)]] 174 (0, 0))
theorem RkBox.on {w w' : World} {bt bs B : Nat} (h : RkBox w bt bs) (hb : Below B w w') (hB : w.heap.size ≤ B) : RkBox w' bt bs := (hb.block _ (Nat.lt_of_lt_of_le (at_lt h) hB)).trans h
theorem RkBox.c0 {w : World} {bt bs : Nat} (h : RkBox w bt bs) : w.cell? ⟨bt, 0, none⟩ = some (.func (.func 151) #[] #[.pointer (some ⟨bs, 0, none⟩)]) := cell_of h rfl
set_option maxHeartbeats 4000000 in
theorem c_dom4 (bs bt : Nat) (p : SP) (s : SiteD) (hs : SiteOk s) (k : Nat) (hk : k < s.hosts.length) (w : World) (hbox : SiBox w bs p s) (hat : SiAt w p s) (hrk : RkBox w bt bs) :
    Calls Tryz.prog 154 #[.int .i64 (k : Int), .pointer (some ⟨bt, 0, none⟩)] w fun e w' => e = .returned (.int .i64 (rkAt s k).row) ∧ Below w.heap.size w w' := by
  have HC := Lib.hid (c_dom1 bs p s hs k hk w hbox hat)
  unfold rkV at HC
  have f0 := hrk.c0
  clear hbox hat hrk
  have hfd := fun X : World => rk_field0 (rkAt s k).row (rkAt s k).brk (rkAt s k).loop (rkAt s k).sw X
  go_enter Tryz.func154, Tryz.ntmps154
  go_wp2_with (fail)
  go_at_call 151
  refine HC.out.mono ?_
  rintro e w1 ⟨rfl, b1⟩
  have HB1 := Lib.hid b1
  clear b1
  go_wp2_with (fail)
  go_ret
  exact ⟨rfl, HB1.out⟩
set_option maxHeartbeats 4000000 in
theorem c_dom6 (bs bt : Nat) (p : SP) (s : SiteD) (hs : SiteOk s) (k : Nat) (hk : k < s.hosts.length) (w : World) (hbox : SiBox w bs p s) (hat : SiAt w p s) (hrk : RkBox w bt bs) :
    Calls Tryz.prog 156 #[.int .i64 (k : Int), .pointer (some ⟨bt, 0, none⟩)] w fun e w' => e = .returned (.int .i64 (rkAt s k).loop) ∧ Below w.heap.size w w' := by
  have HC := Lib.hid (c_dom1 bs p s hs k hk w hbox hat)
  unfold rkV at HC
  have f0 := hrk.c0
  clear hbox hat hrk
  have hfd := fun X : World => rk_field2 (rkAt s k).row (rkAt s k).brk (rkAt s k).loop (rkAt s k).sw X
  go_enter Tryz.func156, Tryz.ntmps156
  go_wp2_with (fail)
  go_at_call 151
  refine HC.out.mono ?_
  rintro e w1 ⟨rfl, b1⟩
  have HB1 := Lib.hid b1
  clear b1
  go_wp2_with (fail)
  go_ret
  exact ⟨rfl, HB1.out⟩
set_option maxHeartbeats 8000000 in
theorem c_dom5 (bs bt : Nat) (p : SP) (s : SiteD) (hs : SiteOk s) (k : Nat) (hk : k < s.hosts.length) (w : World) (hbox : SiBox w bs p s) (hat : SiAt w p s) (hrk : RkBox w bt bs) :
    Calls Tryz.prog 155 #[.int .i64 (k : Int), .pointer (some ⟨bs, 0, none⟩), .pointer (some ⟨bt, 0, none⟩)] w fun e w' => e = .returned (.int .i64 (feedAt s k)) ∧ Below w.heap.size w w' := by
  obtain ⟨m, x, hm, hm1, hmx, hfx, -⟩ := feed_ok hs hk
  obtain ⟨hb, ho, he, -⟩ := brk_row hat hmx
  have HC := Lib.hid (fun (X : World) (hX : Below w.heap.size w X) => c_dom1 bs p s hs k hk X (hbox.on hX (Nat.le_refl _)) (hat.on hX (Nat.le_refl _)))
  unfold rkV at HC
  have HF := Lib.hid (fun (X : World) (hX : Below w.heap.size w X) => (show X.cell? ⟨bs, 1, none⟩ = some (.slice (some ⟨hb, ho, none⟩) s.brks.length p.c2) ∧ X.cell? ⟨bt, 0, none⟩ = some (.func (.func 151) #[] #[.pointer (some ⟨bs, 0, none⟩)]) ∧ X.cell? ⟨hb, ho + m * 4, none⟩ = some (.int .i64 (feedAt s k)) from by
    refine ⟨?_, (hrk.on hX (Nat.le_refl _)).c0, ?_⟩
    · have := (hbox.on hX (Nat.le_refl _)).c1; rwa [he] at this
    · obtain ⟨b', o', e', h0⟩ := brk_row (hat.on hX (Nat.le_refl _)) hmx
      rw [he] at e'
      injection e' with e'
      injection e' with e1 e2
      subst e1 e2
      rw [hfx]
      exact h0))
  obtain ⟨f1, ft, fy⟩ := HF.out w (Below.refl _ _)
  have hmm : (m : Int) < ((s.brks.length : Nat) : Int) := by omega
  have ht2 : ((m : Nat) : Int).toNat = m := by omega
  have hc2 := hat.brks.1
  have n2 := hat.brks.2.1
  unfold maxLen at n2
  rw [hm] at HC
  clear hbox hat hrk he hmx hfx hm
  have hfd := fun X : World => rk_field1 (rkAt s k).row (m : Int) (rkAt s k).loop (rkAt s k).sw X
  go_enter Tryz.func155, Tryz.ntmps155
  go_wp2_with (fail)
  go_region_held3 (fun X => X.cell? ⟨bs, 1, none⟩ = some (.slice (some ⟨hb, ho, none⟩) s.brks.length p.c2) ∧ X.cell? ⟨bt, 0, none⟩ = some (.func (.func 151) #[] #[.pointer (some ⟨bs, 0, none⟩)]) ∧ X.cell? ⟨hb, ho + m * 4, none⟩ = some (.int .i64 (feedAt s k)))
    (first | exact HF.out w1 HB1.out | exact HF.out w (Below.refl _ _))
    (first
      | (go_at_call 151; (with_reducible refine (HC.out w.drew (Below.refl _ _).drew).mono ?_); rintro e w1 ⟨rfl, bb0⟩; have HB1 := Lib.hid (below_join (Below.refl w.heap.size w).drew bb0 (Nat.le_refl _)); clear bb0)
      | fail)
  go_wp2_with (fail)
  go_ret
  exact ⟨rfl, HB1.out⟩
end Go.Proofs.YtbbadnlaelgmlaaGreat

namespace Go.Proofs.YtbbadnlaelgmlaaGreat
open Go.RowKit
set_option maxRecDepth 100000
set_option linter.unusedVariables false
set_option linter.unusedSimpArgs false

set_option maxHeartbeats 8000000 in
theorem c_domsNo (p : SP) (s : SiteD) (d : Nat) (hd : d < 256) (hok : siteOk s = false) (w : World) (h : SiAt w p s) :
    Calls Tryz.prog 127 #[siV p s, .int .u8 (d : Int)] w fun e w' => e = .returned (.tuple #[.int .i64 0, .nilFunc]) ∧ Below w.heap.size w w' := by
  have HV := Lib.hid (fun (X : World) (hX : SiAt X p s) => c_stValid p s _ hok X hX)
  unfold siV at HV
  unfold siV
  obtain ⟨W, hW⟩ : ∃ W, W = w.alloc (.cells #[.slice p.a1 s.feeds.length p.c1, .slice p.a2 s.brks.length p.c2, .slice p.a3 s.loops.length p.c3, .slice p.a4 s.racks.length p.c4, .int .i64 s.sw, .slice p.a5 s.links.length p.c5, .slice p.a6 s.hosts.length p.c6] 29) := ⟨_, rfl⟩
  have B0 : Below w.heap.size w W := by subst hW; exact (Below.refl _ _).alloc (Nat.le_refl _) _
  have HB0 := Lib.hid B0
  have HX := Lib.hid (show SiBox W w.heap.size p s by subst hW; exact siBox_new _ _ _)
  have HA := Lib.hid (h.on B0 (Nat.le_refl _))
  have HF := Lib.hid (fun (X : World) (hX : Below W.heap.size W X) => (let z := HX.out.on hX (Nat.le_refl _); ⟨z.c0, z.c1, z.c2, z.c3, z.c4, z.c5, z.c6⟩ : X.cell? ⟨w.heap.size, 0, none⟩ = some (.slice p.a1 s.feeds.length p.c1) ∧ X.cell? ⟨w.heap.size, 1, none⟩ = some (.slice p.a2 s.brks.length p.c2) ∧ X.cell? ⟨w.heap.size, 2, none⟩ = some (.slice p.a3 s.loops.length p.c3) ∧ X.cell? ⟨w.heap.size, 3, none⟩ = some (.slice p.a4 s.racks.length p.c4) ∧ X.cell? ⟨w.heap.size, 4, none⟩ = some (.int .i64 s.sw) ∧ X.cell? ⟨w.heap.size, 5, none⟩ = some (.slice p.a5 s.links.length p.c5) ∧ X.cell? ⟨w.heap.size, 6, none⟩ = some (.slice p.a6 s.hosts.length p.c6)))
  have m1 := h.feeds.1; have m2 := h.brks.1; have m3 := h.loops.1; have m4 := h.racks.1; have m5 := h.links.1; have m6 := h.hosts.1
  have n1 := h.feeds.2.1; have n2 := h.brks.2.1; have n3 := h.loops.2.1; have n4 := h.racks.2.1; have n5 := h.links.2.1; have n6 := h.hosts.2.1
  unfold maxLen at n1 n2 n3 n4 n5 n6
  have KW := Lib.hid (Below.refl W.heap.size W)
  have hlw : w.heap.size < W.heap.size := HX.out.lt
  clear B0 h
  obtain ⟨f0, f1, f2, f3, f4, f5, f6⟩ := HF.out W KW.out
  rw [hW] at f0 f1 f2 f3 f4 f5 f6
  go_enter Tryz.func127, Tryz.ntmps127
  go_wp2_with (fail)
  rw [← hW]
  clear hW f0 f1 f2 f3 f4 f5 f6
  go_at_call 44
  refine (HV.out W HA.out).mono ?_
  rintro e w1 ⟨rfl, b1⟩
  have K1 := Lib.hid b1
  have HX1 := Lib.hid (HX.out.on b1 (Nat.le_refl _))
  have HA1 := Lib.hid (HA.out.on b1 (Nat.le_refl _))
  clear b1
  go_wp2_with (fail)
  go_ret2
  exact ⟨rfl, below_join HB0.out K1.out HB0.out.size⟩
set_option maxHeartbeats 8000000 in
theorem c_domsNone (p : SP) (s : SiteD) (d : Nat) (hd : d < 256) (hno : ¬ (1 ≤ d ∧ d ≤ 5)) (hok : siteOk s = true) (w : World) (h : SiAt w p s) :
    Calls Tryz.prog 127 #[siV p s, .int .u8 (d : Int)] w fun e w' => e = .returned (.tuple #[.int .i64 0, .nilFunc]) ∧ Below w.heap.size w w' := by
  have HV := Lib.hid (fun (X : World) (hX : SiAt X p s) => c_stValid p s _ hok X hX)
  unfold siV at HV
  unfold siV
  obtain ⟨W, hW⟩ : ∃ W, W = w.alloc (.cells #[.slice p.a1 s.feeds.length p.c1, .slice p.a2 s.brks.length p.c2, .slice p.a3 s.loops.length p.c3, .slice p.a4 s.racks.length p.c4, .int .i64 s.sw, .slice p.a5 s.links.length p.c5, .slice p.a6 s.hosts.length p.c6] 29) := ⟨_, rfl⟩
  have B0 : Below w.heap.size w W := by subst hW; exact (Below.refl _ _).alloc (Nat.le_refl _) _
  have HB0 := Lib.hid B0
  have HX := Lib.hid (show SiBox W w.heap.size p s by subst hW; exact siBox_new _ _ _)
  have HA := Lib.hid (h.on B0 (Nat.le_refl _))
  have HF := Lib.hid (fun (X : World) (hX : Below W.heap.size W X) => (let z := HX.out.on hX (Nat.le_refl _); ⟨z.c0, z.c1, z.c2, z.c3, z.c4, z.c5, z.c6⟩ : X.cell? ⟨w.heap.size, 0, none⟩ = some (.slice p.a1 s.feeds.length p.c1) ∧ X.cell? ⟨w.heap.size, 1, none⟩ = some (.slice p.a2 s.brks.length p.c2) ∧ X.cell? ⟨w.heap.size, 2, none⟩ = some (.slice p.a3 s.loops.length p.c3) ∧ X.cell? ⟨w.heap.size, 3, none⟩ = some (.slice p.a4 s.racks.length p.c4) ∧ X.cell? ⟨w.heap.size, 4, none⟩ = some (.int .i64 s.sw) ∧ X.cell? ⟨w.heap.size, 5, none⟩ = some (.slice p.a5 s.links.length p.c5) ∧ X.cell? ⟨w.heap.size, 6, none⟩ = some (.slice p.a6 s.hosts.length p.c6)))
  have m1 := h.feeds.1; have m2 := h.brks.1; have m3 := h.loops.1; have m4 := h.racks.1; have m5 := h.links.1; have m6 := h.hosts.1
  have n1 := h.feeds.2.1; have n2 := h.brks.2.1; have n3 := h.loops.2.1; have n4 := h.racks.2.1; have n5 := h.links.2.1; have n6 := h.hosts.2.1
  unfold maxLen at n1 n2 n3 n4 n5 n6
  have KW := Lib.hid (Below.refl W.heap.size W)
  have hlw : w.heap.size < W.heap.size := HX.out.lt
  have d1 : ((d : Int) == 1) = false := by rw [beq_eq_false_iff_ne]; omega
  have d2 : ((d : Int) == 2) = false := by rw [beq_eq_false_iff_ne]; omega
  have d3 : ((d : Int) == 3) = false := by rw [beq_eq_false_iff_ne]; omega
  have d4 : ((d : Int) == 4) = false := by rw [beq_eq_false_iff_ne]; omega
  have d5 : ((d : Int) == 5) = false := by rw [beq_eq_false_iff_ne]; omega
  clear B0 h
  obtain ⟨f0, f1, f2, f3, f4, f5, f6⟩ := HF.out W KW.out
  rw [hW] at f0 f1 f2 f3 f4 f5 f6
  go_enter Tryz.func127, Tryz.ntmps127
  go_wp2_with (fail)
  rw [← hW]
  clear hW f0 f1 f2 f3 f4 f5 f6
  go_at_call 44
  refine (HV.out W HA.out).mono ?_
  rintro e w1 ⟨rfl, b1⟩
  have K1 := Lib.hid b1
  have HX1 := Lib.hid (HX.out.on b1 (Nat.le_refl _))
  have HA1 := Lib.hid (HA.out.on b1 (Nat.le_refl _))
  clear b1
  obtain ⟨V, hV⟩ : ∃ V, V = w1.alloc (.cells #[.func (.func 151) #[] #[.pointer (some ⟨w.heap.size, 0, none⟩)]] 174) := ⟨_, rfl⟩
  have bV : Below w1.heap.size w1 V := by subst hV; exact (Below.refl _ _).alloc (Nat.le_refl _) _
  have HBV := Lib.hid (below_join K1.out bV K1.out.size)
  have HRK := Lib.hid (show RkBox V w1.heap.size w.heap.size by subst hV; exact heap_alloc_new _ _)
  clear bV
  obtain ⟨f0, f1, f2, f3, f4, f5, f6⟩ := HF.out V HBV.out
  rw [hV] at f0 f1 f2 f3 f4 f5 f6
  go_wp2_with (fail)
  rw [← hV]
  clear hV f0 f1 f2 f3 f4 f5 f6
  go_ret2
  exact ⟨rfl, below_join HB0.out HBV.out HB0.out.size⟩
set_option maxHeartbeats 8000000 in
theorem c_doms1 (p : SP) (s : SiteD) (hok : siteOk s = true) (w : World) (h : SiAt w p s) :
    Calls Tryz.prog 127 #[siV p s, .int .u8 1] w fun e w' => ∃ bs bt : Nat, e = .returned (.tuple #[.int .i64 (s.hosts.length : Int), .func (.func 152) #[] #[]]) ∧ SiBox w' bs p s ∧ SiAt w' p s ∧ RkBox w' bt bs ∧ Below w.heap.size w w' := by
  have HV := Lib.hid (fun (X : World) (hX : SiAt X p s) => c_stValid p s _ hok X hX)
  unfold siV at HV
  unfold siV
  obtain ⟨W, hW⟩ : ∃ W, W = w.alloc (.cells #[.slice p.a1 s.feeds.length p.c1, .slice p.a2 s.brks.length p.c2, .slice p.a3 s.loops.length p.c3, .slice p.a4 s.racks.length p.c4, .int .i64 s.sw, .slice p.a5 s.links.length p.c5, .slice p.a6 s.hosts.length p.c6] 29) := ⟨_, rfl⟩
  have B0 : Below w.heap.size w W := by subst hW; exact (Below.refl _ _).alloc (Nat.le_refl _) _
  have HB0 := Lib.hid B0
  have HX := Lib.hid (show SiBox W w.heap.size p s by subst hW; exact siBox_new _ _ _)
  have HA := Lib.hid (h.on B0 (Nat.le_refl _))
  have HF := Lib.hid (fun (X : World) (hX : Below W.heap.size W X) => (let z := HX.out.on hX (Nat.le_refl _); ⟨z.c0, z.c1, z.c2, z.c3, z.c4, z.c5, z.c6⟩ : X.cell? ⟨w.heap.size, 0, none⟩ = some (.slice p.a1 s.feeds.length p.c1) ∧ X.cell? ⟨w.heap.size, 1, none⟩ = some (.slice p.a2 s.brks.length p.c2) ∧ X.cell? ⟨w.heap.size, 2, none⟩ = some (.slice p.a3 s.loops.length p.c3) ∧ X.cell? ⟨w.heap.size, 3, none⟩ = some (.slice p.a4 s.racks.length p.c4) ∧ X.cell? ⟨w.heap.size, 4, none⟩ = some (.int .i64 s.sw) ∧ X.cell? ⟨w.heap.size, 5, none⟩ = some (.slice p.a5 s.links.length p.c5) ∧ X.cell? ⟨w.heap.size, 6, none⟩ = some (.slice p.a6 s.hosts.length p.c6)))
  have m1 := h.feeds.1; have m2 := h.brks.1; have m3 := h.loops.1; have m4 := h.racks.1; have m5 := h.links.1; have m6 := h.hosts.1
  have n1 := h.feeds.2.1; have n2 := h.brks.2.1; have n3 := h.loops.2.1; have n4 := h.racks.2.1; have n5 := h.links.2.1; have n6 := h.hosts.2.1
  unfold maxLen at n1 n2 n3 n4 n5 n6
  have KW := Lib.hid (Below.refl W.heap.size W)
  have hlw : w.heap.size < W.heap.size := HX.out.lt
  clear B0 h
  obtain ⟨f0, f1, f2, f3, f4, f5, f6⟩ := HF.out W KW.out
  rw [hW] at f0 f1 f2 f3 f4 f5 f6
  go_enter Tryz.func127, Tryz.ntmps127
  go_wp2_with (fail)
  rw [← hW]
  clear hW f0 f1 f2 f3 f4 f5 f6
  go_at_call 44
  refine (HV.out W HA.out).mono ?_
  rintro e w1 ⟨rfl, b1⟩
  have K1 := Lib.hid b1
  have HX1 := Lib.hid (HX.out.on b1 (Nat.le_refl _))
  have HA1 := Lib.hid (HA.out.on b1 (Nat.le_refl _))
  clear b1
  obtain ⟨V, hV⟩ : ∃ V, V = w1.alloc (.cells #[.func (.func 151) #[] #[.pointer (some ⟨w.heap.size, 0, none⟩)]] 174) := ⟨_, rfl⟩
  have bV : Below w1.heap.size w1 V := by subst hV; exact (Below.refl _ _).alloc (Nat.le_refl _) _
  have HBV := Lib.hid (below_join K1.out bV K1.out.size)
  have HRK := Lib.hid (show RkBox V w1.heap.size w.heap.size by subst hV; exact heap_alloc_new _ _)
  clear bV
  obtain ⟨f0, f1, f2, f3, f4, f5, f6⟩ := HF.out V HBV.out
  rw [hV] at f0 f1 f2 f3 f4 f5 f6
  go_wp2_with (fail)
  rw [← hV]
  clear hV f0 f1 f2 f3 f4 f5 f6
  go_ret2
  exact ⟨w.heap.size, w1.heap.size, rfl, HX.out.on HBV.out (Nat.le_refl _), HA.out.on HBV.out (Nat.le_refl _), HRK.out, below_join HB0.out HBV.out HB0.out.size⟩
set_option maxHeartbeats 8000000 in
theorem c_doms2 (p : SP) (s : SiteD) (hok : siteOk s = true) (w : World) (h : SiAt w p s) :
    Calls Tryz.prog 127 #[siV p s, .int .u8 2] w fun e w' => ∃ bs bt : Nat, e = .returned (.tuple #[.int .i64 (s.racks.length : Int), .func (.func 153) #[] #[.pointer (some ⟨bs, 0, none⟩)]]) ∧ SiBox w' bs p s ∧ SiAt w' p s ∧ RkBox w' bt bs ∧ Below w.heap.size w w' := by
  have HV := Lib.hid (fun (X : World) (hX : SiAt X p s) => c_stValid p s _ hok X hX)
  unfold siV at HV
  unfold siV
  obtain ⟨W, hW⟩ : ∃ W, W = w.alloc (.cells #[.slice p.a1 s.feeds.length p.c1, .slice p.a2 s.brks.length p.c2, .slice p.a3 s.loops.length p.c3, .slice p.a4 s.racks.length p.c4, .int .i64 s.sw, .slice p.a5 s.links.length p.c5, .slice p.a6 s.hosts.length p.c6] 29) := ⟨_, rfl⟩
  have B0 : Below w.heap.size w W := by subst hW; exact (Below.refl _ _).alloc (Nat.le_refl _) _
  have HB0 := Lib.hid B0
  have HX := Lib.hid (show SiBox W w.heap.size p s by subst hW; exact siBox_new _ _ _)
  have HA := Lib.hid (h.on B0 (Nat.le_refl _))
  have HF := Lib.hid (fun (X : World) (hX : Below W.heap.size W X) => (let z := HX.out.on hX (Nat.le_refl _); ⟨z.c0, z.c1, z.c2, z.c3, z.c4, z.c5, z.c6⟩ : X.cell? ⟨w.heap.size, 0, none⟩ = some (.slice p.a1 s.feeds.length p.c1) ∧ X.cell? ⟨w.heap.size, 1, none⟩ = some (.slice p.a2 s.brks.length p.c2) ∧ X.cell? ⟨w.heap.size, 2, none⟩ = some (.slice p.a3 s.loops.length p.c3) ∧ X.cell? ⟨w.heap.size, 3, none⟩ = some (.slice p.a4 s.racks.length p.c4) ∧ X.cell? ⟨w.heap.size, 4, none⟩ = some (.int .i64 s.sw) ∧ X.cell? ⟨w.heap.size, 5, none⟩ = some (.slice p.a5 s.links.length p.c5) ∧ X.cell? ⟨w.heap.size, 6, none⟩ = some (.slice p.a6 s.hosts.length p.c6)))
  have m1 := h.feeds.1; have m2 := h.brks.1; have m3 := h.loops.1; have m4 := h.racks.1; have m5 := h.links.1; have m6 := h.hosts.1
  have n1 := h.feeds.2.1; have n2 := h.brks.2.1; have n3 := h.loops.2.1; have n4 := h.racks.2.1; have n5 := h.links.2.1; have n6 := h.hosts.2.1
  unfold maxLen at n1 n2 n3 n4 n5 n6
  have KW := Lib.hid (Below.refl W.heap.size W)
  have hlw : w.heap.size < W.heap.size := HX.out.lt
  clear B0 h
  obtain ⟨f0, f1, f2, f3, f4, f5, f6⟩ := HF.out W KW.out
  rw [hW] at f0 f1 f2 f3 f4 f5 f6
  go_enter Tryz.func127, Tryz.ntmps127
  go_wp2_with (fail)
  rw [← hW]
  clear hW f0 f1 f2 f3 f4 f5 f6
  go_at_call 44
  refine (HV.out W HA.out).mono ?_
  rintro e w1 ⟨rfl, b1⟩
  have K1 := Lib.hid b1
  have HX1 := Lib.hid (HX.out.on b1 (Nat.le_refl _))
  have HA1 := Lib.hid (HA.out.on b1 (Nat.le_refl _))
  clear b1
  obtain ⟨V, hV⟩ : ∃ V, V = w1.alloc (.cells #[.func (.func 151) #[] #[.pointer (some ⟨w.heap.size, 0, none⟩)]] 174) := ⟨_, rfl⟩
  have bV : Below w1.heap.size w1 V := by subst hV; exact (Below.refl _ _).alloc (Nat.le_refl _) _
  have HBV := Lib.hid (below_join K1.out bV K1.out.size)
  have HRK := Lib.hid (show RkBox V w1.heap.size w.heap.size by subst hV; exact heap_alloc_new _ _)
  clear bV
  obtain ⟨f0, f1, f2, f3, f4, f5, f6⟩ := HF.out V HBV.out
  rw [hV] at f0 f1 f2 f3 f4 f5 f6
  go_wp2_with (fail)
  rw [← hV]
  clear hV f0 f1 f2 f3 f4 f5 f6
  go_ret2
  exact ⟨w.heap.size, w1.heap.size, rfl, HX.out.on HBV.out (Nat.le_refl _), HA.out.on HBV.out (Nat.le_refl _), HRK.out, below_join HB0.out HBV.out HB0.out.size⟩
set_option maxHeartbeats 8000000 in
theorem c_doms3 (p : SP) (s : SiteD) (hok : siteOk s = true) (w : World) (h : SiAt w p s) :
    Calls Tryz.prog 127 #[siV p s, .int .u8 3] w fun e w' => ∃ bs bt : Nat, e = .returned (.tuple #[.int .i64 4, .func (.func 154) #[] #[.pointer (some ⟨bt, 0, none⟩)]]) ∧ SiBox w' bs p s ∧ SiAt w' p s ∧ RkBox w' bt bs ∧ Below w.heap.size w w' := by
  have HV := Lib.hid (fun (X : World) (hX : SiAt X p s) => c_stValid p s _ hok X hX)
  unfold siV at HV
  unfold siV
  obtain ⟨W, hW⟩ : ∃ W, W = w.alloc (.cells #[.slice p.a1 s.feeds.length p.c1, .slice p.a2 s.brks.length p.c2, .slice p.a3 s.loops.length p.c3, .slice p.a4 s.racks.length p.c4, .int .i64 s.sw, .slice p.a5 s.links.length p.c5, .slice p.a6 s.hosts.length p.c6] 29) := ⟨_, rfl⟩
  have B0 : Below w.heap.size w W := by subst hW; exact (Below.refl _ _).alloc (Nat.le_refl _) _
  have HB0 := Lib.hid B0
  have HX := Lib.hid (show SiBox W w.heap.size p s by subst hW; exact siBox_new _ _ _)
  have HA := Lib.hid (h.on B0 (Nat.le_refl _))
  have HF := Lib.hid (fun (X : World) (hX : Below W.heap.size W X) => (let z := HX.out.on hX (Nat.le_refl _); ⟨z.c0, z.c1, z.c2, z.c3, z.c4, z.c5, z.c6⟩ : X.cell? ⟨w.heap.size, 0, none⟩ = some (.slice p.a1 s.feeds.length p.c1) ∧ X.cell? ⟨w.heap.size, 1, none⟩ = some (.slice p.a2 s.brks.length p.c2) ∧ X.cell? ⟨w.heap.size, 2, none⟩ = some (.slice p.a3 s.loops.length p.c3) ∧ X.cell? ⟨w.heap.size, 3, none⟩ = some (.slice p.a4 s.racks.length p.c4) ∧ X.cell? ⟨w.heap.size, 4, none⟩ = some (.int .i64 s.sw) ∧ X.cell? ⟨w.heap.size, 5, none⟩ = some (.slice p.a5 s.links.length p.c5) ∧ X.cell? ⟨w.heap.size, 6, none⟩ = some (.slice p.a6 s.hosts.length p.c6)))
  have m1 := h.feeds.1; have m2 := h.brks.1; have m3 := h.loops.1; have m4 := h.racks.1; have m5 := h.links.1; have m6 := h.hosts.1
  have n1 := h.feeds.2.1; have n2 := h.brks.2.1; have n3 := h.loops.2.1; have n4 := h.racks.2.1; have n5 := h.links.2.1; have n6 := h.hosts.2.1
  unfold maxLen at n1 n2 n3 n4 n5 n6
  have KW := Lib.hid (Below.refl W.heap.size W)
  have hlw : w.heap.size < W.heap.size := HX.out.lt
  clear B0 h
  obtain ⟨f0, f1, f2, f3, f4, f5, f6⟩ := HF.out W KW.out
  rw [hW] at f0 f1 f2 f3 f4 f5 f6
  go_enter Tryz.func127, Tryz.ntmps127
  go_wp2_with (fail)
  rw [← hW]
  clear hW f0 f1 f2 f3 f4 f5 f6
  go_at_call 44
  refine (HV.out W HA.out).mono ?_
  rintro e w1 ⟨rfl, b1⟩
  have K1 := Lib.hid b1
  have HX1 := Lib.hid (HX.out.on b1 (Nat.le_refl _))
  have HA1 := Lib.hid (HA.out.on b1 (Nat.le_refl _))
  clear b1
  obtain ⟨V, hV⟩ : ∃ V, V = w1.alloc (.cells #[.func (.func 151) #[] #[.pointer (some ⟨w.heap.size, 0, none⟩)]] 174) := ⟨_, rfl⟩
  have bV : Below w1.heap.size w1 V := by subst hV; exact (Below.refl _ _).alloc (Nat.le_refl _) _
  have HBV := Lib.hid (below_join K1.out bV K1.out.size)
  have HRK := Lib.hid (show RkBox V w1.heap.size w.heap.size by subst hV; exact heap_alloc_new _ _)
  clear bV
  obtain ⟨f0, f1, f2, f3, f4, f5, f6⟩ := HF.out V HBV.out
  rw [hV] at f0 f1 f2 f3 f4 f5 f6
  go_wp2_with (fail)
  rw [← hV]
  clear hV f0 f1 f2 f3 f4 f5 f6
  go_ret2
  exact ⟨w.heap.size, w1.heap.size, rfl, HX.out.on HBV.out (Nat.le_refl _), HA.out.on HBV.out (Nat.le_refl _), HRK.out, below_join HB0.out HBV.out HB0.out.size⟩
set_option maxHeartbeats 8000000 in
theorem c_doms4 (p : SP) (s : SiteD) (hok : siteOk s = true) (w : World) (h : SiAt w p s) :
    Calls Tryz.prog 127 #[siV p s, .int .u8 4] w fun e w' => ∃ bs bt : Nat, e = .returned (.tuple #[.int .i64 (s.feeds.length : Int), .func (.func 155) #[] #[.pointer (some ⟨bs, 0, none⟩), .pointer (some ⟨bt, 0, none⟩)]]) ∧ SiBox w' bs p s ∧ SiAt w' p s ∧ RkBox w' bt bs ∧ Below w.heap.size w w' := by
  have HV := Lib.hid (fun (X : World) (hX : SiAt X p s) => c_stValid p s _ hok X hX)
  unfold siV at HV
  unfold siV
  obtain ⟨W, hW⟩ : ∃ W, W = w.alloc (.cells #[.slice p.a1 s.feeds.length p.c1, .slice p.a2 s.brks.length p.c2, .slice p.a3 s.loops.length p.c3, .slice p.a4 s.racks.length p.c4, .int .i64 s.sw, .slice p.a5 s.links.length p.c5, .slice p.a6 s.hosts.length p.c6] 29) := ⟨_, rfl⟩
  have B0 : Below w.heap.size w W := by subst hW; exact (Below.refl _ _).alloc (Nat.le_refl _) _
  have HB0 := Lib.hid B0
  have HX := Lib.hid (show SiBox W w.heap.size p s by subst hW; exact siBox_new _ _ _)
  have HA := Lib.hid (h.on B0 (Nat.le_refl _))
  have HF := Lib.hid (fun (X : World) (hX : Below W.heap.size W X) => (let z := HX.out.on hX (Nat.le_refl _); ⟨z.c0, z.c1, z.c2, z.c3, z.c4, z.c5, z.c6⟩ : X.cell? ⟨w.heap.size, 0, none⟩ = some (.slice p.a1 s.feeds.length p.c1) ∧ X.cell? ⟨w.heap.size, 1, none⟩ = some (.slice p.a2 s.brks.length p.c2) ∧ X.cell? ⟨w.heap.size, 2, none⟩ = some (.slice p.a3 s.loops.length p.c3) ∧ X.cell? ⟨w.heap.size, 3, none⟩ = some (.slice p.a4 s.racks.length p.c4) ∧ X.cell? ⟨w.heap.size, 4, none⟩ = some (.int .i64 s.sw) ∧ X.cell? ⟨w.heap.size, 5, none⟩ = some (.slice p.a5 s.links.length p.c5) ∧ X.cell? ⟨w.heap.size, 6, none⟩ = some (.slice p.a6 s.hosts.length p.c6)))
  have m1 := h.feeds.1; have m2 := h.brks.1; have m3 := h.loops.1; have m4 := h.racks.1; have m5 := h.links.1; have m6 := h.hosts.1
  have n1 := h.feeds.2.1; have n2 := h.brks.2.1; have n3 := h.loops.2.1; have n4 := h.racks.2.1; have n5 := h.links.2.1; have n6 := h.hosts.2.1
  unfold maxLen at n1 n2 n3 n4 n5 n6
  have KW := Lib.hid (Below.refl W.heap.size W)
  have hlw : w.heap.size < W.heap.size := HX.out.lt
  clear B0 h
  obtain ⟨f0, f1, f2, f3, f4, f5, f6⟩ := HF.out W KW.out
  rw [hW] at f0 f1 f2 f3 f4 f5 f6
  go_enter Tryz.func127, Tryz.ntmps127
  go_wp2_with (fail)
  rw [← hW]
  clear hW f0 f1 f2 f3 f4 f5 f6
  go_at_call 44
  refine (HV.out W HA.out).mono ?_
  rintro e w1 ⟨rfl, b1⟩
  have K1 := Lib.hid b1
  have HX1 := Lib.hid (HX.out.on b1 (Nat.le_refl _))
  have HA1 := Lib.hid (HA.out.on b1 (Nat.le_refl _))
  clear b1
  obtain ⟨V, hV⟩ : ∃ V, V = w1.alloc (.cells #[.func (.func 151) #[] #[.pointer (some ⟨w.heap.size, 0, none⟩)]] 174) := ⟨_, rfl⟩
  have bV : Below w1.heap.size w1 V := by subst hV; exact (Below.refl _ _).alloc (Nat.le_refl _) _
  have HBV := Lib.hid (below_join K1.out bV K1.out.size)
  have HRK := Lib.hid (show RkBox V w1.heap.size w.heap.size by subst hV; exact heap_alloc_new _ _)
  clear bV
  obtain ⟨f0, f1, f2, f3, f4, f5, f6⟩ := HF.out V HBV.out
  rw [hV] at f0 f1 f2 f3 f4 f5 f6
  go_wp2_with (fail)
  rw [← hV]
  clear hV f0 f1 f2 f3 f4 f5 f6
  go_ret2
  exact ⟨w.heap.size, w1.heap.size, rfl, HX.out.on HBV.out (Nat.le_refl _), HA.out.on HBV.out (Nat.le_refl _), HRK.out, below_join HB0.out HBV.out HB0.out.size⟩
set_option maxHeartbeats 8000000 in
theorem c_doms5 (p : SP) (s : SiteD) (hok : siteOk s = true) (w : World) (h : SiAt w p s) :
    Calls Tryz.prog 127 #[siV p s, .int .u8 5] w fun e w' => ∃ bs bt : Nat, e = .returned (.tuple #[.int .i64 (s.loops.length : Int), .func (.func 156) #[] #[.pointer (some ⟨bt, 0, none⟩)]]) ∧ SiBox w' bs p s ∧ SiAt w' p s ∧ RkBox w' bt bs ∧ Below w.heap.size w w' := by
  have HV := Lib.hid (fun (X : World) (hX : SiAt X p s) => c_stValid p s _ hok X hX)
  unfold siV at HV
  unfold siV
  obtain ⟨W, hW⟩ : ∃ W, W = w.alloc (.cells #[.slice p.a1 s.feeds.length p.c1, .slice p.a2 s.brks.length p.c2, .slice p.a3 s.loops.length p.c3, .slice p.a4 s.racks.length p.c4, .int .i64 s.sw, .slice p.a5 s.links.length p.c5, .slice p.a6 s.hosts.length p.c6] 29) := ⟨_, rfl⟩
  have B0 : Below w.heap.size w W := by subst hW; exact (Below.refl _ _).alloc (Nat.le_refl _) _
  have HB0 := Lib.hid B0
  have HX := Lib.hid (show SiBox W w.heap.size p s by subst hW; exact siBox_new _ _ _)
  have HA := Lib.hid (h.on B0 (Nat.le_refl _))
  have HF := Lib.hid (fun (X : World) (hX : Below W.heap.size W X) => (let z := HX.out.on hX (Nat.le_refl _); ⟨z.c0, z.c1, z.c2, z.c3, z.c4, z.c5, z.c6⟩ : X.cell? ⟨w.heap.size, 0, none⟩ = some (.slice p.a1 s.feeds.length p.c1) ∧ X.cell? ⟨w.heap.size, 1, none⟩ = some (.slice p.a2 s.brks.length p.c2) ∧ X.cell? ⟨w.heap.size, 2, none⟩ = some (.slice p.a3 s.loops.length p.c3) ∧ X.cell? ⟨w.heap.size, 3, none⟩ = some (.slice p.a4 s.racks.length p.c4) ∧ X.cell? ⟨w.heap.size, 4, none⟩ = some (.int .i64 s.sw) ∧ X.cell? ⟨w.heap.size, 5, none⟩ = some (.slice p.a5 s.links.length p.c5) ∧ X.cell? ⟨w.heap.size, 6, none⟩ = some (.slice p.a6 s.hosts.length p.c6)))
  have m1 := h.feeds.1; have m2 := h.brks.1; have m3 := h.loops.1; have m4 := h.racks.1; have m5 := h.links.1; have m6 := h.hosts.1
  have n1 := h.feeds.2.1; have n2 := h.brks.2.1; have n3 := h.loops.2.1; have n4 := h.racks.2.1; have n5 := h.links.2.1; have n6 := h.hosts.2.1
  unfold maxLen at n1 n2 n3 n4 n5 n6
  have KW := Lib.hid (Below.refl W.heap.size W)
  have hlw : w.heap.size < W.heap.size := HX.out.lt
  clear B0 h
  obtain ⟨f0, f1, f2, f3, f4, f5, f6⟩ := HF.out W KW.out
  rw [hW] at f0 f1 f2 f3 f4 f5 f6
  go_enter Tryz.func127, Tryz.ntmps127
  go_wp2_with (fail)
  rw [← hW]
  clear hW f0 f1 f2 f3 f4 f5 f6
  go_at_call 44
  refine (HV.out W HA.out).mono ?_
  rintro e w1 ⟨rfl, b1⟩
  have K1 := Lib.hid b1
  have HX1 := Lib.hid (HX.out.on b1 (Nat.le_refl _))
  have HA1 := Lib.hid (HA.out.on b1 (Nat.le_refl _))
  clear b1
  obtain ⟨V, hV⟩ : ∃ V, V = w1.alloc (.cells #[.func (.func 151) #[] #[.pointer (some ⟨w.heap.size, 0, none⟩)]] 174) := ⟨_, rfl⟩
  have bV : Below w1.heap.size w1 V := by subst hV; exact (Below.refl _ _).alloc (Nat.le_refl _) _
  have HBV := Lib.hid (below_join K1.out bV K1.out.size)
  have HRK := Lib.hid (show RkBox V w1.heap.size w.heap.size by subst hV; exact heap_alloc_new _ _)
  clear bV
  obtain ⟨f0, f1, f2, f3, f4, f5, f6⟩ := HF.out V HBV.out
  rw [hV] at f0 f1 f2 f3 f4 f5 f6
  go_wp2_with (fail)
  rw [← hV]
  clear hV f0 f1 f2 f3 f4 f5 f6
  go_ret2
  exact ⟨w.heap.size, w1.heap.size, rfl, HX.out.on HBV.out (Nat.le_refl _), HA.out.on HBV.out (Nat.le_refl _), HRK.out, below_join HB0.out HBV.out HB0.out.size⟩
/-- What domains answers, for the number alone. -/
theorem c_doms (p : SP) (s : SiteD) (d : Nat) (hd : d < 256) (w : World) (h : SiAt w p s) :
    Calls Tryz.prog 127 #[siV p s, .int .u8 (d : Int)] w fun e w' => (∃ f, e = .returned (.tuple #[.int .i64 (cntD s d), f])) ∧ Below w.heap.size w w' := by
  rcases hok : siteOk s with _ | _
  · refine (c_domsNo p s d hd hok w h).mono ?_
    rintro e w' ⟨rfl, hb⟩
    exact ⟨⟨_, by unfold cntD; rw [hok]; rfl⟩, hb⟩
  · by_cases hno : 1 ≤ d ∧ d ≤ 5
    · rcases (by omega : d = 1 ∨ d = 2 ∨ d = 3 ∨ d = 4 ∨ d = 5) with rfl | rfl | rfl | rfl | rfl

      · refine (c_doms1 p s hok w h).mono ?_
        rintro e w' ⟨bs, bt, rfl, -, -, -, hb⟩
        exact ⟨⟨_, by unfold cntD; rw [hok]; rfl⟩, hb⟩
      · refine (c_doms2 p s hok w h).mono ?_
        rintro e w' ⟨bs, bt, rfl, -, -, -, hb⟩
        exact ⟨⟨_, by unfold cntD; rw [hok]; rfl⟩, hb⟩
      · refine (c_doms3 p s hok w h).mono ?_
        rintro e w' ⟨bs, bt, rfl, -, -, -, hb⟩
        exact ⟨⟨_, by unfold cntD; rw [hok]; rfl⟩, hb⟩
      · refine (c_doms4 p s hok w h).mono ?_
        rintro e w' ⟨bs, bt, rfl, -, -, -, hb⟩
        exact ⟨⟨_, by unfold cntD; rw [hok]; rfl⟩, hb⟩
      · refine (c_doms5 p s hok w h).mono ?_
        rintro e w' ⟨bs, bt, rfl, -, -, -, hb⟩
        exact ⟨⟨_, by unfold cntD; rw [hok]; rfl⟩, hb⟩
    · refine (c_domsNone p s d hd hno hok w h).mono ?_
      rintro e w' ⟨rfl, hb⟩
      refine ⟨⟨.nilFunc, ?_⟩, hb⟩
      have hc : cntD s d = 0 := by
        unfold cntD
        rw [hok, if_pos rfl]
        unfold cntOf
        split <;> first | rfl | (exfalso; omega)
      rw [hc]
set_option maxHeartbeats 4000000 in
theorem c_Count (p : SP) (s : SiteD) (d : Nat) (hd : d < 256) (r : Int) (hr : cntD s d = r) (w : World) (h : SiAt w p s) :
    Calls Tryz.prog 96 #[siV p s, .int .u8 (d : Int)] w fun e w' => e = .returned (.int .i64 r) ∧ Below w.heap.size w w' := by
  have HV := Lib.hid (fun (X : World) (hX : SiAt X p s) => c_doms p s d hd X hX)
  rw [hr] at HV
  unfold siV at HV
  unfold siV
  obtain ⟨W, hW⟩ : ∃ W, W = w.alloc (.cells #[.slice p.a1 s.feeds.length p.c1, .slice p.a2 s.brks.length p.c2, .slice p.a3 s.loops.length p.c3, .slice p.a4 s.racks.length p.c4, .int .i64 s.sw, .slice p.a5 s.links.length p.c5, .slice p.a6 s.hosts.length p.c6] 29) := ⟨_, rfl⟩
  have B0 : Below w.heap.size w W := by subst hW; exact (Below.refl _ _).alloc (Nat.le_refl _) _
  have HB0 := Lib.hid B0
  have HX := Lib.hid (show SiBox W w.heap.size p s by subst hW; exact siBox_new _ _ _)
  have HA := Lib.hid (h.on B0 (Nat.le_refl _))
  have HF := Lib.hid (fun (X : World) (hX : Below W.heap.size W X) => (let z := HX.out.on hX (Nat.le_refl _); ⟨z.c0, z.c1, z.c2, z.c3, z.c4, z.c5, z.c6⟩ : X.cell? ⟨w.heap.size, 0, none⟩ = some (.slice p.a1 s.feeds.length p.c1) ∧ X.cell? ⟨w.heap.size, 1, none⟩ = some (.slice p.a2 s.brks.length p.c2) ∧ X.cell? ⟨w.heap.size, 2, none⟩ = some (.slice p.a3 s.loops.length p.c3) ∧ X.cell? ⟨w.heap.size, 3, none⟩ = some (.slice p.a4 s.racks.length p.c4) ∧ X.cell? ⟨w.heap.size, 4, none⟩ = some (.int .i64 s.sw) ∧ X.cell? ⟨w.heap.size, 5, none⟩ = some (.slice p.a5 s.links.length p.c5) ∧ X.cell? ⟨w.heap.size, 6, none⟩ = some (.slice p.a6 s.hosts.length p.c6)))
  have m1 := h.feeds.1; have m2 := h.brks.1; have m3 := h.loops.1; have m4 := h.racks.1; have m5 := h.links.1; have m6 := h.hosts.1
  have n1 := h.feeds.2.1; have n2 := h.brks.2.1; have n3 := h.loops.2.1; have n4 := h.racks.2.1; have n5 := h.links.2.1; have n6 := h.hosts.2.1
  unfold maxLen at n1 n2 n3 n4 n5 n6
  have KW := Lib.hid (Below.refl W.heap.size W)
  have hlw : w.heap.size < W.heap.size := HX.out.lt
  clear B0 h hr
  obtain ⟨f0, f1, f2, f3, f4, f5, f6⟩ := HF.out W KW.out
  rw [hW] at f0 f1 f2 f3 f4 f5 f6
  go_enter Tryz.func96, Tryz.ntmps96
  go_wp2_with (fail)
  rw [← hW]
  clear hW f0 f1 f2 f3 f4 f5 f6
  go_at_call 127
  refine (HV.out W HA.out).mono ?_
  rintro e w1 ⟨⟨f, rfl⟩, b1⟩
  have K1 := Lib.hid b1
  clear b1
  go_wp2_with (fail)
  go_ret
  exact ⟨rfl, below_join HB0.out K1.out HB0.out.size⟩
end Go.Proofs.YtbbadnlaelgmlaaGreat
