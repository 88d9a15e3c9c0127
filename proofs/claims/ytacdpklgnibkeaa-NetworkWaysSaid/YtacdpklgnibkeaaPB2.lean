/-
  DERIVED. Several texts in one.
-/
import Derived.Test.YtacdpklgnibkeaaPB1
import Derived.RegionTactic
import Derived.Deep.RegionHeld3
import Derived.Laws.EntriesVeiled
import Derived.Test.YtacdpklgnibkeaaRows
import Derived.Handed
import Derived.OpenShut
import Derived.Deep.Fields
import Derived.Deep.Slices
import Derived.ChangeSame
import Derived.ChangeSlices
set_option linter.unusedVariables false
set_option linter.unusedSimpArgs false

namespace Go.Proofs.Ytacdpklgnibkeaa
open Go.RowKit
set_option maxRecDepth 100000
set_option linter.unusedVariables false
set_option linter.unusedSimpArgs false

set_option maxHeartbeats 2000000 in
theorem c_within (n lo hi : Int) (r : Bool) (hr : inB n lo hi = r) (w : World) : Calls Try.prog 49 #[.int .i64 n, .int .i64 lo, .int .i64 hi] w fun e w' => e = .returned (.bool r) ∧ w' = w := by
  unfold inB at hr
  rcases h1 : decide (lo ≤ n) with _ | _
  · rw [h1] at hr
    obtain rfl : false = r := hr
    go_enter Try.func49, Try.ntmps49
    go_wp2
    go_ret
    exact ⟨rfl, rfl⟩
  · rw [h1] at hr
    obtain rfl : decide (n ≤ hi) = r := hr
    go_enter Try.func49, Try.ntmps49
    go_wp2
    go_ret
    exact ⟨rfl, rfl⟩
set_option maxHeartbeats 16000000 in
theorem c_power (p : SP) (s : SiteD) (r : Bool) (hr : pwOk s = r) (w : World) (h : SiAt w p s) :
    Calls Try.prog 47 #[siV p s] w fun e w' => e = .returned (.bool r) ∧ Below w.heap.size w w' := by
  unfold siV
  obtain ⟨W, hW⟩ : ∃ W, W = w.alloc (.cells #[.slice p.a1 s.feeds.length p.c1, .slice p.a2 s.brks.length p.c2, .slice p.a3 s.loops.length p.c3, .slice p.a4 s.racks.length p.c4, .int .i64 s.sw, .slice p.a5 s.links.length p.c5, .slice p.a6 s.hosts.length p.c6] 29) := ⟨_, rfl⟩
  have B0 : Below w.heap.size w W := by subst hW; exact (Below.refl _ _).alloc (Nat.le_refl _) _
  have HB0 := Lib.hid B0
  have HX := Lib.hid (show SiBox W w.heap.size p s by subst hW; exact siBox_new _ _ _)
  have HA := Lib.hid (h.on B0 (Nat.le_refl _))
  have HF := Lib.hid (fun (X : World) (hX : Below W.heap.size W X) => (let z := HX.out.on hX (Nat.le_refl _); ⟨z.c0, z.c1, z.c2, z.c3, z.c4, z.c5, z.c6⟩ : X.cell? ⟨w.heap.size, 0, none⟩ = some (.slice p.a1 s.feeds.length p.c1) ∧ X.cell? ⟨w.heap.size, 1, none⟩ = some (.slice p.a2 s.brks.length p.c2) ∧ X.cell? ⟨w.heap.size, 2, none⟩ = some (.slice p.a3 s.loops.length p.c3) ∧ X.cell? ⟨w.heap.size, 3, none⟩ = some (.slice p.a4 s.racks.length p.c4) ∧ X.cell? ⟨w.heap.size, 4, none⟩ = some (.int .i64 s.sw) ∧ X.cell? ⟨w.heap.size, 5, none⟩ = some (.slice p.a5 s.links.length p.c5) ∧ X.cell? ⟨w.heap.size, 6, none⟩ = some (.slice p.a6 s.hosts.length p.c6)))
  have m1 := h.feeds.1; have m2 := h.brks.1; have m3 := h.loops.1; have m4 := h.racks.1; have m5 := h.links.1; have m6 := h.hosts.1
  have n1 := h.feeds.2.1; have n2 := h.brks.2.1; have n3 := h.loops.2.1; have n4 := h.racks.2.1; have n5 := h.links.2.1; have n6 := h.hosts.2.1
  unfold maxLen at n1 n2 n3 n4 n5 n6
  have KW := Lib.hid (Below.refl W.heap.size W)
  have HR := Lib.hid hr
  have hlw : w.heap.size < W.heap.size := HX.out.lt
  clear B0 hr h
  obtain ⟨f0, f1, f2, f3, f4, f5, f6⟩ := HF.out W KW.out
  rw [hW] at f0 f1 f2 f3 f4 f5 f6
  go_enter Try.func47, Try.ntmps47
  obtain ⟨r0, h0⟩ : ∃ b, inB (s.feeds.length : Int) 1 4 = b := ⟨_, rfl⟩
  have P0 := Lib.hid h0
  clear h0
  go_wp2_with (fail)
  rw [← hW] at f0 f1 f2 f3 f4 f5 f6 ⊢
  clear hW
  go_at_call 49
  refine (c_within (s.feeds.length : Int) 1 4 r0 P0.out W).mono ?_
  rintro e w0 ⟨rfl, hw0⟩
  rw [hw0]
  clear hw0
  cases r0
  · obtain rfl : false = r := by have h := HR.out; unfold pwOk at h; rw [show inB (s.feeds.length : Int) 1 4 = false from P0.out] at h; exact h
    go_wp2_with (fail)
    go_ret
    exact ⟨rfl, below_join HB0.out KW.out HB0.out.size⟩
  obtain ⟨r1, h1⟩ : ∃ b, inB (s.brks.length : Int) 1 8 = b := ⟨_, rfl⟩
  have P1 := Lib.hid h1
  clear h1
  go_wp2_with (fail)
  go_at_call 49
  refine (c_within (s.brks.length : Int) 1 8 r1 P1.out W).mono ?_
  rintro e w1 ⟨rfl, hw1⟩
  rw [hw1]
  clear hw1
  cases r1
  · obtain rfl : false = r := by have h := HR.out; unfold pwOk at h; rw [show inB (s.feeds.length : Int) 1 4 = true from P0.out, show inB (s.brks.length : Int) 1 8 = false from P1.out] at h; exact h
    go_wp2_with (fail)
    go_ret
    exact ⟨rfl, below_join HB0.out KW.out HB0.out.size⟩
  have HQ := Lib.hid (show (s.feeds.all feedIn && s.brks.all (brkIn s.feeds.length)) = r by have h := HR.out; unfold pwOk at h; rw [show inB (s.feeds.length : Int) 1 4 = true from P0.out, show inB (s.brks.length : Int) 1 8 = true from P1.out] at h; exact h)
  go_wp2_with (fail)
  clear f0 f1 f2 f3 f4 f5 f6
  go_loopw [3] (fun i wr => ∃ k : Nat, k ≤ s.feeds.length ∧ i = .int .i64 (k : Int) ∧ Hid (Below W.heap.size W wr) ∧ Hid ((s.feeds.take k).all feedIn = true)) (fun i _ => s.feeds.length - (intOf i).toNat)
  case atStart => exact ⟨0, Nat.zero_le _, rfl, KW, Lib.hid rfl⟩
  case round =>
    obtain ⟨k, hk, rfl, hB, hall⟩ := hrel
    have hki : ((k : Nat) : Int).toNat = k := by omega
    obtain ⟨f0, f1, f2, f3, f4, f5, f6⟩ := HF.out wr hB.out
    by_cases hlt : k < s.feeds.length
    · obtain ⟨z0, hx⟩ : ∃ x, s.feeds[k]? = some x := ⟨_, List.getElem?_eq_getElem hlt⟩
      have HK := (HA.out.on hB.out (Nat.le_refl _)).feeds
      obtain ⟨pb, po, hpe, hpl, -⟩ := HK.at_ hx
      rw [hpe] at HK f0
      obtain y0 := rwFeed HK hx
      have HXX := Lib.hid hx
      have hlt' : (k : Int) < ((s.feeds.length : Nat) : Int) := by omega
      clear hx HK hpe
      have HG := Lib.hid (show feedIn z0 = (inB z0 0 1000000) from rfl)
      obtain ⟨r0, h0⟩ : ∃ b, inB z0 0 1000000 = b := ⟨_, rfl⟩
      have Q0 := Lib.hid h0
      clear h0
      go_wp2_with (fail)
      go_at_call 49
      refine (c_within z0 0 1000000 r0 Q0.out wr).mono ?_
      rintro e w0 ⟨rfl, hw0⟩
      rw [hw0]
      clear hw0
      cases r0
      · have hf := all_false HXX.out (show feedIn z0 = false by rw [HG.out, show (inB z0 0 1000000) = false from Q0.out] <;> rfl)
        obtain rfl : false = r := by have h := HQ.out; rw [hf] at h; exact h
        go_wp2_with (fail)
        go_ret
        exact ⟨rfl, below_join HB0.out hB.out HB0.out.size⟩
      have HAL := Lib.hid (all_take_succ HXX.out hall.out (show feedIn z0 = true by rw [HG.out, show (inB z0 0 1000000) = true from Q0.out] <;> rfl))
      go_wp2_with (fail)
      go_roundw
      case rel => exact ⟨k + 1, by omega, by go_num, hB, HAL⟩
      case measure => simp only [intOf]; omega
    · obtain rfl : k = s.feeds.length := by omega
      have A_feeds := Lib.hid (show s.feeds.all feedIn = true by have h := hall.out; rwa [List.take_length] at h)
      obtain ⟨U_feeds, hU⟩ : ∃ z, z = wr := ⟨_, rfl⟩
      subst hU
      have K_feeds := hB
      clear hall hB hlt hk hki
      go_wp2_with (fail)
      clear f0 f1 f2 f3 f4 f5 f6
      go_loopw [4] (fun i wr => ∃ k : Nat, k ≤ s.brks.length ∧ i = .int .i64 (k : Int) ∧ Hid (Below W.heap.size W wr) ∧ Hid ((s.brks.take k).all (brkIn s.feeds.length) = true)) (fun i _ => s.brks.length - (intOf i).toNat)
      case atStart => exact ⟨0, Nat.zero_le _, rfl, K_feeds, Lib.hid rfl⟩
      case round =>
        obtain ⟨k, hk, rfl, hB, hall⟩ := hrel
        have hki : ((k : Nat) : Int).toNat = k := by omega
        obtain ⟨f0, f1, f2, f3, f4, f5, f6⟩ := HF.out wr hB.out
        by_cases hlt : k < s.brks.length
        · obtain ⟨⟨z0, z1, z2, z3⟩, hx⟩ : ∃ x, s.brks[k]? = some x := ⟨_, List.getElem?_eq_getElem hlt⟩
          have HK := (HA.out.on hB.out (Nat.le_refl _)).brks
          obtain ⟨pb, po, hpe, hpl, -⟩ := HK.at_ hx
          rw [hpe] at HK f1
          obtain ⟨y0, y1, y2, y3⟩ := rwBreaker HK hx
          have HXX := Lib.hid hx
          have hlt' : (k : Int) < ((s.brks.length : Nat) : Int) := by omega
          clear hx HK hpe
          obtain ⟨V, hV⟩ : ∃ V, V = wr.alloc (.cells #[.int .i64 z0, .int .i64 z1, .int .i64 z2, .int .i64 z3] 59) := ⟨_, rfl⟩
          have hBV : Below W.heap.size W V := by subst hV; exact hB.out.alloc hB.out.size _
          have HBV := Lib.hid hBV
          have HVA := Lib.hid (show V.heap[wr.heap.size]? = some (.cells #[.int .i64 z0, .int .i64 z1, .int .i64 z2, .int .i64 z3] 59 (0, 0)) by subst hV; exact heap_alloc_new _ _)
          have hzw : W.heap.size ≤ wr.heap.size := hB.out.size
          clear hBV
          obtain ⟨g0, g1, g2, g3, g4, g5, g6⟩ := HF.out V HBV.out
          have v0 : V.cell? ⟨wr.heap.size, 0, none⟩ = some (.int .i64 z0) := cell_of HVA.out rfl
          have v1 : V.cell? ⟨wr.heap.size, 1, none⟩ = some (.int .i64 z1) := cell_of HVA.out rfl
          have v2 : V.cell? ⟨wr.heap.size, 2, none⟩ = some (.int .i64 z2) := cell_of HVA.out rfl
          have v3 : V.cell? ⟨wr.heap.size, 3, none⟩ = some (.int .i64 z3) := cell_of HVA.out rfl
          rw [hV] at g0 g1 g2 g3 g4 g5 g6 v0 v1 v2 v3
          have HG := Lib.hid (show (brkIn s.feeds.length) ⟨z0, z1, z2, z3⟩ = (inB z0 0 ((s.feeds.length : Int) - 1) && (inB z1 0 1000000 && (inB z2 0 1000000 && (inB z3 0 1000000)))) from rfl)
          obtain ⟨r0, h0⟩ : ∃ b, inB z0 0 ((s.feeds.length : Int) - 1) = b := ⟨_, rfl⟩
          have Q0 := Lib.hid h0
          clear h0
          go_wp2_with (fail)
          rw [← hV] at g0 g1 g2 g3 g4 g5 g6 v0 v1 v2 v3 ⊢
          clear hV y0 y1 y2 y3 f0 f1 f2 f3 f4 f5 f6
          go_at_call 49
          refine (c_within z0 0 ((s.feeds.length : Int) - 1) r0 Q0.out V).mono ?_
          rintro e w0 ⟨rfl, hw0⟩
          rw [hw0]
          clear hw0
          cases r0
          · have hf := all_false HXX.out (show (brkIn s.feeds.length) ⟨z0, z1, z2, z3⟩ = false by rw [HG.out, show (inB z0 0 ((s.feeds.length : Int) - 1)) = false from Q0.out] <;> rfl)
            obtain rfl : false = r := by have h := HQ.out; rw [A_feeds.out, hf] at h; exact h
            go_wp2_with (fail)
            go_ret
            exact ⟨rfl, below_join HB0.out HBV.out HB0.out.size⟩
          obtain ⟨r1, h1⟩ : ∃ b, inB z1 0 1000000 = b := ⟨_, rfl⟩
          have Q1 := Lib.hid h1
          clear h1
          go_wp2_with (fail)
          go_at_call 49
          refine (c_within z1 0 1000000 r1 Q1.out V).mono ?_
          rintro e w1 ⟨rfl, hw1⟩
          rw [hw1]
          clear hw1
          cases r1
          · have hf := all_false HXX.out (show (brkIn s.feeds.length) ⟨z0, z1, z2, z3⟩ = false by rw [HG.out, show (inB z0 0 ((s.feeds.length : Int) - 1)) = true from Q0.out, show (inB z1 0 1000000) = false from Q1.out] <;> rfl)
            obtain rfl : false = r := by have h := HQ.out; rw [A_feeds.out, hf] at h; exact h
            go_wp2_with (fail)
            go_ret
            exact ⟨rfl, below_join HB0.out HBV.out HB0.out.size⟩
          obtain ⟨r2, h2⟩ : ∃ b, inB z2 0 1000000 = b := ⟨_, rfl⟩
          have Q2 := Lib.hid h2
          clear h2
          go_wp2_with (fail)
          go_at_call 49
          refine (c_within z2 0 1000000 r2 Q2.out V).mono ?_
          rintro e w2 ⟨rfl, hw2⟩
          rw [hw2]
          clear hw2
          cases r2
          · have hf := all_false HXX.out (show (brkIn s.feeds.length) ⟨z0, z1, z2, z3⟩ = false by rw [HG.out, show (inB z0 0 ((s.feeds.length : Int) - 1)) = true from Q0.out, show (inB z1 0 1000000) = true from Q1.out, show (inB z2 0 1000000) = false from Q2.out] <;> rfl)
            obtain rfl : false = r := by have h := HQ.out; rw [A_feeds.out, hf] at h; exact h
            go_wp2_with (fail)
            go_ret
            exact ⟨rfl, below_join HB0.out HBV.out HB0.out.size⟩
          obtain ⟨r3, h3⟩ : ∃ b, inB z3 0 1000000 = b := ⟨_, rfl⟩
          have Q3 := Lib.hid h3
          clear h3
          go_wp2_with (fail)
          go_at_call 49
          refine (c_within z3 0 1000000 r3 Q3.out V).mono ?_
          rintro e w3 ⟨rfl, hw3⟩
          rw [hw3]
          clear hw3
          cases r3
          · have hf := all_false HXX.out (show (brkIn s.feeds.length) ⟨z0, z1, z2, z3⟩ = false by rw [HG.out, show (inB z0 0 ((s.feeds.length : Int) - 1)) = true from Q0.out, show (inB z1 0 1000000) = true from Q1.out, show (inB z2 0 1000000) = true from Q2.out, show (inB z3 0 1000000) = false from Q3.out] <;> rfl)
            obtain rfl : false = r := by have h := HQ.out; rw [A_feeds.out, hf] at h; exact h
            go_wp2_with (fail)
            go_ret
            exact ⟨rfl, below_join HB0.out HBV.out HB0.out.size⟩
          have HAL := Lib.hid (all_take_succ HXX.out hall.out (show (brkIn s.feeds.length) ⟨z0, z1, z2, z3⟩ = true by rw [HG.out, show (inB z0 0 ((s.feeds.length : Int) - 1)) = true from Q0.out, show (inB z1 0 1000000) = true from Q1.out, show (inB z2 0 1000000) = true from Q2.out, show (inB z3 0 1000000) = true from Q3.out] <;> rfl))
          go_wp2_with (fail)
          go_roundw
          case rel => exact ⟨k + 1, by omega, by go_num, HBV, HAL⟩
          case measure => simp only [intOf]; omega
        · obtain rfl : k = s.brks.length := by omega
          have A_brks := Lib.hid (show s.brks.all (brkIn s.feeds.length) = true by have h := hall.out; rwa [List.take_length] at h)
          obtain ⟨U_brks, hU⟩ : ∃ z, z = wr := ⟨_, rfl⟩
          subst hU
          have K_brks := hB
          clear hall hB hlt hk hki
          obtain rfl : true = r := by have h := HQ.out; rw [A_feeds.out, A_brks.out] at h; exact h
          go_wp2_with (fail)
          go_ret
          exact ⟨rfl, below_join HB0.out K_brks.out HB0.out.size⟩
set_option maxHeartbeats 16000000 in
theorem c_rooms (p : SP) (s : SiteD) (r : Bool) (hr : rmOk s = r) (w : World) (h : SiAt w p s) :
    Calls Try.prog 48 #[siV p s] w fun e w' => e = .returned (.bool r) ∧ Below w.heap.size w w' := by
  unfold siV
  obtain ⟨W, hW⟩ : ∃ W, W = w.alloc (.cells #[.slice p.a1 s.feeds.length p.c1, .slice p.a2 s.brks.length p.c2, .slice p.a3 s.loops.length p.c3, .slice p.a4 s.racks.length p.c4, .int .i64 s.sw, .slice p.a5 s.links.length p.c5, .slice p.a6 s.hosts.length p.c6] 29) := ⟨_, rfl⟩
  have B0 : Below w.heap.size w W := by subst hW; exact (Below.refl _ _).alloc (Nat.le_refl _) _
  have HB0 := Lib.hid B0
  have HX := Lib.hid (show SiBox W w.heap.size p s by subst hW; exact siBox_new _ _ _)
  have HA := Lib.hid (h.on B0 (Nat.le_refl _))
  have HF := Lib.hid (fun (X : World) (hX : Below W.heap.size W X) => (let z := HX.out.on hX (Nat.le_refl _); ⟨z.c0, z.c1, z.c2, z.c3, z.c4, z.c5, z.c6⟩ : X.cell? ⟨w.heap.size, 0, none⟩ = some (.slice p.a1 s.feeds.length p.c1) ∧ X.cell? ⟨w.heap.size, 1, none⟩ = some (.slice p.a2 s.brks.length p.c2) ∧ X.cell? ⟨w.heap.size, 2, none⟩ = some (.slice p.a3 s.loops.length p.c3) ∧ X.cell? ⟨w.heap.size, 3, none⟩ = some (.slice p.a4 s.racks.length p.c4) ∧ X.cell? ⟨w.heap.size, 4, none⟩ = some (.int .i64 s.sw) ∧ X.cell? ⟨w.heap.size, 5, none⟩ = some (.slice p.a5 s.links.length p.c5) ∧ X.cell? ⟨w.heap.size, 6, none⟩ = some (.slice p.a6 s.hosts.length p.c6)))
  have m1 := h.feeds.1; have m2 := h.brks.1; have m3 := h.loops.1; have m4 := h.racks.1; have m5 := h.links.1; have m6 := h.hosts.1
  have n1 := h.feeds.2.1; have n2 := h.brks.2.1; have n3 := h.loops.2.1; have n4 := h.racks.2.1; have n5 := h.links.2.1; have n6 := h.hosts.2.1
  unfold maxLen at n1 n2 n3 n4 n5 n6
  have KW := Lib.hid (Below.refl W.heap.size W)
  have HR := Lib.hid hr
  have hlw : w.heap.size < W.heap.size := HX.out.lt
  clear B0 hr h
  obtain ⟨f0, f1, f2, f3, f4, f5, f6⟩ := HF.out W KW.out
  rw [hW] at f0 f1 f2 f3 f4 f5 f6
  go_enter Try.func48, Try.ntmps48
  obtain ⟨r0, h0⟩ : ∃ b, inB (s.loops.length : Int) 1 4 = b := ⟨_, rfl⟩
  have P0 := Lib.hid h0
  clear h0
  go_wp2_with (fail)
  rw [← hW] at f0 f1 f2 f3 f4 f5 f6 ⊢
  clear hW
  go_at_call 49
  refine (c_within (s.loops.length : Int) 1 4 r0 P0.out W).mono ?_
  rintro e w0 ⟨rfl, hw0⟩
  rw [hw0]
  clear hw0
  cases r0
  · obtain rfl : false = r := by have h := HR.out; unfold rmOk at h; rw [show inB (s.loops.length : Int) 1 4 = false from P0.out] at h; exact h
    go_wp2_with (fail)
    go_ret
    exact ⟨rfl, below_join HB0.out KW.out HB0.out.size⟩
  obtain ⟨r1, h1⟩ : ∃ b, inB s.sw 1 8 = b := ⟨_, rfl⟩
  have P1 := Lib.hid h1
  clear h1
  go_wp2_with (fail)
  go_at_call 49
  refine (c_within s.sw 1 8 r1 P1.out W).mono ?_
  rintro e w1 ⟨rfl, hw1⟩
  rw [hw1]
  clear hw1
  cases r1
  · obtain rfl : false = r := by have h := HR.out; unfold rmOk at h; rw [show inB (s.loops.length : Int) 1 4 = true from P0.out, show inB s.sw 1 8 = false from P1.out] at h; exact h
    go_wp2_with (fail)
    go_ret
    exact ⟨rfl, below_join HB0.out KW.out HB0.out.size⟩
  obtain ⟨r2, h2⟩ : ∃ b, inB (s.racks.length : Int) 1 8 = b := ⟨_, rfl⟩
  have P2 := Lib.hid h2
  clear h2
  go_wp2_with (fail)
  go_at_call 49
  refine (c_within (s.racks.length : Int) 1 8 r2 P2.out W).mono ?_
  rintro e w2 ⟨rfl, hw2⟩
  rw [hw2]
  clear hw2
  cases r2
  · obtain rfl : false = r := by have h := HR.out; unfold rmOk at h; rw [show inB (s.loops.length : Int) 1 4 = true from P0.out, show inB s.sw 1 8 = true from P1.out, show inB (s.racks.length : Int) 1 8 = false from P2.out] at h; exact h
    go_wp2_with (fail)
    go_ret
    exact ⟨rfl, below_join HB0.out KW.out HB0.out.size⟩
  rcases h3 : decide (16 < (s.links.length : Int)) with _ | _
  rotate_left
  · obtain rfl : false = r := by have h := HR.out; unfold rmOk at h; rw [show inB (s.loops.length : Int) 1 4 = true from P0.out, show inB s.sw 1 8 = true from P1.out, show inB (s.racks.length : Int) 1 8 = true from P2.out, h3] at h; exact h
    go_wp2_with (fail)
    go_ret
    exact ⟨rfl, below_join HB0.out KW.out HB0.out.size⟩
  have P3 := Lib.hid h3
  have HQ := Lib.hid (show (s.loops.all lpIn && (s.racks.all (rkIn s.brks.length s.loops.length s.sw) && s.links.all (lkIn s.sw))) = r by have h := HR.out; unfold rmOk at h; rw [show inB (s.loops.length : Int) 1 4 = true from P0.out, show inB s.sw 1 8 = true from P1.out, show inB (s.racks.length : Int) 1 8 = true from P2.out, show decide (16 < (s.links.length : Int)) = false from P3.out] at h; exact h)
  have hsw := inB_iff.1 P1.out
  go_wp2_with (fail)
  clear f0 f1 f2 f3 f4 f5 f6
  go_loopw [3] (fun i wr => ∃ k : Nat, k ≤ s.loops.length ∧ i = .int .i64 (k : Int) ∧ Hid (Below W.heap.size W wr) ∧ Hid ((s.loops.take k).all lpIn = true)) (fun i _ => s.loops.length - (intOf i).toNat)
  case atStart => exact ⟨0, Nat.zero_le _, rfl, KW, Lib.hid rfl⟩
  case round =>
    obtain ⟨k, hk, rfl, hB, hall⟩ := hrel
    have hki : ((k : Nat) : Int).toNat = k := by omega
    obtain ⟨f0, f1, f2, f3, f4, f5, f6⟩ := HF.out wr hB.out
    by_cases hlt : k < s.loops.length
    · obtain ⟨⟨z0, z1⟩, hx⟩ : ∃ x, s.loops[k]? = some x := ⟨_, List.getElem?_eq_getElem hlt⟩
      have HK := (HA.out.on hB.out (Nat.le_refl _)).loops
      obtain ⟨pb, po, hpe, hpl, -⟩ := HK.at_ hx
      rw [hpe] at HK f2
      obtain ⟨y0, y1⟩ := rwLoop HK hx
      have HXX := Lib.hid hx
      have hlt' : (k : Int) < ((s.loops.length : Nat) : Int) := by omega
      clear hx HK hpe
      have HG := Lib.hid (show lpIn ⟨z0, z1⟩ = (inB z0 0 1000000 && (inB z1 0 100)) from rfl)
      obtain ⟨r0, h0⟩ : ∃ b, inB z0 0 1000000 = b := ⟨_, rfl⟩
      have Q0 := Lib.hid h0
      clear h0
      go_wp2_with (fail)
      go_at_call 49
      refine (c_within z0 0 1000000 r0 Q0.out wr).mono ?_
      rintro e w0 ⟨rfl, hw0⟩
      rw [hw0]
      clear hw0
      cases r0
      · have hf := all_false HXX.out (show lpIn ⟨z0, z1⟩ = false by rw [HG.out, show (inB z0 0 1000000) = false from Q0.out] <;> rfl)
        obtain rfl : false = r := by have h := HQ.out; rw [hf] at h; exact h
        go_wp2_with (fail)
        go_ret
        exact ⟨rfl, below_join HB0.out hB.out HB0.out.size⟩
      obtain ⟨r1, h1⟩ : ∃ b, inB z1 0 100 = b := ⟨_, rfl⟩
      have Q1 := Lib.hid h1
      clear h1
      go_wp2_with (fail)
      go_at_call 49
      refine (c_within z1 0 100 r1 Q1.out wr).mono ?_
      rintro e w1 ⟨rfl, hw1⟩
      rw [hw1]
      clear hw1
      cases r1
      · have hf := all_false HXX.out (show lpIn ⟨z0, z1⟩ = false by rw [HG.out, show (inB z0 0 1000000) = true from Q0.out, show (inB z1 0 100) = false from Q1.out] <;> rfl)
        obtain rfl : false = r := by have h := HQ.out; rw [hf] at h; exact h
        go_wp2_with (fail)
        go_ret
        exact ⟨rfl, below_join HB0.out hB.out HB0.out.size⟩
      have HAL := Lib.hid (all_take_succ HXX.out hall.out (show lpIn ⟨z0, z1⟩ = true by rw [HG.out, show (inB z0 0 1000000) = true from Q0.out, show (inB z1 0 100) = true from Q1.out] <;> rfl))
      go_wp2_with (fail)
      go_roundw
      case rel => exact ⟨k + 1, by omega, by go_num, hB, HAL⟩
      case measure => simp only [intOf]; omega
    · obtain rfl : k = s.loops.length := by omega
      have A_loops := Lib.hid (show s.loops.all lpIn = true by have h := hall.out; rwa [List.take_length] at h)
      obtain ⟨U_loops, hU⟩ : ∃ z, z = wr := ⟨_, rfl⟩
      subst hU
      have K_loops := hB
      clear hall hB hlt hk hki
      go_wp2_with (fail)
      clear f0 f1 f2 f3 f4 f5 f6
      go_loopw [4] (fun i wr => ∃ k : Nat, k ≤ s.racks.length ∧ i = .int .i64 (k : Int) ∧ Hid (Below W.heap.size W wr) ∧ Hid ((s.racks.take k).all (rkIn s.brks.length s.loops.length s.sw) = true)) (fun i _ => s.racks.length - (intOf i).toNat)
      case atStart => exact ⟨0, Nat.zero_le _, rfl, K_loops, Lib.hid rfl⟩
      case round =>
        obtain ⟨k, hk, rfl, hB, hall⟩ := hrel
        have hki : ((k : Nat) : Int).toNat = k := by omega
        obtain ⟨f0, f1, f2, f3, f4, f5, f6⟩ := HF.out wr hB.out
        by_cases hlt : k < s.racks.length
        · obtain ⟨⟨z0, z1, z2, z3⟩, hx⟩ : ∃ x, s.racks[k]? = some x := ⟨_, List.getElem?_eq_getElem hlt⟩
          have HK := (HA.out.on hB.out (Nat.le_refl _)).racks
          obtain ⟨pb, po, hpe, hpl, -⟩ := HK.at_ hx
          rw [hpe] at HK f3
          obtain ⟨y0, y1, y2, y3⟩ := rwRack HK hx
          have HXX := Lib.hid hx
          have hlt' : (k : Int) < ((s.racks.length : Nat) : Int) := by omega
          clear hx HK hpe
          obtain ⟨V, hV⟩ : ∃ V, V = wr.alloc (.cells #[.int .i64 z0, .int .i64 z1, .int .i64 z2, .int .i64 z3] 52) := ⟨_, rfl⟩
          have hBV : Below W.heap.size W V := by subst hV; exact hB.out.alloc hB.out.size _
          have HBV := Lib.hid hBV
          have HVA := Lib.hid (show V.heap[wr.heap.size]? = some (.cells #[.int .i64 z0, .int .i64 z1, .int .i64 z2, .int .i64 z3] 52 (0, 0)) by subst hV; exact heap_alloc_new _ _)
          have hzw : W.heap.size ≤ wr.heap.size := hB.out.size
          clear hBV
          obtain ⟨g0, g1, g2, g3, g4, g5, g6⟩ := HF.out V HBV.out
          have v0 : V.cell? ⟨wr.heap.size, 0, none⟩ = some (.int .i64 z0) := cell_of HVA.out rfl
          have v1 : V.cell? ⟨wr.heap.size, 1, none⟩ = some (.int .i64 z1) := cell_of HVA.out rfl
          have v2 : V.cell? ⟨wr.heap.size, 2, none⟩ = some (.int .i64 z2) := cell_of HVA.out rfl
          have v3 : V.cell? ⟨wr.heap.size, 3, none⟩ = some (.int .i64 z3) := cell_of HVA.out rfl
          rw [hV] at g0 g1 g2 g3 g4 g5 g6 v0 v1 v2 v3
          have HG := Lib.hid (show (rkIn s.brks.length s.loops.length s.sw) ⟨z0, z1, z2, z3⟩ = (inB z0 0 3 && (inB z1 0 ((s.brks.length : Int) - 1) && (inB z2 0 ((s.loops.length : Int) - 1) && (inB z3 0 (s.sw - 1))))) from rfl)
          obtain ⟨r0, h0⟩ : ∃ b, inB z0 0 3 = b := ⟨_, rfl⟩
          have Q0 := Lib.hid h0
          clear h0
          go_wp2_with (fail)
          rw [← hV] at g0 g1 g2 g3 g4 g5 g6 v0 v1 v2 v3 ⊢
          clear hV y0 y1 y2 y3 f0 f1 f2 f3 f4 f5 f6
          go_at_call 49
          refine (c_within z0 0 3 r0 Q0.out V).mono ?_
          rintro e w0 ⟨rfl, hw0⟩
          rw [hw0]
          clear hw0
          cases r0
          · have hf := all_false HXX.out (show (rkIn s.brks.length s.loops.length s.sw) ⟨z0, z1, z2, z3⟩ = false by rw [HG.out, show (inB z0 0 3) = false from Q0.out] <;> rfl)
            obtain rfl : false = r := by have h := HQ.out; rw [A_loops.out, hf] at h; exact h
            go_wp2_with (fail)
            go_ret
            exact ⟨rfl, below_join HB0.out HBV.out HB0.out.size⟩
          obtain ⟨r1, h1⟩ : ∃ b, inB z1 0 ((s.brks.length : Int) - 1) = b := ⟨_, rfl⟩
          have Q1 := Lib.hid h1
          clear h1
          go_wp2_with (fail)
          go_at_call 49
          refine (c_within z1 0 ((s.brks.length : Int) - 1) r1 Q1.out V).mono ?_
          rintro e w1 ⟨rfl, hw1⟩
          rw [hw1]
          clear hw1
          cases r1
          · have hf := all_false HXX.out (show (rkIn s.brks.length s.loops.length s.sw) ⟨z0, z1, z2, z3⟩ = false by rw [HG.out, show (inB z0 0 3) = true from Q0.out, show (inB z1 0 ((s.brks.length : Int) - 1)) = false from Q1.out] <;> rfl)
            obtain rfl : false = r := by have h := HQ.out; rw [A_loops.out, hf] at h; exact h
            go_wp2_with (fail)
            go_ret
            exact ⟨rfl, below_join HB0.out HBV.out HB0.out.size⟩
          obtain ⟨r2, h2⟩ : ∃ b, inB z2 0 ((s.loops.length : Int) - 1) = b := ⟨_, rfl⟩
          have Q2 := Lib.hid h2
          clear h2
          go_wp2_with (fail)
          go_at_call 49
          refine (c_within z2 0 ((s.loops.length : Int) - 1) r2 Q2.out V).mono ?_
          rintro e w2 ⟨rfl, hw2⟩
          rw [hw2]
          clear hw2
          cases r2
          · have hf := all_false HXX.out (show (rkIn s.brks.length s.loops.length s.sw) ⟨z0, z1, z2, z3⟩ = false by rw [HG.out, show (inB z0 0 3) = true from Q0.out, show (inB z1 0 ((s.brks.length : Int) - 1)) = true from Q1.out, show (inB z2 0 ((s.loops.length : Int) - 1)) = false from Q2.out] <;> rfl)
            obtain rfl : false = r := by have h := HQ.out; rw [A_loops.out, hf] at h; exact h
            go_wp2_with (fail)
            go_ret
            exact ⟨rfl, below_join HB0.out HBV.out HB0.out.size⟩
          obtain ⟨r3, h3⟩ : ∃ b, inB z3 0 (s.sw - 1) = b := ⟨_, rfl⟩
          have Q3 := Lib.hid h3
          clear h3
          go_wp2_with (fail)
          go_at_call 49
          refine (c_within z3 0 (s.sw - 1) r3 Q3.out V).mono ?_
          rintro e w3 ⟨rfl, hw3⟩
          rw [hw3]
          clear hw3
          cases r3
          · have hf := all_false HXX.out (show (rkIn s.brks.length s.loops.length s.sw) ⟨z0, z1, z2, z3⟩ = false by rw [HG.out, show (inB z0 0 3) = true from Q0.out, show (inB z1 0 ((s.brks.length : Int) - 1)) = true from Q1.out, show (inB z2 0 ((s.loops.length : Int) - 1)) = true from Q2.out, show (inB z3 0 (s.sw - 1)) = false from Q3.out] <;> rfl)
            obtain rfl : false = r := by have h := HQ.out; rw [A_loops.out, hf] at h; exact h
            go_wp2_with (fail)
            go_ret
            exact ⟨rfl, below_join HB0.out HBV.out HB0.out.size⟩
          have HAL := Lib.hid (all_take_succ HXX.out hall.out (show (rkIn s.brks.length s.loops.length s.sw) ⟨z0, z1, z2, z3⟩ = true by rw [HG.out, show (inB z0 0 3) = true from Q0.out, show (inB z1 0 ((s.brks.length : Int) - 1)) = true from Q1.out, show (inB z2 0 ((s.loops.length : Int) - 1)) = true from Q2.out, show (inB z3 0 (s.sw - 1)) = true from Q3.out] <;> rfl))
          go_wp2_with (fail)
          go_roundw
          case rel => exact ⟨k + 1, by omega, by go_num, HBV, HAL⟩
          case measure => simp only [intOf]; omega
        · obtain rfl : k = s.racks.length := by omega
          have A_racks := Lib.hid (show s.racks.all (rkIn s.brks.length s.loops.length s.sw) = true by have h := hall.out; rwa [List.take_length] at h)
          obtain ⟨U_racks, hU⟩ : ∃ z, z = wr := ⟨_, rfl⟩
          subst hU
          have K_racks := hB
          clear hall hB hlt hk hki
          go_wp2_with (fail)
          clear f0 f1 f2 f3 f4 f5 f6
          go_loopw [6] (fun i wr => ∃ k : Nat, k ≤ s.links.length ∧ i = .int .i64 (k : Int) ∧ Hid (Below W.heap.size W wr) ∧ Hid ((s.links.take k).all (lkIn s.sw) = true)) (fun i _ => s.links.length - (intOf i).toNat)
          case atStart => exact ⟨0, Nat.zero_le _, rfl, K_racks, Lib.hid rfl⟩
          case round =>
            obtain ⟨k, hk, rfl, hB, hall⟩ := hrel
            have hki : ((k : Nat) : Int).toNat = k := by omega
            obtain ⟨f0, f1, f2, f3, f4, f5, f6⟩ := HF.out wr hB.out
            by_cases hlt : k < s.links.length
            · obtain ⟨⟨z0, z1, z2⟩, hx⟩ : ∃ x, s.links[k]? = some x := ⟨_, List.getElem?_eq_getElem hlt⟩
              have HK := (HA.out.on hB.out (Nat.le_refl _)).links
              obtain ⟨pb, po, hpe, hpl, -⟩ := HK.at_ hx
              rw [hpe] at HK f5
              obtain ⟨y0, y1, y2⟩ := rwLink HK hx
              have HXX := Lib.hid hx
              have hlt' : (k : Int) < ((s.links.length : Nat) : Int) := by omega
              clear hx HK hpe
              obtain ⟨V, hV⟩ : ∃ V, V = wr.alloc (.cells #[.int .i64 z0, .int .i64 z1, .int .i64 z2] 39) := ⟨_, rfl⟩
              have hBV : Below W.heap.size W V := by subst hV; exact hB.out.alloc hB.out.size _
              have HBV := Lib.hid hBV
              have HVA := Lib.hid (show V.heap[wr.heap.size]? = some (.cells #[.int .i64 z0, .int .i64 z1, .int .i64 z2] 39 (0, 0)) by subst hV; exact heap_alloc_new _ _)
              have hzw : W.heap.size ≤ wr.heap.size := hB.out.size
              clear hBV
              obtain ⟨g0, g1, g2, g3, g4, g5, g6⟩ := HF.out V HBV.out
              have v0 : V.cell? ⟨wr.heap.size, 0, none⟩ = some (.int .i64 z0) := cell_of HVA.out rfl
              have v1 : V.cell? ⟨wr.heap.size, 1, none⟩ = some (.int .i64 z1) := cell_of HVA.out rfl
              have v2 : V.cell? ⟨wr.heap.size, 2, none⟩ = some (.int .i64 z2) := cell_of HVA.out rfl
              rw [hV] at g0 g1 g2 g3 g4 g5 g6 v0 v1 v2
              have HG := Lib.hid (show (lkIn s.sw) ⟨z0, z1, z2⟩ = (inB z0 0 (s.sw - 1) && (inB z1 0 (s.sw - 1) && (!(z0 == z1) && (inB z2 1 1000000)))) from rfl)
              obtain ⟨r0, h0⟩ : ∃ b, inB z0 0 (s.sw - 1) = b := ⟨_, rfl⟩
              have Q0 := Lib.hid h0
              clear h0
              go_wp2_with (fail)
              rw [← hV] at g0 g1 g2 g3 g4 g5 g6 v0 v1 v2 ⊢
              clear hV y0 y1 y2 f0 f1 f2 f3 f4 f5 f6
              go_at_call 49
              refine (c_within z0 0 (s.sw - 1) r0 Q0.out V).mono ?_
              rintro e w0 ⟨rfl, hw0⟩
              rw [hw0]
              clear hw0
              cases r0
              · have hf := all_false HXX.out (show (lkIn s.sw) ⟨z0, z1, z2⟩ = false by rw [HG.out, show (inB z0 0 (s.sw - 1)) = false from Q0.out] <;> rfl)
                obtain rfl : false = r := by have h := HQ.out; rw [A_loops.out, A_racks.out, hf] at h; exact h
                go_wp2_with (fail)
                go_ret
                exact ⟨rfl, below_join HB0.out HBV.out HB0.out.size⟩
              obtain ⟨r1, h1⟩ : ∃ b, inB z1 0 (s.sw - 1) = b := ⟨_, rfl⟩
              have Q1 := Lib.hid h1
              clear h1
              go_wp2_with (fail)
              go_at_call 49
              refine (c_within z1 0 (s.sw - 1) r1 Q1.out V).mono ?_
              rintro e w1 ⟨rfl, hw1⟩
              rw [hw1]
              clear hw1
              cases r1
              · have hf := all_false HXX.out (show (lkIn s.sw) ⟨z0, z1, z2⟩ = false by rw [HG.out, show (inB z0 0 (s.sw - 1)) = true from Q0.out, show (inB z1 0 (s.sw - 1)) = false from Q1.out] <;> rfl)
                obtain rfl : false = r := by have h := HQ.out; rw [A_loops.out, A_racks.out, hf] at h; exact h
                go_wp2_with (fail)
                go_ret
                exact ⟨rfl, below_join HB0.out HBV.out HB0.out.size⟩
              rcases q2 : (z0 == z1) with _ | _
              rotate_left
              · have hf := all_false HXX.out (show (lkIn s.sw) ⟨z0, z1, z2⟩ = false by rw [HG.out, show (inB z0 0 (s.sw - 1)) = true from Q0.out, show (inB z1 0 (s.sw - 1)) = true from Q1.out, q2] <;> rfl)
                obtain rfl : false = r := by have h := HQ.out; rw [A_loops.out, A_racks.out, hf] at h; exact h
                go_wp2_with (fail)
                go_ret
                exact ⟨rfl, below_join HB0.out HBV.out HB0.out.size⟩
              obtain ⟨r3, h3⟩ : ∃ b, inB z2 1 1000000 = b := ⟨_, rfl⟩
              have Q3 := Lib.hid h3
              clear h3
              go_wp2_with (fail)
              go_at_call 49
              refine (c_within z2 1 1000000 r3 Q3.out V).mono ?_
              rintro e w3 ⟨rfl, hw3⟩
              rw [hw3]
              clear hw3
              cases r3
              · have hf := all_false HXX.out (show (lkIn s.sw) ⟨z0, z1, z2⟩ = false by rw [HG.out, show (inB z0 0 (s.sw - 1)) = true from Q0.out, show (inB z1 0 (s.sw - 1)) = true from Q1.out, q2, show (inB z2 1 1000000) = false from Q3.out] <;> rfl)
                obtain rfl : false = r := by have h := HQ.out; rw [A_loops.out, A_racks.out, hf] at h; exact h
                go_wp2_with (fail)
                go_ret
                exact ⟨rfl, below_join HB0.out HBV.out HB0.out.size⟩
              have HAL := Lib.hid (all_take_succ HXX.out hall.out (show (lkIn s.sw) ⟨z0, z1, z2⟩ = true by rw [HG.out, show (inB z0 0 (s.sw - 1)) = true from Q0.out, show (inB z1 0 (s.sw - 1)) = true from Q1.out, q2, show (inB z2 1 1000000) = true from Q3.out] <;> rfl))
              go_wp2_with (fail)
              go_roundw
              case rel => exact ⟨k + 1, by omega, by go_num, HBV, HAL⟩
              case measure => simp only [intOf]; omega
            · obtain rfl : k = s.links.length := by omega
              have A_links := Lib.hid (show s.links.all (lkIn s.sw) = true by have h := hall.out; rwa [List.take_length] at h)
              obtain ⟨U_links, hU⟩ : ∃ z, z = wr := ⟨_, rfl⟩
              subst hU
              have K_links := hB
              clear hall hB hlt hk hki
              obtain rfl : true = r := by have h := HQ.out; rw [A_loops.out, A_racks.out, A_links.out] at h; exact h
              go_wp2_with (fail)
              go_ret
              exact ⟨rfl, below_join HB0.out K_links.out HB0.out.size⟩
set_option maxHeartbeats 16000000 in
theorem c_srValid (p : SP) (s : SiteD) (r : Bool) (hr : siteOk s = r) (w : World) (h : SiAt w p s) :
    Calls Try.prog 28 #[siV p s] w fun e w' => e = .returned (.bool r) ∧ Below w.heap.size w w' := by
  unfold siV
  obtain ⟨W, hW⟩ : ∃ W, W = w.alloc (.cells #[.slice p.a1 s.feeds.length p.c1, .slice p.a2 s.brks.length p.c2, .slice p.a3 s.loops.length p.c3, .slice p.a4 s.racks.length p.c4, .int .i64 s.sw, .slice p.a5 s.links.length p.c5, .slice p.a6 s.hosts.length p.c6] 29) := ⟨_, rfl⟩
  have B0 : Below w.heap.size w W := by subst hW; exact (Below.refl _ _).alloc (Nat.le_refl _) _
  have HB0 := Lib.hid B0
  have HX := Lib.hid (show SiBox W w.heap.size p s by subst hW; exact siBox_new _ _ _)
  have HA := Lib.hid (h.on B0 (Nat.le_refl _))
  have HF := Lib.hid (fun (X : World) (hX : Below W.heap.size W X) => (let z := HX.out.on hX (Nat.le_refl _); ⟨z.c0, z.c1, z.c2, z.c3, z.c4, z.c5, z.c6⟩ : X.cell? ⟨w.heap.size, 0, none⟩ = some (.slice p.a1 s.feeds.length p.c1) ∧ X.cell? ⟨w.heap.size, 1, none⟩ = some (.slice p.a2 s.brks.length p.c2) ∧ X.cell? ⟨w.heap.size, 2, none⟩ = some (.slice p.a3 s.loops.length p.c3) ∧ X.cell? ⟨w.heap.size, 3, none⟩ = some (.slice p.a4 s.racks.length p.c4) ∧ X.cell? ⟨w.heap.size, 4, none⟩ = some (.int .i64 s.sw) ∧ X.cell? ⟨w.heap.size, 5, none⟩ = some (.slice p.a5 s.links.length p.c5) ∧ X.cell? ⟨w.heap.size, 6, none⟩ = some (.slice p.a6 s.hosts.length p.c6)))
  have m1 := h.feeds.1; have m2 := h.brks.1; have m3 := h.loops.1; have m4 := h.racks.1; have m5 := h.links.1; have m6 := h.hosts.1
  have n1 := h.feeds.2.1; have n2 := h.brks.2.1; have n3 := h.loops.2.1; have n4 := h.racks.2.1; have n5 := h.links.2.1; have n6 := h.hosts.2.1
  unfold maxLen at n1 n2 n3 n4 n5 n6
  have KW := Lib.hid (Below.refl W.heap.size W)
  have HR := Lib.hid hr
  have hlw : w.heap.size < W.heap.size := HX.out.lt
  have HPW := Lib.hid (fun (q : Bool) (hq : pwOk s = q) => c_power p s q hq W HA.out)
  have HRM := Lib.hid (fun (q : Bool) (hq : rmOk s = q) (X : World) (hX : Below W.heap.size W X) => c_rooms p s q hq X (HA.out.on hX (Nat.le_refl _)))
  have HE := Lib.hid (ref_ok s)
  unfold siV at HPW HRM
  clear B0 hr h
  obtain ⟨f0, f1, f2, f3, f4, f5, f6⟩ := HF.out W KW.out
  rw [hW] at f0 f1 f2 f3 f4 f5 f6
  go_enter Try.func28, Try.ntmps28
  obtain ⟨r0, h0⟩ : ∃ b, pwOk s = b := ⟨_, rfl⟩
  have P0 := Lib.hid h0
  clear h0
  go_wp2_with (fail)
  rw [← hW]
  clear hW f0 f1 f2 f3 f4 f5 f6
  go_at_call 47
  refine (HPW.out r0 P0.out).mono ?_
  rintro e w0 ⟨rfl, b0⟩
  have K0 := Lib.hid b0
  clear b0
  cases r0
  · obtain rfl : false = r := by rw [← HR.out, ← HE.out, P0.out]; rfl
    go_wp2_with (fail)
    go_ret
    exact ⟨rfl, below_join HB0.out K0.out HB0.out.size⟩
  obtain ⟨r1, h1⟩ : ∃ b, rmOk s = b := ⟨_, rfl⟩
  have P1 := Lib.hid h1
  clear h1
  obtain ⟨f0, f1, f2, f3, f4, f5, f6⟩ := HF.out w0 K0.out
  go_wp2_with (fail)
  clear f0 f1 f2 f3 f4 f5 f6
  go_at_call 48
  refine (HRM.out r1 P1.out w0 K0.out).mono ?_
  rintro e w1 ⟨rfl, b1⟩
  have K1 := Lib.hid (below_join K0.out b1 K0.out.size)
  clear b1
  cases r1
  · obtain rfl : false = r := by rw [← HR.out, ← HE.out, P0.out, P1.out]; rfl
    go_wp2_with (fail)
    go_ret
    exact ⟨rfl, below_join HB0.out K1.out HB0.out.size⟩
  obtain ⟨r2, h2⟩ : ∃ b, inB (s.hosts.length : Int) 1 16 = b := ⟨_, rfl⟩
  have P2 := Lib.hid h2
  clear h2
  obtain ⟨f0, f1, f2, f3, f4, f5, f6⟩ := HF.out w1 K1.out
  go_wp2_with (fail)
  go_at_call 49
  refine (c_within (s.hosts.length : Int) 1 16 r2 P2.out w1).mono ?_
  rintro e w2 ⟨rfl, hw2⟩
  rw [hw2]
  clear hw2
  cases r2
  · obtain rfl : false = r := by rw [← HR.out, ← HE.out, P0.out, P1.out]; unfold hoOk; rw [P2.out]; rfl
    go_wp2_with (fail)
    go_ret
    exact ⟨rfl, below_join HB0.out K1.out HB0.out.size⟩
  have HQ := Lib.hid (show s.hosts.all (hsIn s.racks.length) = r by rw [← HR.out, ← HE.out, P0.out, P1.out]; unfold hoOk; rw [P2.out]; rfl)
  go_wp2_with (fail)
  clear f0 f1 f2 f3 f4 f5 f6
  go_loopw [3] (fun i wr => ∃ k : Nat, k ≤ s.hosts.length ∧ i = .int .i64 (k : Int) ∧ Hid (Below W.heap.size W wr) ∧ Hid ((s.hosts.take k).all (hsIn s.racks.length) = true)) (fun i _ => s.hosts.length - (intOf i).toNat)
  case atStart => exact ⟨0, Nat.zero_le _, rfl, K1, Lib.hid rfl⟩
  case round =>
    obtain ⟨k, hk, rfl, hB, hall⟩ := hrel
    have hki : ((k : Nat) : Int).toNat = k := by omega
    obtain ⟨f0, f1, f2, f3, f4, f5, f6⟩ := HF.out wr hB.out
    by_cases hlt : k < s.hosts.length
    · obtain ⟨⟨z0, z1, z2, z3⟩, hx⟩ : ∃ x, s.hosts[k]? = some x := ⟨_, List.getElem?_eq_getElem hlt⟩
      have HK := (HA.out.on hB.out (Nat.le_refl _)).hosts
      obtain ⟨pb, po, hpe, hpl, -⟩ := HK.at_ hx
      rw [hpe] at HK f6
      obtain ⟨y0, y1, y2, y3⟩ := rwHost HK hx
      have HXX := Lib.hid hx
      have hlt' : (k : Int) < ((s.hosts.length : Nat) : Int) := by omega
      clear hx HK hpe
      obtain ⟨V, hV⟩ : ∃ V, V = wr.alloc (.cells #[.int .i64 z0, .int .i64 z1, .int .i64 z2, .int .i64 z3] 54) := ⟨_, rfl⟩
      have hBV : Below W.heap.size W V := by subst hV; exact hB.out.alloc hB.out.size _
      have HBV := Lib.hid hBV
      have HVA := Lib.hid (show V.heap[wr.heap.size]? = some (.cells #[.int .i64 z0, .int .i64 z1, .int .i64 z2, .int .i64 z3] 54 (0, 0)) by subst hV; exact heap_alloc_new _ _)
      have hzw : W.heap.size ≤ wr.heap.size := hB.out.size
      clear hBV
      obtain ⟨g0, g1, g2, g3, g4, g5, g6⟩ := HF.out V HBV.out
      have v0 : V.cell? ⟨wr.heap.size, 0, none⟩ = some (.int .i64 z0) := cell_of HVA.out rfl
      have v1 : V.cell? ⟨wr.heap.size, 1, none⟩ = some (.int .i64 z1) := cell_of HVA.out rfl
      have v2 : V.cell? ⟨wr.heap.size, 2, none⟩ = some (.int .i64 z2) := cell_of HVA.out rfl
      have v3 : V.cell? ⟨wr.heap.size, 3, none⟩ = some (.int .i64 z3) := cell_of HVA.out rfl
      rw [hV] at g0 g1 g2 g3 g4 g5 g6 v0 v1 v2 v3
      have HG := Lib.hid (show (hsIn s.racks.length) ⟨z0, z1, z2, z3⟩ = (inB z0 0 ((s.racks.length : Int) - 1) && (inB z1 1 1000 && (inB z2 0 10000 && (inB z3 0 1000)))) from rfl)
      obtain ⟨r0, h0⟩ : ∃ b, inB z0 0 ((s.racks.length : Int) - 1) = b := ⟨_, rfl⟩
      have Q0 := Lib.hid h0
      clear h0
      go_wp2_with (fail)
      rw [← hV] at g0 g1 g2 g3 g4 g5 g6 v0 v1 v2 v3 ⊢
      clear hV y0 y1 y2 y3 f0 f1 f2 f3 f4 f5 f6
      go_at_call 49
      refine (c_within z0 0 ((s.racks.length : Int) - 1) r0 Q0.out V).mono ?_
      rintro e w0 ⟨rfl, hw0⟩
      rw [hw0]
      clear hw0
      cases r0
      · have hf := all_false HXX.out (show (hsIn s.racks.length) ⟨z0, z1, z2, z3⟩ = false by rw [HG.out, show (inB z0 0 ((s.racks.length : Int) - 1)) = false from Q0.out] <;> rfl)
        obtain rfl : false = r := by rw [← HQ.out, hf]
        go_wp2_with (fail)
        go_ret
        exact ⟨rfl, below_join HB0.out HBV.out HB0.out.size⟩
      obtain ⟨r1, h1⟩ : ∃ b, inB z1 1 1000 = b := ⟨_, rfl⟩
      have Q1 := Lib.hid h1
      clear h1
      go_wp2_with (fail)
      go_at_call 49
      refine (c_within z1 1 1000 r1 Q1.out V).mono ?_
      rintro e w1 ⟨rfl, hw1⟩
      rw [hw1]
      clear hw1
      cases r1
      · have hf := all_false HXX.out (show (hsIn s.racks.length) ⟨z0, z1, z2, z3⟩ = false by rw [HG.out, show (inB z0 0 ((s.racks.length : Int) - 1)) = true from Q0.out, show (inB z1 1 1000) = false from Q1.out] <;> rfl)
        obtain rfl : false = r := by rw [← HQ.out, hf]
        go_wp2_with (fail)
        go_ret
        exact ⟨rfl, below_join HB0.out HBV.out HB0.out.size⟩
      obtain ⟨r2, h2⟩ : ∃ b, inB z2 0 10000 = b := ⟨_, rfl⟩
      have Q2 := Lib.hid h2
      clear h2
      go_wp2_with (fail)
      go_at_call 49
      refine (c_within z2 0 10000 r2 Q2.out V).mono ?_
      rintro e w2 ⟨rfl, hw2⟩
      rw [hw2]
      clear hw2
      cases r2
      · have hf := all_false HXX.out (show (hsIn s.racks.length) ⟨z0, z1, z2, z3⟩ = false by rw [HG.out, show (inB z0 0 ((s.racks.length : Int) - 1)) = true from Q0.out, show (inB z1 1 1000) = true from Q1.out, show (inB z2 0 10000) = false from Q2.out] <;> rfl)
        obtain rfl : false = r := by rw [← HQ.out, hf]
        go_wp2_with (fail)
        go_ret
        exact ⟨rfl, below_join HB0.out HBV.out HB0.out.size⟩
      obtain ⟨r3, h3⟩ : ∃ b, inB z3 0 1000 = b := ⟨_, rfl⟩
      have Q3 := Lib.hid h3
      clear h3
      go_wp2_with (fail)
      go_at_call 49
      refine (c_within z3 0 1000 r3 Q3.out V).mono ?_
      rintro e w3 ⟨rfl, hw3⟩
      rw [hw3]
      clear hw3
      cases r3
      · have hf := all_false HXX.out (show (hsIn s.racks.length) ⟨z0, z1, z2, z3⟩ = false by rw [HG.out, show (inB z0 0 ((s.racks.length : Int) - 1)) = true from Q0.out, show (inB z1 1 1000) = true from Q1.out, show (inB z2 0 10000) = true from Q2.out, show (inB z3 0 1000) = false from Q3.out] <;> rfl)
        obtain rfl : false = r := by rw [← HQ.out, hf]
        go_wp2_with (fail)
        go_ret
        exact ⟨rfl, below_join HB0.out HBV.out HB0.out.size⟩
      have HAL := Lib.hid (all_take_succ HXX.out hall.out (show (hsIn s.racks.length) ⟨z0, z1, z2, z3⟩ = true by rw [HG.out, show (inB z0 0 ((s.racks.length : Int) - 1)) = true from Q0.out, show (inB z1 1 1000) = true from Q1.out, show (inB z2 0 10000) = true from Q2.out, show (inB z3 0 1000) = true from Q3.out] <;> rfl))
      go_wp2_with (fail)
      go_roundw
      case rel => exact ⟨k + 1, by omega, by go_num, HBV, HAL⟩
      case measure => simp only [intOf]; omega
    · obtain rfl : k = s.hosts.length := by omega
      have A_hosts := Lib.hid (show s.hosts.all (hsIn s.racks.length) = true by have h := hall.out; rwa [List.take_length] at h)
      obtain ⟨U_hosts, hU⟩ : ∃ z, z = wr := ⟨_, rfl⟩
      subst hU
      have K_hosts := hB
      clear hall hB hlt hk hki
      obtain rfl : true = r := by rw [← HQ.out, A_hosts.out]
      go_wp2_with (fail)
      go_ret
      exact ⟨rfl, below_join HB0.out K_hosts.out HB0.out.size⟩
end Go.Proofs.Ytacdpklgnibkeaa

namespace Go.Proofs.Ytacdpklgnibkeaa
open Go.RowKit
set_option maxRecDepth 100000
set_option linter.unusedVariables false
set_option linter.unusedSimpArgs false

theorem set_field {W : World} {b o : Nat} {cs : Array Value} {T : TypeId} (h : W.heap[b]? = some (.cells cs T (0, 0))) (v : Value) : (W.setCell ⟨b, o, none⟩ v).heap[b]? = some (.cells (cs.setIfInBounds o v) T (0, 0)) := by
  simp only [World.setCell, Array.getElem?_modify, if_pos trivial, h]
  simp
theorem frz {X : World} {b : Nat} {cs : Array Value} {T : TypeId} (h : X.heap[b]? = some (.cells cs T (0, 0))) (o : Nat) : X.frozen? ⟨b, o, none⟩ = false := by
  simp [World.frozen?, h]
end Go.Proofs.Ytacdpklgnibkeaa

namespace Go.Proofs.Ytacdpklgnibkeaa
open Go.RowKit
set_option maxRecDepth 100000
set_option linter.unusedVariables false
set_option linter.unusedSimpArgs false

set_option maxHeartbeats 8000000 in
theorem c_Ints (A A2 : Option Addr) (c c2 : Nat) (l m : List Int) (w : World) (h : Rw 1 inF w A c l) (h2 : Rw 1 inF w A2 c2 m) (r : Bool) (hr : decide (l = m) = r) :
    Calls Try.prog 14 #[.slice A l.length c, .slice A2 m.length c2] w fun e w' => e = .returned (.bool r) ∧ Below w.heap.size w w' := by
  have H := Lib.hid h
  have H2 := Lib.hid h2
  have HR := Lib.hid hr
  have k1 := h.1; have k2 := h.2.1; have k3 := h2.1; have k4 := h2.2.1
  unfold maxLen at k2 k4
  clear h h2 hr
  by_cases hl : l.length = m.length
  · have hne : ((l.length : Int) != (m.length : Int)) = false := by rw [hl]; simp
    have HL := Lib.hid hl
    clear hl
    go_enter Try.func14, Try.ntmps14
    go_wp2_with (fail)
    go_loopw [5] (fun i wr => ∃ k : Nat, k ≤ l.length ∧ i = .int .i64 (k : Int) ∧ Hid (Below w.heap.size w wr) ∧ Hid (l.take k = m.take k)) (fun i _ => l.length - (intOf i).toNat)
    case atStart => exact ⟨0, Nat.zero_le _, rfl, Lib.hid (Below.refl _ _), Lib.hid rfl⟩
    case round =>
      obtain ⟨k, hk, rfl, hB, hsame⟩ := hrel
      have hki : ((k : Nat) : Int).toNat = k := by omega
      by_cases hlt : k < l.length
      · obtain ⟨x, hx⟩ : ∃ x, l[k]? = some x := ⟨_, List.getElem?_eq_getElem hlt⟩
        obtain ⟨y, hy⟩ : ∃ y, m[k]? = some y := ⟨_, List.getElem?_eq_getElem (by rw [← HL.out]; exact hlt)⟩
        have HK := H.out.on hB.out (Nat.le_refl _)
        have HK2 := H2.out.on hB.out (Nat.le_refl _)
        obtain ⟨b, o, rfl, -, -⟩ := HK.at_ hx
        obtain ⟨b2, o2, rfl, -, -⟩ := HK2.at_ hy
        have x0 := inRw HK hx
        have y0 := inRw HK2 hy
        have hkl : (k : Int) < (l.length : Int) := by omega
        have hkm : (k : Int) < (m.length : Int) := by have := HL.out; omega
        have HXX := Lib.hid hx
        have HYY := Lib.hid hy
        clear HK HK2 hx hy
        rcases hne2 : (x != y) with _ | _
        · have HS := Lib.hid (show l.take (k + 1) = m.take (k + 1) by
            rw [List.take_add_one, List.take_add_one, hsame.out, HXX.out, HYY.out]
            rw [bne_eq_false_iff_eq] at hne2
            rw [hne2])
          go_wp2_with (fail)
          go_quiet (fail)
          go_wp2_with (fail)
          go_roundw
          case rel => exact ⟨k + 1, by omega, by go_num, Lib.hid (below_drewN hB.out), HS⟩
          case measure => simp only [intOf]; omega
        · obtain rfl : false = r := by
            rw [← HR.out]
            refine (decide_eq_false fun e => ?_).symm
            rw [bne_iff_ne] at hne2
            refine hne2 ?_
            have h1 := HXX.out
            rw [e, HYY.out] at h1
            injection h1 with h1
            exact h1.symm
          go_wp2_with (fail)
          go_quiet (fail)
          go_wp2_with (fail)
          go_ret
          exact ⟨rfl, below_drewN hB.out⟩
      · obtain rfl : k = l.length := by omega
        obtain rfl : true = r := by
          rw [← HR.out]
          refine (decide_eq_true ?_).symm
          have h := hsame.out
          rw [List.take_length, HL.out, List.take_length] at h
          exact h
        go_wp2_with (fail)
        go_ret
        exact ⟨rfl, hB.out⟩
  · have hne : ((l.length : Int) != (m.length : Int)) = true := by rw [bne_iff_ne]; omega
    obtain rfl : false = r := by rw [← HR.out]; exact (decide_eq_false fun e => hl (by rw [e])).symm
    clear hl
    go_enter Try.func14, Try.ntmps14
    go_wp2_with (fail)
    go_ret
    exact ⟨rfl, Below.refl _ _⟩
end Go.Proofs.Ytacdpklgnibkeaa

namespace Go.Proofs.Ytacdpklgnibkeaa
open Go.RowKit
set_option maxRecDepth 100000
set_option linter.unusedVariables false
set_option linter.unusedSimpArgs false

theorem int_info : (Try.prog.info? 3).map (fun i => (i.zero, i.size, i.bytes)) = some (some (.int .i64 0), 1, 8) := by kernel_rfl
theorem info_parts {P : Program} {T : TypeId} {z : Value} {s b : Nat} (h : (P.info? T).map (fun i => (i.zero, i.size, i.bytes)) = some (some z, s, b)) : ∃ i, P.info? T = some i ∧ i.zero = some z ∧ i.size = s ∧ i.bytes = b := by
  cases hi : P.info? T with
  | none => rw [hi] at h; cases h
  | some i => rw [hi] at h; simp at h; exact ⟨i, rfl, h.1, h.2.1, h.2.2⟩
/-- Numbers as cells. -/
def ints (l : List Int) : List Value := l.map fun x => .int .i64 x
theorem ints_snoc (l : List Int) (x : Int) : ints (l ++ [x]) = ints l ++ [.int .i64 x] := by simp [ints]
def nats (l : List Nat) : List Int := List.map (fun k : Nat => (k : Int)) l
theorem nats_len (l : List Nat) : (nats l).length = l.length := by simp [nats]
theorem ownsRow_lt {X : World} {base : Nat} {e : TypeId} {size n : Nat} {v : Value} {xs : List Value} (h : X.ownsRow base e size v n xs) {g : Nat} (hg : v.ownBlock = some g) : base ≤ g ∧ g < X.heap.size := by
  obtain ⟨k1, ⟨rfl, -⟩ | ⟨g', cap, cur, rfl, k3, k4, k⟩⟩ := h
  · cases hg
  · have hg2 : some g' = some g := hg
    injection hg2 with hg2
    subst hg2
    exact ⟨k3, at_lt k4⟩
theorem own_shape {X : World} {base : Nat} {e : TypeId} {size n : Nat} {v : Value} {xs : List Value} (h : X.ownsRow base e size v n xs) : ∃ A c, v = .slice A n c := by
  obtain ⟨k1, ⟨rfl, h0⟩ | ⟨g, cap, cur, rfl, k⟩⟩ := h
  · subst h0; exact ⟨_, _, rfl⟩
  · exact ⟨_, _, rfl⟩
theorem own_mono {w : World} {base base' : Nat} {e : TypeId} {size : Nat} {v : Value} {n : Nat} {xs : List Value} (h : w.ownsRow base e size v n xs) (hb : base' ≤ base) : w.ownsRow base' e size v n xs := by
  obtain ⟨k1, h | ⟨g, cap, cur, rfl, k3, k4, k⟩⟩ := h
  · exact ⟨k1, .inl h⟩
  · exact ⟨k1, .inr ⟨g, cap, cur, rfl, Nat.le_trans hb k3, k4, k⟩⟩
theorem own_on {X Y : World} {base : Nat} {e : TypeId} {size n B : Nat} {v : Value} {xs : List Value} (h : X.ownsRow base e size v n xs) (hb : Below B X Y) (hB : X.heap.size ≤ B) : Y.ownsRow base e size v n xs := by
  obtain ⟨k1, h | ⟨g, cap, cur, rfl, k3, k4, k⟩⟩ := h
  · exact ⟨k1, .inl h⟩
  · exact ⟨k1, .inr ⟨g, cap, cur, rfl, k3, (hb.block _ (Nat.lt_of_lt_of_le (at_lt k4) hB)).trans k4, k⟩⟩
/-- A list that a walk has made is a list in memory. -/
theorem own_rw {w : World} {base : Nat} {v : Value} {l : List Int} (h : w.ownsRow base 3 1 v l.length (ints l)) : ∃ A c, v = .slice A l.length c ∧ Rw 1 inF w A c l := by
  have hc := h
  obtain ⟨k1, ⟨e, e2⟩ | ⟨g, cap, cur, e, k3, k4, k5, k6, k7, k8⟩⟩ := h
  · subst e
    obtain rfl : l = [] := List.eq_nil_of_length_eq_zero e2
    exact ⟨none, 0, rfl, Rw.nil _ _⟩
  · subst e
    refine ⟨some ⟨g, 0, none⟩, cap, rfl, k5, k6, fun _ => ⟨g, 0, rfl, at_lt k4, fun j x hj i hi => ?_⟩⟩
    obtain rfl : i = 0 := by omega
    have hj' := (List.getElem?_eq_some_iff.1 hj).1
    have := hc.cellAt j (by simp; omega)
    rw [show 0 + j * 1 + 0 = j by omega, this]
    simp [ints, hj, inF]
end Go.Proofs.Ytacdpklgnibkeaa

namespace Go.Proofs.Ytacdpklgnibkeaa
open Go.RowKit
set_option maxRecDepth 100000
set_option linter.unusedVariables false
set_option linter.unusedSimpArgs false

/-- Rows of k numbers as cells. -/
def cellsR {α : Type} (k : Nat) (F : α → Nat → Int) (l : List α) : List Value := l.flatMap fun x => (List.range k).map fun i => .int .i64 (F x i)
theorem cellsR_at {α : Type} {k : Nat} {F : α → Nat → Int} : ∀ {l : List α} {j : Nat} {x : α}, l[j]? = some x → ∀ i, i < k → (cellsR k F l)[j * k + i]? = some (.int .i64 (F x i)) := by
  intro l
  induction l with
  | nil => intro j x h; simp at h
  | cons y l ih =>
    intro j x h i hi
    have e : cellsR k F (y :: l) = ((List.range k).map fun i => Value.int .i64 (F y i)) ++ cellsR k F l := rfl
    rw [e]
    cases j with
    | zero =>
      simp at h
      subst h
      rw [Nat.zero_mul, Nat.zero_add, List.getElem?_append_left (by simp; omega)]
      simp [hi]
    | succ j =>
      rw [List.getElem?_append_right (by simp; rw [Nat.succ_mul]; omega)]
      have := ih (j := j) (x := x) (by simpa using h) i hi
      rw [show (j + 1) * k + i - (List.map (fun i => Value.int .i64 (F y i)) (List.range k)).length = j * k + i by simp [Nat.succ_mul]; omega]
      exact this
theorem rw_block {α : Type} {k : Nat} {F : α → Nat → Int} {l : List α} {w : World} {b : Nat} {T : TypeId} (h : w.heap[b]? = some (.cells (cellsR k F l).toArray T (0, 0))) (hl : l.length ≤ maxLen) : Rw k F w (some ⟨b, 0, none⟩) l.length l := by
  refine ⟨Nat.le_refl _, hl, fun _ => ⟨b, 0, rfl, at_lt h, fun j x hj i hi => ?_⟩⟩
  rw [Nat.zero_add]
  refine cell_of h ?_
  have := cellsR_at (F := F) hj i hi
  simpa using this
theorem set_else {W : World} {b k o : Nat} {v : Value} {ob : Obj} (h : W.heap[k]? = some ob) (hne : k ≠ b) : (W.setCell ⟨b, o, none⟩ v).heap[k]? = some ob := by
  rw [Below.heap_setCell _ ⟨b, o, none⟩ v k hne]; exact h
theorem old_heap {X : World} {b : Nat} {o : Obj} (o' : Obj) (h : X.heap[b]? = some o) : (X.alloc o').heap[b]? = some o := (Below.heap_alloc _ _ _ (at_lt h)).trans h
end Go.Proofs.Ytacdpklgnibkeaa

namespace Go.Proofs.Ytacdpklgnibkeaa
open Go.RowKit
set_option linter.unusedVariables false

section
variable {P : Program} {ops : Array Oper} {Q : Exit → Act → World → Prop} {md : Region.Mode} {S : World → Prop}
theorem takeH {i : Nat} (d : Tmp) {oi : Oper} {v : Value} {fuel : Nat} {listed : Array Bool} {a : Act} {w : World} (hi : ops[i]? = some oi) (hd : oi.dst = some d)
    (hs : Region.noSelect ops = true) (hf : Region.free md ops listed i = true) (hr : (Region.ready md ops listed).contains i = true)
    (hQ : ∀ c a w, Q (.panic c) (a.put (some d) v) w → Q (.panic c) a w) (hw : Region.wanted oi (yielded ops a.tmps) = true) (hy : ∀ w, S w → (execOp a.eval oi).run P w = .ok (.value v) w) (hS : S w)
    (h : wpAnyH P md ops Q S fuel (listed.setIfInBounds i true) (a.put (some d) v) w) : wpAnyH P md ops Q S (fuel + 1) listed a w := by
  rw [← hd] at hQ h
  exact wpAnyH_take hi hs hf hr hQ (.inl ⟨hw, hy⟩) hS h
end
end Go.Proofs.Ytacdpklgnibkeaa

namespace Go.Proofs.Ytacdpklgnibkeaa
open Go.ChangeShapes Go.WideShapes Go.Deep Go.RowKit
set_option maxRecDepth 100000
set_option linter.unusedSimpArgs false
set_option linter.unusedVariables false

theorem cell_lt3 {w : World} {b o : Nat} {v : Value} (h : w.cell? ⟨b, o, none⟩ = some v) : b < w.heap.size := by
  unfold World.cell? at h
  cases hb : w.heap[b]? with
  | none => simp [hb] at h
  | some ob => exact (Array.getElem?_eq_some_iff.1 hb).1
theorem plain_add (b o j : Nat) : (⟨b, o, none⟩ : Addr).add j = ⟨b, o + j, none⟩ := by unfold Addr.add; split <;> simp_all
theorem add_spot {w : World} {a : Addr} {v : Value} (h : w.cell? (a.add 0) = some v) : ∃ b o, a = ⟨b, o, none⟩ ∧ b < w.heap.size := by
  obtain ⟨b, off, spot⟩ := a
  have hsp : spot = none := by simpa [Addr.add] using World.cell?_spot h
  subst hsp
  rw [plain_add] at h
  exact ⟨b, off, rfl, cell_lt3 h⟩
theorem cells_it : Try.prog.cellsOf 3 = 1 := by kernel_rfl
theorem cells_site : Try.prog.cellsOf 29 = 7 := by kernel_rfl
section
variable {H : Type} {enc : TypeId × Value → H} {W : World} {base : Nat} {spare : Nat → Bool} {held : Bool} {r : Go.Reach} {b0 : Nat} {v : Value} {d : DataW H} {p : List MemPlace}
theorem open_one64 {fuel : Nat} {x : DataW H × List MemPlace} {u : Value} (hf : DataW.trod enc Try.prog W base spare held fuel 3 [u] = some x) : ∃ n : Int, u = .int .i64 n := by
  obtain ⟨n, g, -, -⟩ := DataW.trod_int Try.underlying3 hf
  simp at g
  exact ⟨n, g⟩
theorem open_int_ (h : DataW.Trod enc Try.prog W base spare held 3 v d p) (hv : Value.okWide Try.prog W r b0 3 v) : ∃ n : Int, v = .int .i64 n := by
  obtain ⟨m, rfl⟩ := okWide_int Try.underlying3 hv
  exact ⟨m, rfl⟩
theorem cells_Feed : Try.prog.cellsOf 57 = 1 := by kernel_rfl
theorem cells_sFeed : Try.prog.cellsOf 22 = 1 := by kernel_rfl
theorem open_sFeed {fuel : Nat} {x : DataW H × List MemPlace} (hf : DataW.trod enc Try.prog W base spare held fuel 22 [v] = some x) : ∃ (A : Option Addr) (c : Nat) (l : List Int), v = .slice A l.length c ∧ Rw 1 inF W A c l := by
  rcases open_slice Try.underlying22 hf with ⟨h0, _⟩ | ⟨a, len, cap, m, n, D, Pl, hcs, hb, hl, hm, hmm, hx, hi⟩
  · simp at h0
    subst h0
    exact ⟨none, 0, [], rfl, Rw.nil _ _⟩
  · simp at hcs
    subst hcs
    have hel : ∀ i, i < len → ∃ y : Int, ∀ q, q < 1 → W.cell? (a.add (i * 1 + q)) = some (.int .i64 (inF y q)) := by
      intro i him
      obtain ⟨cs', hc, ht'⟩ := hi i (by rw [hmm]; split <;> omega)
      rw [cells_Feed] at hc
      obtain ⟨_, hcl, hat⟩ := World.cells?_some hc
      obtain ⟨xs, k, -, -, -, hxl, hg⟩ := DataW.trod_struct Try.underlying57 ht'
      have hxl' : xs.length = 1 := hxl
      have g0 : DataW.trod enc Try.prog W base spare held k 3 ((cs'.drop 0).take (Try.prog.cellsOf 3)) = xs[0]? := hg 0 _ rfl
      rw [List.getElem?_eq_getElem (by omega)] at g0
      rw [cells_it] at g0
      match cs', hcl with
      | [c0], _ =>
        obtain ⟨p0, rfl⟩ := open_one64 (u := c0) g0
        have e0 := hat 0 (by omega)
        rw [Go.Deep.add_add] at e0
        refine ⟨p0, fun q hq => ?_⟩
        obtain rfl : q = 0 := by omega
        simpa [inF] using e0
    have inh : Inhabited Int := ⟨0⟩
    obtain ⟨G, hG⟩ := choose_lt hel
    refine ⟨some a, cap, (List.range len).map G, by simp, by simpa using hl, hm, fun h0 => ?_⟩
    have h0' : 0 < len := by simpa using h0
    obtain ⟨b, off, rfl, hlt⟩ := add_spot (by simpa using hG 0 h0' 0 (by omega))
    refine ⟨b, off, rfl, hlt, fun j q hj i hi2 => ?_⟩
    have hjl : j < len := by have := (List.getElem?_eq_some_iff.1 hj).1; simpa using this
    rw [List.getElem?_map, List.getElem?_range hjl] at hj
    injection hj with hj
    subst hj
    have e := hG j hjl i hi2
    rw [plain_add] at e
    rw [Nat.add_assoc]
    exact e
theorem cells_Breaker : Try.prog.cellsOf 59 = 4 := by kernel_rfl
theorem cells_sBreaker : Try.prog.cellsOf 23 = 1 := by kernel_rfl
theorem open_sBreaker {fuel : Nat} {x : DataW H × List MemPlace} (hf : DataW.trod enc Try.prog W base spare held fuel 23 [v] = some x) : ∃ (A : Option Addr) (c : Nat) (l : List Brk), v = .slice A l.length c ∧ Rw 4 brkF W A c l := by
  rcases open_slice Try.underlying23 hf with ⟨h0, _⟩ | ⟨a, len, cap, m, n, D, Pl, hcs, hb, hl, hm, hmm, hx, hi⟩
  · simp at h0
    subst h0
    exact ⟨none, 0, [], rfl, Rw.nil _ _⟩
  · simp at hcs
    subst hcs
    have hel : ∀ i, i < len → ∃ y : Brk, ∀ q, q < 4 → W.cell? (a.add (i * 4 + q)) = some (.int .i64 (brkF y q)) := by
      intro i him
      obtain ⟨cs', hc, ht'⟩ := hi i (by rw [hmm]; split <;> omega)
      rw [cells_Breaker] at hc
      obtain ⟨_, hcl, hat⟩ := World.cells?_some hc
      obtain ⟨xs, k, -, -, -, hxl, hg⟩ := DataW.trod_struct Try.underlying59 ht'
      have hxl' : xs.length = 4 := hxl
      have g0 : DataW.trod enc Try.prog W base spare held k 3 ((cs'.drop 0).take (Try.prog.cellsOf 3)) = xs[0]? := hg 0 _ rfl
      have g1 : DataW.trod enc Try.prog W base spare held k 3 ((cs'.drop 1).take (Try.prog.cellsOf 3)) = xs[1]? := hg 1 _ rfl
      have g2 : DataW.trod enc Try.prog W base spare held k 3 ((cs'.drop 2).take (Try.prog.cellsOf 3)) = xs[2]? := hg 2 _ rfl
      have g3 : DataW.trod enc Try.prog W base spare held k 3 ((cs'.drop 3).take (Try.prog.cellsOf 3)) = xs[3]? := hg 3 _ rfl
      rw [List.getElem?_eq_getElem (by omega)] at g0 g1 g2 g3
      rw [cells_it] at g0 g1 g2 g3
      match cs', hcl with
      | [c0, c1, c2, c3], _ =>
        obtain ⟨p0, rfl⟩ := open_one64 (u := c0) g0
        obtain ⟨p1, rfl⟩ := open_one64 (u := c1) g1
        obtain ⟨p2, rfl⟩ := open_one64 (u := c2) g2
        obtain ⟨p3, rfl⟩ := open_one64 (u := c3) g3
        have e0 := hat 0 (by omega)
        have e1 := hat 1 (by omega)
        have e2 := hat 2 (by omega)
        have e3 := hat 3 (by omega)
        rw [Go.Deep.add_add] at e0 e1 e2 e3
        refine ⟨⟨p0, p1, p2, p3⟩, fun q hq => ?_⟩
        rcases (by omega : q = 0 ∨ q = 1 ∨ q = 2 ∨ q = 3) with rfl | rfl | rfl | rfl
        · simpa [brkF] using e0
        · simpa [brkF] using e1
        · simpa [brkF] using e2
        · simpa [brkF] using e3
    have inh : Inhabited Brk := ⟨⟨0, 0, 0, 0⟩⟩
    obtain ⟨G, hG⟩ := choose_lt hel
    refine ⟨some a, cap, (List.range len).map G, by simp, by simpa using hl, hm, fun h0 => ?_⟩
    have h0' : 0 < len := by simpa using h0
    obtain ⟨b, off, rfl, hlt⟩ := add_spot (by simpa using hG 0 h0' 0 (by omega))
    refine ⟨b, off, rfl, hlt, fun j q hj i hi2 => ?_⟩
    have hjl : j < len := by have := (List.getElem?_eq_some_iff.1 hj).1; simpa using this
    rw [List.getElem?_map, List.getElem?_range hjl] at hj
    injection hj with hj
    subst hj
    have e := hG j hjl i hi2
    rw [plain_add] at e
    rw [Nat.add_assoc]
    exact e
theorem cells_Loop : Try.prog.cellsOf 61 = 2 := by kernel_rfl
theorem cells_sLoop : Try.prog.cellsOf 24 = 1 := by kernel_rfl
theorem open_sLoop {fuel : Nat} {x : DataW H × List MemPlace} (hf : DataW.trod enc Try.prog W base spare held fuel 24 [v] = some x) : ∃ (A : Option Addr) (c : Nat) (l : List Lp), v = .slice A l.length c ∧ Rw 2 lpF W A c l := by
  rcases open_slice Try.underlying24 hf with ⟨h0, _⟩ | ⟨a, len, cap, m, n, D, Pl, hcs, hb, hl, hm, hmm, hx, hi⟩
  · simp at h0
    subst h0
    exact ⟨none, 0, [], rfl, Rw.nil _ _⟩
  · simp at hcs
    subst hcs
    have hel : ∀ i, i < len → ∃ y : Lp, ∀ q, q < 2 → W.cell? (a.add (i * 2 + q)) = some (.int .i64 (lpF y q)) := by
      intro i him
      obtain ⟨cs', hc, ht'⟩ := hi i (by rw [hmm]; split <;> omega)
      rw [cells_Loop] at hc
      obtain ⟨_, hcl, hat⟩ := World.cells?_some hc
      obtain ⟨xs, k, -, -, -, hxl, hg⟩ := DataW.trod_struct Try.underlying61 ht'
      have hxl' : xs.length = 2 := hxl
      have g0 : DataW.trod enc Try.prog W base spare held k 3 ((cs'.drop 0).take (Try.prog.cellsOf 3)) = xs[0]? := hg 0 _ rfl
      have g1 : DataW.trod enc Try.prog W base spare held k 3 ((cs'.drop 1).take (Try.prog.cellsOf 3)) = xs[1]? := hg 1 _ rfl
      rw [List.getElem?_eq_getElem (by omega)] at g0 g1
      rw [cells_it] at g0 g1
      match cs', hcl with
      | [c0, c1], _ =>
        obtain ⟨p0, rfl⟩ := open_one64 (u := c0) g0
        obtain ⟨p1, rfl⟩ := open_one64 (u := c1) g1
        have e0 := hat 0 (by omega)
        have e1 := hat 1 (by omega)
        rw [Go.Deep.add_add] at e0 e1
        refine ⟨⟨p0, p1⟩, fun q hq => ?_⟩
        rcases (by omega : q = 0 ∨ q = 1) with rfl | rfl
        · simpa [lpF] using e0
        · simpa [lpF] using e1
    have inh : Inhabited Lp := ⟨⟨0, 0⟩⟩
    obtain ⟨G, hG⟩ := choose_lt hel
    refine ⟨some a, cap, (List.range len).map G, by simp, by simpa using hl, hm, fun h0 => ?_⟩
    have h0' : 0 < len := by simpa using h0
    obtain ⟨b, off, rfl, hlt⟩ := add_spot (by simpa using hG 0 h0' 0 (by omega))
    refine ⟨b, off, rfl, hlt, fun j q hj i hi2 => ?_⟩
    have hjl : j < len := by have := (List.getElem?_eq_some_iff.1 hj).1; simpa using this
    rw [List.getElem?_map, List.getElem?_range hjl] at hj
    injection hj with hj
    subst hj
    have e := hG j hjl i hi2
    rw [plain_add] at e
    rw [Nat.add_assoc]
    exact e
theorem cells_Rack : Try.prog.cellsOf 52 = 4 := by kernel_rfl
theorem cells_sRack : Try.prog.cellsOf 25 = 1 := by kernel_rfl
theorem open_sRack {fuel : Nat} {x : DataW H × List MemPlace} (hf : DataW.trod enc Try.prog W base spare held fuel 25 [v] = some x) : ∃ (A : Option Addr) (c : Nat) (l : List Rk), v = .slice A l.length c ∧ Rw 4 rkF W A c l := by
  rcases open_slice Try.underlying25 hf with ⟨h0, _⟩ | ⟨a, len, cap, m, n, D, Pl, hcs, hb, hl, hm, hmm, hx, hi⟩
  · simp at h0
    subst h0
    exact ⟨none, 0, [], rfl, Rw.nil _ _⟩
  · simp at hcs
    subst hcs
    have hel : ∀ i, i < len → ∃ y : Rk, ∀ q, q < 4 → W.cell? (a.add (i * 4 + q)) = some (.int .i64 (rkF y q)) := by
      intro i him
      obtain ⟨cs', hc, ht'⟩ := hi i (by rw [hmm]; split <;> omega)
      rw [cells_Rack] at hc
      obtain ⟨_, hcl, hat⟩ := World.cells?_some hc
      obtain ⟨xs, k, -, -, -, hxl, hg⟩ := DataW.trod_struct Try.underlying52 ht'
      have hxl' : xs.length = 4 := hxl
      have g0 : DataW.trod enc Try.prog W base spare held k 3 ((cs'.drop 0).take (Try.prog.cellsOf 3)) = xs[0]? := hg 0 _ rfl
      have g1 : DataW.trod enc Try.prog W base spare held k 3 ((cs'.drop 1).take (Try.prog.cellsOf 3)) = xs[1]? := hg 1 _ rfl
      have g2 : DataW.trod enc Try.prog W base spare held k 3 ((cs'.drop 2).take (Try.prog.cellsOf 3)) = xs[2]? := hg 2 _ rfl
      have g3 : DataW.trod enc Try.prog W base spare held k 3 ((cs'.drop 3).take (Try.prog.cellsOf 3)) = xs[3]? := hg 3 _ rfl
      rw [List.getElem?_eq_getElem (by omega)] at g0 g1 g2 g3
      rw [cells_it] at g0 g1 g2 g3
      match cs', hcl with
      | [c0, c1, c2, c3], _ =>
        obtain ⟨p0, rfl⟩ := open_one64 (u := c0) g0
        obtain ⟨p1, rfl⟩ := open_one64 (u := c1) g1
        obtain ⟨p2, rfl⟩ := open_one64 (u := c2) g2
        obtain ⟨p3, rfl⟩ := open_one64 (u := c3) g3
        have e0 := hat 0 (by omega)
        have e1 := hat 1 (by omega)
        have e2 := hat 2 (by omega)
        have e3 := hat 3 (by omega)
        rw [Go.Deep.add_add] at e0 e1 e2 e3
        refine ⟨⟨p0, p1, p2, p3⟩, fun q hq => ?_⟩
        rcases (by omega : q = 0 ∨ q = 1 ∨ q = 2 ∨ q = 3) with rfl | rfl | rfl | rfl
        · simpa [rkF] using e0
        · simpa [rkF] using e1
        · simpa [rkF] using e2
        · simpa [rkF] using e3
    have inh : Inhabited Rk := ⟨⟨0, 0, 0, 0⟩⟩
    obtain ⟨G, hG⟩ := choose_lt hel
    refine ⟨some a, cap, (List.range len).map G, by simp, by simpa using hl, hm, fun h0 => ?_⟩
    have h0' : 0 < len := by simpa using h0
    obtain ⟨b, off, rfl, hlt⟩ := add_spot (by simpa using hG 0 h0' 0 (by omega))
    refine ⟨b, off, rfl, hlt, fun j q hj i hi2 => ?_⟩
    have hjl : j < len := by have := (List.getElem?_eq_some_iff.1 hj).1; simpa using this
    rw [List.getElem?_map, List.getElem?_range hjl] at hj
    injection hj with hj
    subst hj
    have e := hG j hjl i hi2
    rw [plain_add] at e
    rw [Nat.add_assoc]
    exact e
theorem cells_Link : Try.prog.cellsOf 39 = 3 := by kernel_rfl
theorem cells_sLink : Try.prog.cellsOf 26 = 1 := by kernel_rfl
theorem open_sLink {fuel : Nat} {x : DataW H × List MemPlace} (hf : DataW.trod enc Try.prog W base spare held fuel 26 [v] = some x) : ∃ (A : Option Addr) (c : Nat) (l : List Lk), v = .slice A l.length c ∧ Rw 3 lkF W A c l := by
  rcases open_slice Try.underlying26 hf with ⟨h0, _⟩ | ⟨a, len, cap, m, n, D, Pl, hcs, hb, hl, hm, hmm, hx, hi⟩
  · simp at h0
    subst h0
    exact ⟨none, 0, [], rfl, Rw.nil _ _⟩
  · simp at hcs
    subst hcs
    have hel : ∀ i, i < len → ∃ y : Lk, ∀ q, q < 3 → W.cell? (a.add (i * 3 + q)) = some (.int .i64 (lkF y q)) := by
      intro i him
      obtain ⟨cs', hc, ht'⟩ := hi i (by rw [hmm]; split <;> omega)
      rw [cells_Link] at hc
      obtain ⟨_, hcl, hat⟩ := World.cells?_some hc
      obtain ⟨xs, k, -, -, -, hxl, hg⟩ := DataW.trod_struct Try.underlying39 ht'
      have hxl' : xs.length = 3 := hxl
      have g0 : DataW.trod enc Try.prog W base spare held k 3 ((cs'.drop 0).take (Try.prog.cellsOf 3)) = xs[0]? := hg 0 _ rfl
      have g1 : DataW.trod enc Try.prog W base spare held k 3 ((cs'.drop 1).take (Try.prog.cellsOf 3)) = xs[1]? := hg 1 _ rfl
      have g2 : DataW.trod enc Try.prog W base spare held k 3 ((cs'.drop 2).take (Try.prog.cellsOf 3)) = xs[2]? := hg 2 _ rfl
      rw [List.getElem?_eq_getElem (by omega)] at g0 g1 g2
      rw [cells_it] at g0 g1 g2
      match cs', hcl with
      | [c0, c1, c2], _ =>
        obtain ⟨p0, rfl⟩ := open_one64 (u := c0) g0
        obtain ⟨p1, rfl⟩ := open_one64 (u := c1) g1
        obtain ⟨p2, rfl⟩ := open_one64 (u := c2) g2
        have e0 := hat 0 (by omega)
        have e1 := hat 1 (by omega)
        have e2 := hat 2 (by omega)
        rw [Go.Deep.add_add] at e0 e1 e2
        refine ⟨⟨p0, p1, p2⟩, fun q hq => ?_⟩
        rcases (by omega : q = 0 ∨ q = 1 ∨ q = 2) with rfl | rfl | rfl
        · simpa [lkF] using e0
        · simpa [lkF] using e1
        · simpa [lkF] using e2
    have inh : Inhabited Lk := ⟨⟨0, 0, 0⟩⟩
    obtain ⟨G, hG⟩ := choose_lt hel
    refine ⟨some a, cap, (List.range len).map G, by simp, by simpa using hl, hm, fun h0 => ?_⟩
    have h0' : 0 < len := by simpa using h0
    obtain ⟨b, off, rfl, hlt⟩ := add_spot (by simpa using hG 0 h0' 0 (by omega))
    refine ⟨b, off, rfl, hlt, fun j q hj i hi2 => ?_⟩
    have hjl : j < len := by have := (List.getElem?_eq_some_iff.1 hj).1; simpa using this
    rw [List.getElem?_map, List.getElem?_range hjl] at hj
    injection hj with hj
    subst hj
    have e := hG j hjl i hi2
    rw [plain_add] at e
    rw [Nat.add_assoc]
    exact e
theorem cells_Host : Try.prog.cellsOf 54 = 4 := by kernel_rfl
theorem cells_sHost : Try.prog.cellsOf 27 = 1 := by kernel_rfl
theorem open_sHost {fuel : Nat} {x : DataW H × List MemPlace} (hf : DataW.trod enc Try.prog W base spare held fuel 27 [v] = some x) : ∃ (A : Option Addr) (c : Nat) (l : List Hs), v = .slice A l.length c ∧ Rw 4 hsF W A c l := by
  rcases open_slice Try.underlying27 hf with ⟨h0, _⟩ | ⟨a, len, cap, m, n, D, Pl, hcs, hb, hl, hm, hmm, hx, hi⟩
  · simp at h0
    subst h0
    exact ⟨none, 0, [], rfl, Rw.nil _ _⟩
  · simp at hcs
    subst hcs
    have hel : ∀ i, i < len → ∃ y : Hs, ∀ q, q < 4 → W.cell? (a.add (i * 4 + q)) = some (.int .i64 (hsF y q)) := by
      intro i him
      obtain ⟨cs', hc, ht'⟩ := hi i (by rw [hmm]; split <;> omega)
      rw [cells_Host] at hc
      obtain ⟨_, hcl, hat⟩ := World.cells?_some hc
      obtain ⟨xs, k, -, -, -, hxl, hg⟩ := DataW.trod_struct Try.underlying54 ht'
      have hxl' : xs.length = 4 := hxl
      have g0 : DataW.trod enc Try.prog W base spare held k 3 ((cs'.drop 0).take (Try.prog.cellsOf 3)) = xs[0]? := hg 0 _ rfl
      have g1 : DataW.trod enc Try.prog W base spare held k 3 ((cs'.drop 1).take (Try.prog.cellsOf 3)) = xs[1]? := hg 1 _ rfl
      have g2 : DataW.trod enc Try.prog W base spare held k 3 ((cs'.drop 2).take (Try.prog.cellsOf 3)) = xs[2]? := hg 2 _ rfl
      have g3 : DataW.trod enc Try.prog W base spare held k 3 ((cs'.drop 3).take (Try.prog.cellsOf 3)) = xs[3]? := hg 3 _ rfl
      rw [List.getElem?_eq_getElem (by omega)] at g0 g1 g2 g3
      rw [cells_it] at g0 g1 g2 g3
      match cs', hcl with
      | [c0, c1, c2, c3], _ =>
        obtain ⟨p0, rfl⟩ := open_one64 (u := c0) g0
        obtain ⟨p1, rfl⟩ := open_one64 (u := c1) g1
        obtain ⟨p2, rfl⟩ := open_one64 (u := c2) g2
        obtain ⟨p3, rfl⟩ := open_one64 (u := c3) g3
        have e0 := hat 0 (by omega)
        have e1 := hat 1 (by omega)
        have e2 := hat 2 (by omega)
        have e3 := hat 3 (by omega)
        rw [Go.Deep.add_add] at e0 e1 e2 e3
        refine ⟨⟨p0, p1, p2, p3⟩, fun q hq => ?_⟩
        rcases (by omega : q = 0 ∨ q = 1 ∨ q = 2 ∨ q = 3) with rfl | rfl | rfl | rfl
        · simpa [hsF] using e0
        · simpa [hsF] using e1
        · simpa [hsF] using e2
        · simpa [hsF] using e3
    have inh : Inhabited Hs := ⟨⟨0, 0, 0, 0⟩⟩
    obtain ⟨G, hG⟩ := choose_lt hel
    refine ⟨some a, cap, (List.range len).map G, by simp, by simpa using hl, hm, fun h0 => ?_⟩
    have h0' : 0 < len := by simpa using h0
    obtain ⟨b, off, rfl, hlt⟩ := add_spot (by simpa using hG 0 h0' 0 (by omega))
    refine ⟨b, off, rfl, hlt, fun j q hj i hi2 => ?_⟩
    have hjl : j < len := by have := (List.getElem?_eq_some_iff.1 hj).1; simpa using this
    rw [List.getElem?_map, List.getElem?_range hjl] at hj
    injection hj with hj
    subst hj
    have e := hG j hjl i hi2
    rw [plain_add] at e
    rw [Nat.add_assoc]
    exact e
theorem open_site (h : DataW.Trod enc Try.prog W base spare held 29 v d p) (hv : Value.okWide Try.prog W r b0 29 v) : ∃ (q : SP) (s : SiteD), v = siV q s ∧ SiAt W q s := by
  obtain ⟨⟨l⟩, rfl, hsz⟩ := okWide_struct Try.underlying29 hv
  obtain ⟨fuel, hf⟩ := h
  obtain ⟨xs, k, -, -, -, hl, hg⟩ := DataW.trod_struct Try.underlying29 hf
  have hlen : l.length = 7 := hsz.trans cells_site
  have hxl : xs.length = 7 := hl
  have g0 : DataW.trod enc Try.prog W base spare held k 22 ((l.drop 0).take (Try.prog.cellsOf 22)) = xs[0]? := hg 0 _ rfl
  have g1 : DataW.trod enc Try.prog W base spare held k 23 ((l.drop 1).take (Try.prog.cellsOf 23)) = xs[1]? := hg 1 _ rfl
  have g2 : DataW.trod enc Try.prog W base spare held k 24 ((l.drop 2).take (Try.prog.cellsOf 24)) = xs[2]? := hg 2 _ rfl
  have g3 : DataW.trod enc Try.prog W base spare held k 25 ((l.drop 3).take (Try.prog.cellsOf 25)) = xs[3]? := hg 3 _ rfl
  have g4 : DataW.trod enc Try.prog W base spare held k 3 ((l.drop 4).take (Try.prog.cellsOf 3)) = xs[4]? := hg 4 _ rfl
  have g5 : DataW.trod enc Try.prog W base spare held k 26 ((l.drop 5).take (Try.prog.cellsOf 26)) = xs[5]? := hg 5 _ rfl
  have g6 : DataW.trod enc Try.prog W base spare held k 27 ((l.drop 6).take (Try.prog.cellsOf 27)) = xs[6]? := hg 6 _ rfl
  rw [List.getElem?_eq_getElem (by omega)] at g0 g1 g2 g3 g4 g5 g6
  rw [cells_sFeed] at g0
  rw [cells_sBreaker] at g1
  rw [cells_sLoop] at g2
  rw [cells_sRack] at g3
  rw [cells_it] at g4
  rw [cells_sLink] at g5
  rw [cells_sHost] at g6
  match l, hlen with
  | [c0, c1, c2, c3, c4, c5, c6], _ =>
    obtain ⟨A1, k1, l1, rfl, h1⟩ := open_sFeed (v := c0) g0
    obtain ⟨A2, k2, l2, rfl, h2⟩ := open_sBreaker (v := c1) g1
    obtain ⟨A3, k3, l3, rfl, h3⟩ := open_sLoop (v := c2) g2
    obtain ⟨A4, k4, l4, rfl, h4⟩ := open_sRack (v := c3) g3
    obtain ⟨n, rfl⟩ := open_one64 (u := c4) g4
    obtain ⟨A5, k5, l5, rfl, h5⟩ := open_sLink (v := c5) g5
    obtain ⟨A6, k6, l6, rfl, h6⟩ := open_sHost (v := c6) g6
    exact ⟨⟨A1, k1, A2, k2, A3, k3, A4, k4, A5, k5, A6, k6⟩, ⟨l1, l2, l3, l4, n, l5, l6⟩, rfl, h1, h2, h3, h4, h5, h6⟩
end
end Go.Proofs.Ytacdpklgnibkeaa

namespace Go.Proofs.Ytacdpklgnibkeaa
set_option linter.unusedVariables false
set_option linter.unusedSimpArgs false

structure Hst where
  phase : Nat
  fw : Int
  deriving DecidableEq
structure Rep where
  svc : Int
  host : Int
  deriving DecidableEq
structure Nr where
  svc : Int
  lat : Int
structure Svc where
  cores : Int
  reps : Int
  least : Int
  dom : Nat
  spread : Int
  apart : List Int
  near : List Nr
  fw : Int
structure WorldD where
  hosts : List Hst
  reps : List Rep
end Go.Proofs.Ytacdpklgnibkeaa

namespace Go.Proofs.Ytacdpklgnibkeaa
open Go.RowKit
attribute [local go_sem] Oper.semAt_some
set_option maxRecDepth 100000
set_option linter.unusedVariables false
set_option linter.unusedSimpArgs false

theorem wrap_in {x : Int} (h : -9223372036854775808 ≤ x) (h2 : x ≤ 9223372036854775807) : IntKind.i64.wrap x = x := by
  unfold IntKind.wrap
  simp [IntKind.signed, IntKind.bits]
  omega
/-- Rows of k cells, as a slice's address and capacity. -/
def Rv {α : Type} (k : Nat) (F : α → Nat → Value) (w : World) (A : Option Addr) (c : Nat) (l : List α) : Prop :=
  l.length ≤ c ∧ c ≤ maxLen ∧ (A = none → c = 0) ∧ (0 < l.length → ∃ b o, A = some ⟨b, o, none⟩ ∧ b < w.heap.size ∧ ∀ (j : Nat) (x : α), l[j]? = some x → ∀ i, i < k → w.cell? ⟨b, o + j * k + i, none⟩ = some (F x i))
section
variable {α : Type} {k : Nat} {F : α → Nat → Value} {w w' : World} {A : Option Addr} {c : Nat} {l : List α}
theorem Rv.on {B : Nat} (h : Rv k F w A c l) (hb : Below B w w') (hB : w.heap.size ≤ B) : Rv k F w' A c l := by
  obtain ⟨h1, h2, h3, h4⟩ := h
  refine ⟨h1, h2, h3, fun h0 => ?_⟩
  obtain ⟨b, o, e, hlt, hc⟩ := h4 h0
  exact ⟨b, o, e, Nat.lt_of_lt_of_le hlt hb.size, fun j x hj i hi => (hb.cell (p := ⟨b, o + j * k + i, none⟩) (by show b < B; omega)).trans (hc j x hj i hi)⟩
theorem Rv.at_ (h : Rv k F w A c l) {j : Nat} {x : α} (hj : l[j]? = some x) : ∃ b o, A = some ⟨b, o, none⟩ ∧ b < w.heap.size ∧ ∀ i, i < k → w.cell? ⟨b, o + j * k + i, none⟩ = some (F x i) := by
  obtain ⟨h1, h2, -, h4⟩ := h
  obtain ⟨b, o, e, hlt, hc⟩ := h4 (by have := (List.getElem?_eq_some_iff.1 hj).1; omega)
  exact ⟨b, o, e, hlt, fun i hi => hc j x hj i hi⟩
theorem Rv.nil (w : World) : Rv k F w none 0 ([] : List α) := ⟨Nat.le_refl _, Nat.zero_le _, fun _ => rfl, fun h => absurd h (Nat.lt_irrefl _)⟩
theorem Rv.take (h : Rv k F w A c l) (m : Nat) (hm : m ≤ l.length) : Rv k F w A c (l.take m) := by
  obtain ⟨h1, h2, h3, h4⟩ := h
  have hl : (l.take m).length = m := by rw [List.length_take]; omega
  refine ⟨by omega, h2, h3, fun h0 => ?_⟩
  obtain ⟨b, o, e, hlt, hc⟩ := h4 (by omega)
  refine ⟨b, o, e, hlt, fun j x hj => hc j x ?_⟩
  rw [List.getElem?_take] at hj
  split at hj
  · exact hj
  · cases hj
theorem Rv.drop {b o : Nat} (h : Rv k F w (some ⟨b, o, none⟩) c l) (m : Nat) (hm : m ≤ l.length) : Rv k F w (some ⟨b, o + m * k, none⟩) (c - m) (l.drop m) := by
  obtain ⟨h1, h2, h3, h4⟩ := h
  refine ⟨by simp; omega, by omega, (by intro h; cases h), fun h0 => ?_⟩
  obtain ⟨b', o', e, hlt, hc⟩ := h4 (by simp at h0; omega)
  injection e with e
  injection e with e1 e2
  subst e1 e2
  refine ⟨b, o + m * k, rfl, hlt, fun j x hj i hi => ?_⟩
  rw [List.getElem?_drop] at hj
  have := hc (m + j) x hj i hi
  rwa [show o + (m + j) * k + i = o + m * k + j * k + i by rw [Nat.add_mul]; omega] at this
end
/-- Rows as cells. -/
def cellsV {α : Type} (k : Nat) (F : α → Nat → Value) (l : List α) : List Value := l.flatMap fun x => (List.range k).map fun i => F x i
section
variable {α : Type} {k : Nat} {F : α → Nat → Value}
theorem cellsV_at : ∀ {l : List α} {j : Nat} {x : α}, l[j]? = some x → ∀ i, i < k → (cellsV k F l)[j * k + i]? = some (F x i) := by
  intro l
  induction l with
  | nil => intro j x h; simp at h
  | cons y l ih =>
    intro j x h i hi
    have e : cellsV k F (y :: l) = ((List.range k).map fun i => F y i) ++ cellsV k F l := rfl
    rw [e]
    cases j with
    | zero =>
      simp at h
      subst h
      rw [Nat.zero_mul, Nat.zero_add, List.getElem?_append_left (by simp; omega)]
      simp [hi]
    | succ j =>
      rw [List.getElem?_append_right (by simp; rw [Nat.succ_mul]; omega)]
      have := ih (j := j) (x := x) (by simpa using h) i hi
      rw [show (j + 1) * k + i - (List.map (fun i => F y i) (List.range k)).length = j * k + i by simp [Nat.succ_mul]; omega]
      exact this
theorem cellsV_len (l : List α) : (cellsV k F l).length = l.length * k := by
  induction l with
  | nil => simp [cellsV]
  | cons y l ih =>
    have e : cellsV k F (y :: l) = ((List.range k).map fun i => F y i) ++ cellsV k F l := rfl
    rw [e, List.length_append, ih, List.length_cons, Nat.succ_mul]
    simp; omega
/-- What lies in the cells behind a slice's address. -/
theorem Rv.cells {w : World} {A : Option Addr} {c : Nat} {l : List α} (h : Rv k F w A c l) (hk : 0 < k) : ∀ ad, A = some ad → ∀ j u, (cellsV k F l)[j]? = some u → w.cell? (ad.add j) = some u := by
  intro ad hA j u hj
  have hjl := (List.getElem?_eq_some_iff.1 hj).1
  rw [cellsV_len] at hjl
  have hq : j / k < l.length := Nat.div_lt_of_lt_mul (by rw [Nat.mul_comm]; exact hjl)
  obtain ⟨x, hx⟩ : ∃ x, l[j / k]? = some x := ⟨_, List.getElem?_eq_getElem hq⟩
  obtain ⟨b, o, e, -, hc⟩ := h.at_ hx
  rw [hA] at e
  injection e with e
  subst e
  have hr : j % k < k := Nat.mod_lt _ hk
  have hd : j / k * k + j % k = j := by rw [Nat.mul_comm]; exact Nat.div_add_mod j k
  have h1 := cellsV_at (F := F) hx (j % k) hr
  rw [hd, hj] at h1
  injection h1 with h1
  have h2 := hc (j % k) hr
  rw [show o + j / k * k + j % k = o + j by omega] at h2
  rw [h1]
  have e : (⟨b, o, none⟩ : Addr).add j = ⟨b, o + j, none⟩ := by unfold Addr.add; split <;> simp_all
  rw [e]; exact h2
end
def hstV (x : Hst) : Nat → Value
  | 0 => .int .u8 (x.phase : Int)
  | _ => .int .i64 x.fw
def repV (x : Rep) : Nat → Value
  | 0 => .int .i64 x.svc
  | _ => .int .i64 x.host
def nrV (x : Nr) : Nat → Value
  | 0 => .int .i64 x.svc
  | _ => .int .i64 x.lat
def inV (x : Int) (_ : Nat) : Value := .int .i64 x
/-- Where a service's lists lie. -/
structure SvA where
  a1 : Option Addr
  c1 : Nat
  a2 : Option Addr
  c2 : Nat
def svV (x : Svc × SvA) : Nat → Value
  | 0 => .int .i64 x.1.cores
  | 1 => .int .i64 x.1.reps
  | 2 => .int .i64 x.1.least
  | 3 => .int .u8 (x.1.dom : Int)
  | 4 => .int .i64 x.1.spread
  | 5 => .slice x.2.a1 x.1.apart.length x.2.c1
  | 6 => .slice x.2.a2 x.1.near.length x.2.c2
  | _ => .int .i64 x.1.fw
/-- A service's lists. -/
structure SvAt (w : World) (x : Svc × SvA) : Prop where
  apart : Rv 1 inV w x.2.a1 x.2.c1 x.1.apart
  near : Rv 2 nrV w x.2.a2 x.2.c2 x.1.near
  dom : x.1.dom < 256
theorem SvAt.on {w w' : World} {x : Svc × SvA} {B : Nat} (h : SvAt w x) (hb : Below B w w') (hB : w.heap.size ≤ B) : SvAt w' x := ⟨h.apart.on hb hB, h.near.on hb hB, h.dom⟩
/-- A wish's services in memory. -/
structure WiAt (w : World) (A : Option Addr) (c : Nat) (xs : List (Svc × SvA)) : Prop where
  row : Rv 8 svV w A c xs
  each : ∀ x ∈ xs, SvAt w x
theorem WiAt.on {w w' : World} {A : Option Addr} {c : Nat} {xs : List (Svc × SvA)} {B : Nat} (h : WiAt w A c xs) (hb : Below B w w') (hB : w.heap.size ≤ B) : WiAt w' A c xs := ⟨h.row.on hb hB, fun x hx => (h.each x hx).on hb hB⟩
/-- Where a world's lists lie. -/
structure WP where
  a1 : Option Addr
  c1 : Nat
  a2 : Option Addr
  c2 : Nat
def woA (p : WP) (d : WorldD) : Array Value := #[.slice p.a1 d.hosts.length p.c1, .slice p.a2 d.reps.length p.c2]
structure WoAt (w : World) (p : WP) (d : WorldD) : Prop where
  hosts : Rv 2 hstV w p.a1 p.c1 d.hosts
  reps : Rv 2 repV w p.a2 p.c2 d.reps
  phase : ∀ h ∈ d.hosts, h.phase < 256
theorem WoAt.on {w w' : World} {p : WP} {d : WorldD} {B : Nat} (h : WoAt w p d) (hb : Below B w w') (hB : w.heap.size ≤ B) : WoAt w' p d := ⟨h.hosts.on hb hB, h.reps.on hb hB, h.phase⟩
theorem box_new (w : World) (cs : Array Value) (T : TypeId) : (w.alloc (.cells cs T)).heap[w.heap.size]? = some (.cells cs T (0, 0)) := heap_alloc_new _ _
theorem box_on {w w' : World} {b : Nat} {o : Obj} {B : Nat} (h : w.heap[b]? = some o) (hb : Below B w w') (hB : w.heap.size ≤ B) : w'.heap[b]? = some o := (hb.block _ (Nat.lt_of_lt_of_le (at_lt h) hB)).trans h
end Go.Proofs.Ytacdpklgnibkeaa
