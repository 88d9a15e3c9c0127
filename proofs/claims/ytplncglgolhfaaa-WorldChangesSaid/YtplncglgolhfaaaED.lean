/-
  DERIVED. keepsRanges of the landed package (written by gen/world_ED.py).
-/
import Derived.Test.YtplncglgolhfaaaEC
namespace Go.Proofs.Ytplncglgolhfaaa
open Go.RowKit
set_option maxRecDepth 100000
set_option linter.unusedVariables false
set_option linter.unusedSimpArgs false

set_option maxHeartbeats 8000000 in
theorem c_keeps0 (x : Svc × SvA) (hd : x.1.dom = 0) (r : Bool) (hr : keepB x.1 = r) (w : World) (h : SvAt w x) :
    Calls Try.prog 38 #[.agg (svA x)] w fun e w' => e = .returned (.bool r) ∧ Below w.heap.size w w' := by
  unfold svA
  obtain ⟨W, hW⟩ : ∃ W, W = w.alloc (.cells (svA x) 64) := ⟨_, rfl⟩
  have B0 : Below w.heap.size w W := by subst hW; exact (Below.refl _ _).alloc (Nat.le_refl _) _
  have HB := Lib.hid B0
  have HX : W.heap[w.heap.size]? = some (.cells (svA x) 64 (0, 0)) := by subst hW; exact box_new _ _ _
  have x0 : W.cell? ⟨w.heap.size, 0, none⟩ = some (.int .i64 x.1.cores) := cell_of HX rfl
  have x1 : W.cell? ⟨w.heap.size, 1, none⟩ = some (.int .i64 x.1.reps) := cell_of HX rfl
  have x2 : W.cell? ⟨w.heap.size, 2, none⟩ = some (.int .i64 x.1.least) := cell_of HX rfl
  have x3 : W.cell? ⟨w.heap.size, 3, none⟩ = some (.int .u8 (x.1.dom : Int)) := cell_of HX rfl
  have x4 : W.cell? ⟨w.heap.size, 4, none⟩ = some (.int .i64 x.1.spread) := cell_of HX rfl
  have x6 : W.cell? ⟨w.heap.size, 6, none⟩ = some (.slice x.2.a2 x.1.near.length x.2.c2) := cell_of HX rfl
  have x7 : W.cell? ⟨w.heap.size, 7, none⟩ = some (.int .i64 x.1.fw) := cell_of HX rfl
  have HN := Lib.hid (h.near.on B0 (Nat.le_refl _))
  have HR := Lib.hid (show (inB x.1.cores 1 1000 && (inB x.1.reps 0 24 && (inB x.1.least 0 x.1.reps && (inB x.1.fw 0 1000000 && (decide (x.1.dom ≤ 5) && (inB x.1.spread 0 0 && !x.1.near.any nearBad)))))) = r by unfold keepB at hr; simp only [if_pos hd] at hr; exact hr)
  have hd0 : ((x.1.dom : Int) == 0) = true := by rw [hd]; rfl
  clear hr h HX B0 hd
  generalize hA : w.heap.size = A at *
  unfold svA at hW
  rw [hW] at x0 x1 x2 x3 x4 x6 x7
  go_enter Try.func38, Try.ntmps38
  go_wp2_with (fail)
  rw [← hW] at x0 x1 x2 x3 x4 x6 x7 ⊢
  clear hW
  obtain ⟨r0, h0⟩ : ∃ b, inB x.1.cores 1 1000 = b := ⟨_, rfl⟩
  have Q0 := Lib.hid h0
  clear h0
  go_at_call 42
  refine (c_woIsFrom 1 1000 x.1.cores r0 Q0.out W).mono ?_
  rintro e wx ⟨rfl, hwx⟩
  rw [hwx]
  clear hwx wx
  cases r0
  · obtain rfl : false = r := by have h := HR.out; rw [show (inB x.1.cores 1 1000) = false from Q0.out] at h; exact h
    go_wp2_with (fail)
    go_ret
    exact ⟨rfl, HB.out⟩
  go_wp2_with (fail)
  obtain ⟨r1, h1⟩ : ∃ b, inB x.1.reps 0 24 = b := ⟨_, rfl⟩
  have Q1 := Lib.hid h1
  clear h1
  go_at_call 42
  refine (c_woIsFrom 0 24 x.1.reps r1 Q1.out W).mono ?_
  rintro e wx ⟨rfl, hwx⟩
  rw [hwx]
  clear hwx wx
  cases r1
  · obtain rfl : false = r := by have h := HR.out; rw [show (inB x.1.cores 1 1000) = true from Q0.out, show (inB x.1.reps 0 24) = false from Q1.out] at h; exact h
    go_wp2_with (fail)
    go_ret
    exact ⟨rfl, HB.out⟩
  go_wp2_with (fail)
  obtain ⟨r2, h2⟩ : ∃ b, inB x.1.least 0 x.1.reps = b := ⟨_, rfl⟩
  have Q2 := Lib.hid h2
  clear h2
  go_at_call 42
  refine (c_woIsFrom 0 x.1.reps x.1.least r2 Q2.out W).mono ?_
  rintro e wx ⟨rfl, hwx⟩
  rw [hwx]
  clear hwx wx
  cases r2
  · obtain rfl : false = r := by have h := HR.out; rw [show (inB x.1.cores 1 1000) = true from Q0.out, show (inB x.1.reps 0 24) = true from Q1.out, show (inB x.1.least 0 x.1.reps) = false from Q2.out] at h; exact h
    go_wp2_with (fail)
    go_ret
    exact ⟨rfl, HB.out⟩
  go_wp2_with (fail)
  obtain ⟨r3, h3⟩ : ∃ b, inB x.1.fw 0 1000000 = b := ⟨_, rfl⟩
  have Q3 := Lib.hid h3
  clear h3
  go_at_call 42
  refine (c_woIsFrom 0 1000000 x.1.fw r3 Q3.out W).mono ?_
  rintro e wx ⟨rfl, hwx⟩
  rw [hwx]
  clear hwx wx
  cases r3
  · obtain rfl : false = r := by have h := HR.out; rw [show (inB x.1.cores 1 1000) = true from Q0.out, show (inB x.1.reps 0 24) = true from Q1.out, show (inB x.1.least 0 x.1.reps) = true from Q2.out, show (inB x.1.fw 0 1000000) = false from Q3.out] at h; exact h
    go_wp2_with (fail)
    go_ret
    exact ⟨rfl, HB.out⟩
  obtain ⟨r4, h4⟩ : ∃ b, decide (x.1.dom ≤ 5) = b := ⟨_, rfl⟩
  have Q4 := Lib.hid h4
  have hd5 : decide ((x.1.dom : Int) ≤ 5) = r4 := by rw [← h4]; exact decide_eq_decide.2 (by omega)
  clear h4
  cases r4
  · obtain rfl : false = r := by have h := HR.out; rw [show (inB x.1.cores 1 1000) = true from Q0.out, show (inB x.1.reps 0 24) = true from Q1.out, show (inB x.1.least 0 x.1.reps) = true from Q2.out, show (inB x.1.fw 0 1000000) = true from Q3.out, show (decide (x.1.dom ≤ 5)) = false from Q4.out] at h; exact h
    go_wp2_with (fail)
    go_ret
    exact ⟨rfl, HB.out⟩
  go_wp2_with (fail)
  obtain ⟨r5, h5⟩ : ∃ b, inB x.1.spread 0 0 = b := ⟨_, rfl⟩
  have Q5 := Lib.hid h5
  clear h5
  go_at_call 42
  refine (c_woIsFrom 0 0 x.1.spread r5 Q5.out W).mono ?_
  rintro e wx ⟨rfl, hwx⟩
  rw [hwx]
  clear hwx wx
  cases r5
  · obtain rfl : false = r := by have h := HR.out; rw [show (inB x.1.cores 1 1000) = true from Q0.out, show (inB x.1.reps 0 24) = true from Q1.out, show (inB x.1.least 0 x.1.reps) = true from Q2.out, show (inB x.1.fw 0 1000000) = true from Q3.out, show (decide (x.1.dom ≤ 5)) = true from Q4.out, show (inB x.1.spread 0 0) = false from Q5.out] at h; exact h
    go_wp2_with (fail)
    go_ret
    exact ⟨rfl, HB.out⟩
  go_wp2_with (fail)
  obtain ⟨r6, h6⟩ : ∃ b, x.1.near.any nearBad = b := ⟨_, rfl⟩
  have Q6 := Lib.hid h6
  clear h6
  go_at_call 60
  refine (c_CF_Near x.2.a2 x.2.c2 x.1.near W HN.out r6 Q6.out).mono ?_
  rintro e w1 ⟨rfl, b1⟩
  have HB1 := Lib.hid (below_join HB.out b1 (by rw [← hA]; exact HB.out.size))
  clear b1
  cases r6
  · obtain rfl : true = r := by have h := HR.out; rw [show (inB x.1.cores 1 1000) = true from Q0.out, show (inB x.1.reps 0 24) = true from Q1.out, show (inB x.1.least 0 x.1.reps) = true from Q2.out, show (inB x.1.fw 0 1000000) = true from Q3.out, show (decide (x.1.dom ≤ 5)) = true from Q4.out, show (inB x.1.spread 0 0) = true from Q5.out, show (x.1.near.any nearBad) = false from Q6.out] at h; exact h
    go_wp2_with (fail)
    go_ret
    exact ⟨rfl, HB1.out⟩
  · obtain rfl : false = r := by have h := HR.out; rw [show (inB x.1.cores 1 1000) = true from Q0.out, show (inB x.1.reps 0 24) = true from Q1.out, show (inB x.1.least 0 x.1.reps) = true from Q2.out, show (inB x.1.fw 0 1000000) = true from Q3.out, show (decide (x.1.dom ≤ 5)) = true from Q4.out, show (inB x.1.spread 0 0) = true from Q5.out, show (x.1.near.any nearBad) = true from Q6.out] at h; exact h
    go_wp2_with (fail)
    go_ret
    exact ⟨rfl, HB1.out⟩
set_option maxHeartbeats 8000000 in
theorem c_keeps1 (x : Svc × SvA) (hd : x.1.dom ≠ 0) (r : Bool) (hr : keepB x.1 = r) (w : World) (h : SvAt w x) :
    Calls Try.prog 38 #[.agg (svA x)] w fun e w' => e = .returned (.bool r) ∧ Below w.heap.size w w' := by
  unfold svA
  obtain ⟨W, hW⟩ : ∃ W, W = w.alloc (.cells (svA x) 64) := ⟨_, rfl⟩
  have B0 : Below w.heap.size w W := by subst hW; exact (Below.refl _ _).alloc (Nat.le_refl _) _
  have HB := Lib.hid B0
  have HX : W.heap[w.heap.size]? = some (.cells (svA x) 64 (0, 0)) := by subst hW; exact box_new _ _ _
  have x0 : W.cell? ⟨w.heap.size, 0, none⟩ = some (.int .i64 x.1.cores) := cell_of HX rfl
  have x1 : W.cell? ⟨w.heap.size, 1, none⟩ = some (.int .i64 x.1.reps) := cell_of HX rfl
  have x2 : W.cell? ⟨w.heap.size, 2, none⟩ = some (.int .i64 x.1.least) := cell_of HX rfl
  have x3 : W.cell? ⟨w.heap.size, 3, none⟩ = some (.int .u8 (x.1.dom : Int)) := cell_of HX rfl
  have x4 : W.cell? ⟨w.heap.size, 4, none⟩ = some (.int .i64 x.1.spread) := cell_of HX rfl
  have x6 : W.cell? ⟨w.heap.size, 6, none⟩ = some (.slice x.2.a2 x.1.near.length x.2.c2) := cell_of HX rfl
  have x7 : W.cell? ⟨w.heap.size, 7, none⟩ = some (.int .i64 x.1.fw) := cell_of HX rfl
  have HN := Lib.hid (h.near.on B0 (Nat.le_refl _))
  have HR := Lib.hid (show (inB x.1.cores 1 1000 && (inB x.1.reps 0 24 && (inB x.1.least 0 x.1.reps && (inB x.1.fw 0 1000000 && (decide (x.1.dom ≤ 5) && (inB x.1.spread 1 24 && !x.1.near.any nearBad)))))) = r by unfold keepB at hr; simp only [if_neg hd] at hr; exact hr)
  have hd0 : ((x.1.dom : Int) == 0) = false := by simpa using hd
  clear hr h HX B0 hd
  generalize hA : w.heap.size = A at *
  unfold svA at hW
  rw [hW] at x0 x1 x2 x3 x4 x6 x7
  go_enter Try.func38, Try.ntmps38
  go_wp2_with (fail)
  rw [← hW] at x0 x1 x2 x3 x4 x6 x7 ⊢
  clear hW
  obtain ⟨r0, h0⟩ : ∃ b, inB x.1.cores 1 1000 = b := ⟨_, rfl⟩
  have Q0 := Lib.hid h0
  clear h0
  go_at_call 42
  refine (c_woIsFrom 1 1000 x.1.cores r0 Q0.out W).mono ?_
  rintro e wx ⟨rfl, hwx⟩
  rw [hwx]
  clear hwx wx
  cases r0
  · obtain rfl : false = r := by have h := HR.out; rw [show (inB x.1.cores 1 1000) = false from Q0.out] at h; exact h
    go_wp2_with (fail)
    go_ret
    exact ⟨rfl, HB.out⟩
  go_wp2_with (fail)
  obtain ⟨r1, h1⟩ : ∃ b, inB x.1.reps 0 24 = b := ⟨_, rfl⟩
  have Q1 := Lib.hid h1
  clear h1
  go_at_call 42
  refine (c_woIsFrom 0 24 x.1.reps r1 Q1.out W).mono ?_
  rintro e wx ⟨rfl, hwx⟩
  rw [hwx]
  clear hwx wx
  cases r1
  · obtain rfl : false = r := by have h := HR.out; rw [show (inB x.1.cores 1 1000) = true from Q0.out, show (inB x.1.reps 0 24) = false from Q1.out] at h; exact h
    go_wp2_with (fail)
    go_ret
    exact ⟨rfl, HB.out⟩
  go_wp2_with (fail)
  obtain ⟨r2, h2⟩ : ∃ b, inB x.1.least 0 x.1.reps = b := ⟨_, rfl⟩
  have Q2 := Lib.hid h2
  clear h2
  go_at_call 42
  refine (c_woIsFrom 0 x.1.reps x.1.least r2 Q2.out W).mono ?_
  rintro e wx ⟨rfl, hwx⟩
  rw [hwx]
  clear hwx wx
  cases r2
  · obtain rfl : false = r := by have h := HR.out; rw [show (inB x.1.cores 1 1000) = true from Q0.out, show (inB x.1.reps 0 24) = true from Q1.out, show (inB x.1.least 0 x.1.reps) = false from Q2.out] at h; exact h
    go_wp2_with (fail)
    go_ret
    exact ⟨rfl, HB.out⟩
  go_wp2_with (fail)
  obtain ⟨r3, h3⟩ : ∃ b, inB x.1.fw 0 1000000 = b := ⟨_, rfl⟩
  have Q3 := Lib.hid h3
  clear h3
  go_at_call 42
  refine (c_woIsFrom 0 1000000 x.1.fw r3 Q3.out W).mono ?_
  rintro e wx ⟨rfl, hwx⟩
  rw [hwx]
  clear hwx wx
  cases r3
  · obtain rfl : false = r := by have h := HR.out; rw [show (inB x.1.cores 1 1000) = true from Q0.out, show (inB x.1.reps 0 24) = true from Q1.out, show (inB x.1.least 0 x.1.reps) = true from Q2.out, show (inB x.1.fw 0 1000000) = false from Q3.out] at h; exact h
    go_wp2_with (fail)
    go_ret
    exact ⟨rfl, HB.out⟩
  obtain ⟨r4, h4⟩ : ∃ b, decide (x.1.dom ≤ 5) = b := ⟨_, rfl⟩
  have Q4 := Lib.hid h4
  have hd5 : decide ((x.1.dom : Int) ≤ 5) = r4 := by rw [← h4]; exact decide_eq_decide.2 (by omega)
  clear h4
  cases r4
  · obtain rfl : false = r := by have h := HR.out; rw [show (inB x.1.cores 1 1000) = true from Q0.out, show (inB x.1.reps 0 24) = true from Q1.out, show (inB x.1.least 0 x.1.reps) = true from Q2.out, show (inB x.1.fw 0 1000000) = true from Q3.out, show (decide (x.1.dom ≤ 5)) = false from Q4.out] at h; exact h
    go_wp2_with (fail)
    go_ret
    exact ⟨rfl, HB.out⟩
  go_wp2_with (fail)
  obtain ⟨r5, h5⟩ : ∃ b, inB x.1.spread 1 24 = b := ⟨_, rfl⟩
  have Q5 := Lib.hid h5
  clear h5
  go_at_call 42
  refine (c_woIsFrom 1 24 x.1.spread r5 Q5.out W).mono ?_
  rintro e wx ⟨rfl, hwx⟩
  rw [hwx]
  clear hwx wx
  cases r5
  · obtain rfl : false = r := by have h := HR.out; rw [show (inB x.1.cores 1 1000) = true from Q0.out, show (inB x.1.reps 0 24) = true from Q1.out, show (inB x.1.least 0 x.1.reps) = true from Q2.out, show (inB x.1.fw 0 1000000) = true from Q3.out, show (decide (x.1.dom ≤ 5)) = true from Q4.out, show (inB x.1.spread 1 24) = false from Q5.out] at h; exact h
    go_wp2_with (fail)
    go_ret
    exact ⟨rfl, HB.out⟩
  go_wp2_with (fail)
  obtain ⟨r6, h6⟩ : ∃ b, x.1.near.any nearBad = b := ⟨_, rfl⟩
  have Q6 := Lib.hid h6
  clear h6
  go_at_call 60
  refine (c_CF_Near x.2.a2 x.2.c2 x.1.near W HN.out r6 Q6.out).mono ?_
  rintro e w1 ⟨rfl, b1⟩
  have HB1 := Lib.hid (below_join HB.out b1 (by rw [← hA]; exact HB.out.size))
  clear b1
  cases r6
  · obtain rfl : true = r := by have h := HR.out; rw [show (inB x.1.cores 1 1000) = true from Q0.out, show (inB x.1.reps 0 24) = true from Q1.out, show (inB x.1.least 0 x.1.reps) = true from Q2.out, show (inB x.1.fw 0 1000000) = true from Q3.out, show (decide (x.1.dom ≤ 5)) = true from Q4.out, show (inB x.1.spread 1 24) = true from Q5.out, show (x.1.near.any nearBad) = false from Q6.out] at h; exact h
    go_wp2_with (fail)
    go_ret
    exact ⟨rfl, HB1.out⟩
  · obtain rfl : false = r := by have h := HR.out; rw [show (inB x.1.cores 1 1000) = true from Q0.out, show (inB x.1.reps 0 24) = true from Q1.out, show (inB x.1.least 0 x.1.reps) = true from Q2.out, show (inB x.1.fw 0 1000000) = true from Q3.out, show (decide (x.1.dom ≤ 5)) = true from Q4.out, show (inB x.1.spread 1 24) = true from Q5.out, show (x.1.near.any nearBad) = true from Q6.out] at h; exact h
    go_wp2_with (fail)
    go_ret
    exact ⟨rfl, HB1.out⟩
theorem c_keeps (x : Svc × SvA) (r : Bool) (hr : keepB x.1 = r) (w : World) (h : SvAt w x) :
    Calls Try.prog 38 #[.agg (svA x)] w fun e w' => e = .returned (.bool r) ∧ Below w.heap.size w w' := by
  by_cases hd : x.1.dom = 0
  · exact c_keeps0 x hd r hr w h
  · exact c_keeps1 x hd r hr w h
end Go.Proofs.Ytplncglgolhfaaa
