/-
  DERIVED. Several texts in one.
-/
import Derived.Test.YtpokpgnclohiiaaGreatPB3
import Derived.Test.YtpokpgnclohiiaaGreatPB2
import Derived.Deep.RegionHeld3
import Derived.Laws.StructEq
import Derived.Lib.AppendZerosOnto
import Derived.Lib.Walk
import Derived.Laws.AppendOwnNone
import Derived.Laws.CopyOwn
import Derived.Lib.SliceRun
import Derived.OwnWalk
import Derived.Laws.IdiomCopy
set_option linter.unusedVariables false
set_option linter.unusedSimpArgs false

namespace Go.Proofs.YtpokpgnclohiiaaGreat
open Go.RowKit
set_option maxRecDepth 100000
set_option linter.unusedVariables false
set_option linter.unusedSimpArgs false

set_option maxHeartbeats 8000000 in
theorem c_keeps0 (x : Svc × SvA) (hd : x.1.dom = 0) (r : Bool) (hr : keepB x.1 = r) (w : World) (h : SvAt w x) :
    Calls Tryz.prog 95 #[.agg (svA x)] w fun e w' => e = .returned (.bool r) ∧ Below w.heap.size w w' := by
  unfold svA
  obtain ⟨W, hW⟩ : ∃ W, W = w.alloc (.cells (svA x) 92) := ⟨_, rfl⟩
  have B0 : Below w.heap.size w W := by subst hW; exact (Below.refl _ _).alloc (Nat.le_refl _) _
  have HB := Lib.hid B0
  have HX : W.heap[w.heap.size]? = some (.cells (svA x) 92 (0, 0)) := by subst hW; exact box_new _ _ _
  have x0 : W.cell? ⟨w.heap.size, 0, none⟩ = some (.int .i64 x.1.cores) := cell_of HX rfl
  have x1 : W.cell? ⟨w.heap.size, 1, none⟩ = some (.int .i64 x.1.reps) := cell_of HX rfl
  have x2 : W.cell? ⟨w.heap.size, 2, none⟩ = some (.int .i64 x.1.least) := cell_of HX rfl
  have x3 : W.cell? ⟨w.heap.size, 3, none⟩ = some (.int .u8 (x.1.dom : Int)) := cell_of HX rfl
  have x4 : W.cell? ⟨w.heap.size, 4, none⟩ = some (.int .i64 x.1.spread) := cell_of HX rfl
  have x6 : W.cell? ⟨w.heap.size, 6, none⟩ = some (.slice x.2.a2 x.1.near.length x.2.c2) := cell_of HX rfl
  have x7 : W.cell? ⟨w.heap.size, 7, none⟩ = some (.int .i64 x.1.fw) := cell_of HX rfl
  have HN := Lib.hid (h.near.on B0 (Nat.le_refl _))
  have HR := Lib.hid (show (inB x.1.cores 1 1000 && (inB x.1.reps 0 24 && (inB x.1.least 0 x.1.reps && (inB x.1.fw 0 1000000 && (decide (x.1.dom ≤ 5) && (inB x.1.spread 0 0 && !x.1.near.any nearBad)))))) = r by unfold keepB at hr; simp only [if_pos hd] at hr; exact hr)
  have hd0 : ((x.1.dom : Int) == 0) = true := by rw [hd]; rfl
  clear hr h HX B0 hd
  generalize hA : w.heap.size = A at *
  unfold svA at hW
  rw [hW] at x0 x1 x2 x3 x4 x6 x7
  go_enter Tryz.func95, Tryz.ntmps95
  go_wp2_with (fail)
  rw [← hW] at x0 x1 x2 x3 x4 x6 x7 ⊢
  clear hW
  obtain ⟨r0, h0⟩ : ∃ b, inB x.1.cores 1 1000 = b := ⟨_, rfl⟩
  have Q0 := Lib.hid h0
  clear h0
  go_at_call 72
  refine (c_woIsFrom 1 1000 x.1.cores r0 Q0.out W).mono ?_
  rintro e wx ⟨rfl, hwx⟩
  rw [hwx]
  clear hwx wx
  cases r0
  · obtain rfl : false = r := by have h := HR.out; rw [show (inB x.1.cores 1 1000) = false from Q0.out] at h; exact h
    go_wp2_with (fail)
    go_ret
    exact ⟨rfl, HB.out⟩
  go_wp2_with (fail)
  obtain ⟨r1, h1⟩ : ∃ b, inB x.1.reps 0 24 = b := ⟨_, rfl⟩
  have Q1 := Lib.hid h1
  clear h1
  go_at_call 72
  refine (c_woIsFrom 0 24 x.1.reps r1 Q1.out W).mono ?_
  rintro e wx ⟨rfl, hwx⟩
  rw [hwx]
  clear hwx wx
  cases r1
  · obtain rfl : false = r := by have h := HR.out; rw [show (inB x.1.cores 1 1000) = true from Q0.out, show (inB x.1.reps 0 24) = false from Q1.out] at h; exact h
    go_wp2_with (fail)
    go_ret
    exact ⟨rfl, HB.out⟩
  go_wp2_with (fail)
  obtain ⟨r2, h2⟩ : ∃ b, inB x.1.least 0 x.1.reps = b := ⟨_, rfl⟩
  have Q2 := Lib.hid h2
  clear h2
  go_at_call 72
  refine (c_woIsFrom 0 x.1.reps x.1.least r2 Q2.out W).mono ?_
  rintro e wx ⟨rfl, hwx⟩
  rw [hwx]
  clear hwx wx
  cases r2
  · obtain rfl : false = r := by have h := HR.out; rw [show (inB x.1.cores 1 1000) = true from Q0.out, show (inB x.1.reps 0 24) = true from Q1.out, show (inB x.1.least 0 x.1.reps) = false from Q2.out] at h; exact h
    go_wp2_with (fail)
    go_ret
    exact ⟨rfl, HB.out⟩
  go_wp2_with (fail)
  obtain ⟨r3, h3⟩ : ∃ b, inB x.1.fw 0 1000000 = b := ⟨_, rfl⟩
  have Q3 := Lib.hid h3
  clear h3
  go_at_call 72
  refine (c_woIsFrom 0 1000000 x.1.fw r3 Q3.out W).mono ?_
  rintro e wx ⟨rfl, hwx⟩
  rw [hwx]
  clear hwx wx
  cases r3
  · obtain rfl : false = r := by have h := HR.out; rw [show (inB x.1.cores 1 1000) = true from Q0.out, show (inB x.1.reps 0 24) = true from Q1.out, show (inB x.1.least 0 x.1.reps) = true from Q2.out, show (inB x.1.fw 0 1000000) = false from Q3.out] at h; exact h
    go_wp2_with (fail)
    go_ret
    exact ⟨rfl, HB.out⟩
  obtain ⟨r4, h4⟩ : ∃ b, decide (x.1.dom ≤ 5) = b := ⟨_, rfl⟩
  have Q4 := Lib.hid h4
  have hd5 : decide ((x.1.dom : Int) ≤ 5) = r4 := by rw [← h4]; exact decide_eq_decide.2 (by omega)
  clear h4
  cases r4
  · obtain rfl : false = r := by have h := HR.out; rw [show (inB x.1.cores 1 1000) = true from Q0.out, show (inB x.1.reps 0 24) = true from Q1.out, show (inB x.1.least 0 x.1.reps) = true from Q2.out, show (inB x.1.fw 0 1000000) = true from Q3.out, show (decide (x.1.dom ≤ 5)) = false from Q4.out] at h; exact h
    go_wp2_with (fail)
    go_ret
    exact ⟨rfl, HB.out⟩
  go_wp2_with (fail)
  obtain ⟨r5, h5⟩ : ∃ b, inB x.1.spread 0 0 = b := ⟨_, rfl⟩
  have Q5 := Lib.hid h5
  clear h5
  go_at_call 72
  refine (c_woIsFrom 0 0 x.1.spread r5 Q5.out W).mono ?_
  rintro e wx ⟨rfl, hwx⟩
  rw [hwx]
  clear hwx wx
  cases r5
  · obtain rfl : false = r := by have h := HR.out; rw [show (inB x.1.cores 1 1000) = true from Q0.out, show (inB x.1.reps 0 24) = true from Q1.out, show (inB x.1.least 0 x.1.reps) = true from Q2.out, show (inB x.1.fw 0 1000000) = true from Q3.out, show (decide (x.1.dom ≤ 5)) = true from Q4.out, show (inB x.1.spread 0 0) = false from Q5.out] at h; exact h
    go_wp2_with (fail)
    go_ret
    exact ⟨rfl, HB.out⟩
  go_wp2_with (fail)
  obtain ⟨r6, h6⟩ : ∃ b, x.1.near.any nearBad = b := ⟨_, rfl⟩
  have Q6 := Lib.hid h6
  clear h6
  go_at_call 109
  refine (c_CF_Near x.2.a2 x.2.c2 x.1.near W HN.out r6 Q6.out).mono ?_
  rintro e w1 ⟨rfl, b1⟩
  have HB1 := Lib.hid (below_join HB.out b1 (by rw [← hA]; exact HB.out.size))
  clear b1
  cases r6
  · obtain rfl : true = r := by have h := HR.out; rw [show (inB x.1.cores 1 1000) = true from Q0.out, show (inB x.1.reps 0 24) = true from Q1.out, show (inB x.1.least 0 x.1.reps) = true from Q2.out, show (inB x.1.fw 0 1000000) = true from Q3.out, show (decide (x.1.dom ≤ 5)) = true from Q4.out, show (inB x.1.spread 0 0) = true from Q5.out, show (x.1.near.any nearBad) = false from Q6.out] at h; exact h
    go_wp2_with (fail)
    go_ret
    exact ⟨rfl, HB1.out⟩
  · obtain rfl : false = r := by have h := HR.out; rw [show (inB x.1.cores 1 1000) = true from Q0.out, show (inB x.1.reps 0 24) = true from Q1.out, show (inB x.1.least 0 x.1.reps) = true from Q2.out, show (inB x.1.fw 0 1000000) = true from Q3.out, show (decide (x.1.dom ≤ 5)) = true from Q4.out, show (inB x.1.spread 0 0) = true from Q5.out, show (x.1.near.any nearBad) = true from Q6.out] at h; exact h
    go_wp2_with (fail)
    go_ret
    exact ⟨rfl, HB1.out⟩
set_option maxHeartbeats 8000000 in
theorem c_keeps1 (x : Svc × SvA) (hd : x.1.dom ≠ 0) (r : Bool) (hr : keepB x.1 = r) (w : World) (h : SvAt w x) :
    Calls Tryz.prog 95 #[.agg (svA x)] w fun e w' => e = .returned (.bool r) ∧ Below w.heap.size w w' := by
  unfold svA
  obtain ⟨W, hW⟩ : ∃ W, W = w.alloc (.cells (svA x) 92) := ⟨_, rfl⟩
  have B0 : Below w.heap.size w W := by subst hW; exact (Below.refl _ _).alloc (Nat.le_refl _) _
  have HB := Lib.hid B0
  have HX : W.heap[w.heap.size]? = some (.cells (svA x) 92 (0, 0)) := by subst hW; exact box_new _ _ _
  have x0 : W.cell? ⟨w.heap.size, 0, none⟩ = some (.int .i64 x.1.cores) := cell_of HX rfl
  have x1 : W.cell? ⟨w.heap.size, 1, none⟩ = some (.int .i64 x.1.reps) := cell_of HX rfl
  have x2 : W.cell? ⟨w.heap.size, 2, none⟩ = some (.int .i64 x.1.least) := cell_of HX rfl
  have x3 : W.cell? ⟨w.heap.size, 3, none⟩ = some (.int .u8 (x.1.dom : Int)) := cell_of HX rfl
  have x4 : W.cell? ⟨w.heap.size, 4, none⟩ = some (.int .i64 x.1.spread) := cell_of HX rfl
  have x6 : W.cell? ⟨w.heap.size, 6, none⟩ = some (.slice x.2.a2 x.1.near.length x.2.c2) := cell_of HX rfl
  have x7 : W.cell? ⟨w.heap.size, 7, none⟩ = some (.int .i64 x.1.fw) := cell_of HX rfl
  have HN := Lib.hid (h.near.on B0 (Nat.le_refl _))
  have HR := Lib.hid (show (inB x.1.cores 1 1000 && (inB x.1.reps 0 24 && (inB x.1.least 0 x.1.reps && (inB x.1.fw 0 1000000 && (decide (x.1.dom ≤ 5) && (inB x.1.spread 1 24 && !x.1.near.any nearBad)))))) = r by unfold keepB at hr; simp only [if_neg hd] at hr; exact hr)
  have hd0 : ((x.1.dom : Int) == 0) = false := by simpa using hd
  clear hr h HX B0 hd
  generalize hA : w.heap.size = A at *
  unfold svA at hW
  rw [hW] at x0 x1 x2 x3 x4 x6 x7
  go_enter Tryz.func95, Tryz.ntmps95
  go_wp2_with (fail)
  rw [← hW] at x0 x1 x2 x3 x4 x6 x7 ⊢
  clear hW
  obtain ⟨r0, h0⟩ : ∃ b, inB x.1.cores 1 1000 = b := ⟨_, rfl⟩
  have Q0 := Lib.hid h0
  clear h0
  go_at_call 72
  refine (c_woIsFrom 1 1000 x.1.cores r0 Q0.out W).mono ?_
  rintro e wx ⟨rfl, hwx⟩
  rw [hwx]
  clear hwx wx
  cases r0
  · obtain rfl : false = r := by have h := HR.out; rw [show (inB x.1.cores 1 1000) = false from Q0.out] at h; exact h
    go_wp2_with (fail)
    go_ret
    exact ⟨rfl, HB.out⟩
  go_wp2_with (fail)
  obtain ⟨r1, h1⟩ : ∃ b, inB x.1.reps 0 24 = b := ⟨_, rfl⟩
  have Q1 := Lib.hid h1
  clear h1
  go_at_call 72
  refine (c_woIsFrom 0 24 x.1.reps r1 Q1.out W).mono ?_
  rintro e wx ⟨rfl, hwx⟩
  rw [hwx]
  clear hwx wx
  cases r1
  · obtain rfl : false = r := by have h := HR.out; rw [show (inB x.1.cores 1 1000) = true from Q0.out, show (inB x.1.reps 0 24) = false from Q1.out] at h; exact h
    go_wp2_with (fail)
    go_ret
    exact ⟨rfl, HB.out⟩
  go_wp2_with (fail)
  obtain ⟨r2, h2⟩ : ∃ b, inB x.1.least 0 x.1.reps = b := ⟨_, rfl⟩
  have Q2 := Lib.hid h2
  clear h2
  go_at_call 72
  refine (c_woIsFrom 0 x.1.reps x.1.least r2 Q2.out W).mono ?_
  rintro e wx ⟨rfl, hwx⟩
  rw [hwx]
  clear hwx wx
  cases r2
  · obtain rfl : false = r := by have h := HR.out; rw [show (inB x.1.cores 1 1000) = true from Q0.out, show (inB x.1.reps 0 24) = true from Q1.out, show (inB x.1.least 0 x.1.reps) = false from Q2.out] at h; exact h
    go_wp2_with (fail)
    go_ret
    exact ⟨rfl, HB.out⟩
  go_wp2_with (fail)
  obtain ⟨r3, h3⟩ : ∃ b, inB x.1.fw 0 1000000 = b := ⟨_, rfl⟩
  have Q3 := Lib.hid h3
  clear h3
  go_at_call 72
  refine (c_woIsFrom 0 1000000 x.1.fw r3 Q3.out W).mono ?_
  rintro e wx ⟨rfl, hwx⟩
  rw [hwx]
  clear hwx wx
  cases r3
  · obtain rfl : false = r := by have h := HR.out; rw [show (inB x.1.cores 1 1000) = true from Q0.out, show (inB x.1.reps 0 24) = true from Q1.out, show (inB x.1.least 0 x.1.reps) = true from Q2.out, show (inB x.1.fw 0 1000000) = false from Q3.out] at h; exact h
    go_wp2_with (fail)
    go_ret
    exact ⟨rfl, HB.out⟩
  obtain ⟨r4, h4⟩ : ∃ b, decide (x.1.dom ≤ 5) = b := ⟨_, rfl⟩
  have Q4 := Lib.hid h4
  have hd5 : decide ((x.1.dom : Int) ≤ 5) = r4 := by rw [← h4]; exact decide_eq_decide.2 (by omega)
  clear h4
  cases r4
  · obtain rfl : false = r := by have h := HR.out; rw [show (inB x.1.cores 1 1000) = true from Q0.out, show (inB x.1.reps 0 24) = true from Q1.out, show (inB x.1.least 0 x.1.reps) = true from Q2.out, show (inB x.1.fw 0 1000000) = true from Q3.out, show (decide (x.1.dom ≤ 5)) = false from Q4.out] at h; exact h
    go_wp2_with (fail)
    go_ret
    exact ⟨rfl, HB.out⟩
  go_wp2_with (fail)
  obtain ⟨r5, h5⟩ : ∃ b, inB x.1.spread 1 24 = b := ⟨_, rfl⟩
  have Q5 := Lib.hid h5
  clear h5
  go_at_call 72
  refine (c_woIsFrom 1 24 x.1.spread r5 Q5.out W).mono ?_
  rintro e wx ⟨rfl, hwx⟩
  rw [hwx]
  clear hwx wx
  cases r5
  · obtain rfl : false = r := by have h := HR.out; rw [show (inB x.1.cores 1 1000) = true from Q0.out, show (inB x.1.reps 0 24) = true from Q1.out, show (inB x.1.least 0 x.1.reps) = true from Q2.out, show (inB x.1.fw 0 1000000) = true from Q3.out, show (decide (x.1.dom ≤ 5)) = true from Q4.out, show (inB x.1.spread 1 24) = false from Q5.out] at h; exact h
    go_wp2_with (fail)
    go_ret
    exact ⟨rfl, HB.out⟩
  go_wp2_with (fail)
  obtain ⟨r6, h6⟩ : ∃ b, x.1.near.any nearBad = b := ⟨_, rfl⟩
  have Q6 := Lib.hid h6
  clear h6
  go_at_call 109
  refine (c_CF_Near x.2.a2 x.2.c2 x.1.near W HN.out r6 Q6.out).mono ?_
  rintro e w1 ⟨rfl, b1⟩
  have HB1 := Lib.hid (below_join HB.out b1 (by rw [← hA]; exact HB.out.size))
  clear b1
  cases r6
  · obtain rfl : true = r := by have h := HR.out; rw [show (inB x.1.cores 1 1000) = true from Q0.out, show (inB x.1.reps 0 24) = true from Q1.out, show (inB x.1.least 0 x.1.reps) = true from Q2.out, show (inB x.1.fw 0 1000000) = true from Q3.out, show (decide (x.1.dom ≤ 5)) = true from Q4.out, show (inB x.1.spread 1 24) = true from Q5.out, show (x.1.near.any nearBad) = false from Q6.out] at h; exact h
    go_wp2_with (fail)
    go_ret
    exact ⟨rfl, HB1.out⟩
  · obtain rfl : false = r := by have h := HR.out; rw [show (inB x.1.cores 1 1000) = true from Q0.out, show (inB x.1.reps 0 24) = true from Q1.out, show (inB x.1.least 0 x.1.reps) = true from Q2.out, show (inB x.1.fw 0 1000000) = true from Q3.out, show (decide (x.1.dom ≤ 5)) = true from Q4.out, show (inB x.1.spread 1 24) = true from Q5.out, show (x.1.near.any nearBad) = true from Q6.out] at h; exact h
    go_wp2_with (fail)
    go_ret
    exact ⟨rfl, HB1.out⟩
theorem c_keeps (x : Svc × SvA) (r : Bool) (hr : keepB x.1 = r) (w : World) (h : SvAt w x) :
    Calls Tryz.prog 95 #[.agg (svA x)] w fun e w' => e = .returned (.bool r) ∧ Below w.heap.size w w' := by
  by_cases hd : x.1.dom = 0
  · exact c_keeps0 x hd r hr w h
  · exact c_keeps1 x hd r hr w h
end Go.Proofs.YtpokpgnclohiiaaGreat

namespace Go.Proofs.YtpokpgnclohiiaaGreat
open Go.RowKit
set_option maxRecDepth 100000
set_option linter.unusedVariables false
set_option linter.unusedSimpArgs false

theorem drop_at {α : Type} {l : List α} {k : Nat} {x : α} (h : l[k]? = some x) : l.drop k = x :: l.drop (k + 1) := by
  obtain ⟨h1, h2⟩ := List.getElem?_eq_some_iff.1 h
  rw [← h2]; exact List.drop_eq_getElem_cons h1
set_option maxHeartbeats 2000000 in
theorem c_itself (x : Int) (w : World) : Calls Tryz.prog 110 #[.int .i64 x] w fun e w' => e = .returned (.int .i64 x) ∧ w' = w := by
  go_enter Tryz.func110, Tryz.ntmps110
  go_wp2
  go_ret
  exact ⟨rfl, rfl⟩
set_option maxHeartbeats 2000000 in
theorem c_ofNear (x : Nr) (w : World) : Calls Tryz.prog 111 #[.agg #[.int .i64 x.svc, .int .i64 x.lat]] w fun e w' => e = .returned (.int .i64 x.svc) ∧ Below w.heap.size w w' := by
  go_enter Tryz.func111, Tryz.ntmps111
  go_wp2
  go_ret
  exact ⟨rfl, (Below.refl _ _).alloc (Nat.le_refl _) _⟩
set_option maxHeartbeats 8000000 in
theorem c_others_int (own many : Int) (A : Option Addr) (c : Nat) (l : List Int) (r : Bool) (hr : othB own many l = r) (w : World) (h : Rv 1 inV w A c l) :
    Calls Tryz.prog 112 #[.slice A l.length c, .func (.func 110) #[] #[], .int .i64 own, .int .i64 many] w fun e w' => e = .returned (.bool r) ∧ Below w.heap.size w w' := by
  have H := Lib.hid h
  have HR := Lib.hid hr
  have hc1 := h.1
  have hc2 := h.2.1
  unfold maxLen at hc2
  clear h hr
  go_enter Tryz.func112, Tryz.ntmps112
  go_wp2_with (fail)
  go_loopw [9, 15] (fun la i wr => ∃ (k : Nat) (last : Int), k ≤ l.length ∧ la = .int .i64 last ∧ i = .int .i64 (k : Int) ∧ Hid (othB own many l = othGo own many last (l.drop k)) ∧ Hid (Below w.heap.size w wr)) (fun _ i _ => l.length - (intOf i).toNat)
  case atStart => exact ⟨0, -1, Nat.zero_le _, rfl, rfl, Lib.hid rfl, Lib.hid (Below.refl _ _)⟩
  case round =>
    obtain ⟨k, last, hk, rfl, rfl, hgo, hB⟩ := hrel
    by_cases hlt : k < l.length
    · obtain ⟨x, hx⟩ : ∃ x, l[k]? = some x := ⟨_, List.getElem?_eq_getElem hlt⟩
      have HK := H.out.on hB.out (Nat.le_refl _)
      obtain ⟨pb, o, rfl, -, -⟩ := HK.at_ hx
      have y0 := int_at HK hx
      have HD := Lib.hid (show othB own many l = othGo own many last (x :: l.drop (k + 1)) by rw [hgo.out, drop_at (show l[k]? = some x by simp [hx])])
      have hki : ((k : Nat) : Int).toNat = k := by omega
      have hlt' : (k : Int) < ((l.length : Nat) : Int) := by omega
      have hs := hB.out.size
      clear hx HK hgo
      rcases h1 : decide (x ≤ last) with _ | _
      · rcases h2 : decide (many ≤ x) with _ | _
        · rcases h3 : (x == own) with _ | _
          · have HN := Lib.hid (show othB own many l = othGo own many x (l.drop (k + 1)) by rw [HD.out, othGo_cons_ok (fun h => h.elim (fun h => of_decide_eq_false h1 h) (fun h => h.elim (fun h => of_decide_eq_false h2 h) (fun h => (beq_eq_false_iff_ne.1 h3) h)))])
            go_wp2_with (go_at_call 110; refine (c_itself x _).mono ?_; rintro e w1 ⟨rfl, rfl⟩)
            go_roundw
            case rel => exact ⟨k + 1, x, by omega, rfl, by go_num, HN, hB⟩
            case measure => simp only [intOf]; omega
          · obtain rfl : false = r := by rw [← HR.out, HD.out, othGo_cons_no (.inr (.inr (eq_of_beq h3)))]
            go_wp2_with (go_at_call 110; refine (c_itself x _).mono ?_; rintro e w1 ⟨rfl, rfl⟩)
            go_ret
            exact ⟨rfl, hB.out⟩
        · obtain rfl : false = r := by rw [← HR.out, HD.out, othGo_cons_no (.inr (.inl (of_decide_eq_true h2)))]
          go_wp2_with (go_at_call 110; refine (c_itself x _).mono ?_; rintro e w1 ⟨rfl, rfl⟩)
          go_ret
          exact ⟨rfl, hB.out⟩
      · obtain rfl : false = r := by rw [← HR.out, HD.out, othGo_cons_no (.inl (of_decide_eq_true h1))]
        go_wp2_with (go_at_call 110; refine (c_itself x _).mono ?_; rintro e w1 ⟨rfl, rfl⟩)
        go_ret
        exact ⟨rfl, hB.out⟩
    · obtain rfl : k = l.length := by omega
      obtain rfl : true = r := by rw [← HR.out, hgo.out, List.drop_eq_nil_of_le (by simp)]; rfl
      go_wp2_with (fail)
      go_ret
      exact ⟨rfl, hB.out⟩
set_option maxHeartbeats 8000000 in
theorem c_others_Near (own many : Int) (A : Option Addr) (c : Nat) (l : List Nr) (r : Bool) (hr : othB own many (l.map (·.svc)) = r) (w : World) (h : Rv 2 nrV w A c l) :
    Calls Tryz.prog 113 #[.slice A l.length c, .func (.func 111) #[] #[], .int .i64 own, .int .i64 many] w fun e w' => e = .returned (.bool r) ∧ Below w.heap.size w w' := by
  have H := Lib.hid h
  have HR := Lib.hid hr
  have hc1 := h.1
  have hc2 := h.2.1
  unfold maxLen at hc2
  clear h hr
  go_enter Tryz.func113, Tryz.ntmps113
  go_wp2_with (fail)
  go_loopw [9, 15] (fun la i wr => ∃ (k : Nat) (last : Int), k ≤ l.length ∧ la = .int .i64 last ∧ i = .int .i64 (k : Int) ∧ Hid (othB own many (l.map (·.svc)) = othGo own many last ((l.map (·.svc)).drop k)) ∧ Hid (Below w.heap.size w wr)) (fun _ i _ => l.length - (intOf i).toNat)
  case atStart => exact ⟨0, -1, Nat.zero_le _, rfl, rfl, Lib.hid rfl, Lib.hid (Below.refl _ _)⟩
  case round =>
    obtain ⟨k, last, hk, rfl, rfl, hgo, hB⟩ := hrel
    by_cases hlt : k < l.length
    · obtain ⟨x, hx⟩ : ∃ x, l[k]? = some x := ⟨_, List.getElem?_eq_getElem hlt⟩
      have HK := H.out.on hB.out (Nat.le_refl _)
      obtain ⟨pb, o, rfl, -, -⟩ := HK.at_ hx
      obtain ⟨y0, y1⟩ := near_at HK hx
      have HD := Lib.hid (show othB own many (l.map (·.svc)) = othGo own many last (x.svc :: (l.map (·.svc)).drop (k + 1)) by rw [hgo.out, drop_at (show (l.map (·.svc))[k]? = some x.svc by simp [hx])])
      have hki : ((k : Nat) : Int).toNat = k := by omega
      have hlt' : (k : Int) < ((l.length : Nat) : Int) := by omega
      have hs := hB.out.size
      clear hx HK hgo
      rcases h1 : decide (x.svc ≤ last) with _ | _
      · rcases h2 : decide (many ≤ x.svc) with _ | _
        · rcases h3 : (x.svc == own) with _ | _
          · have HN := Lib.hid (show othB own many (l.map (·.svc)) = othGo own many x.svc ((l.map (·.svc)).drop (k + 1)) by rw [HD.out, othGo_cons_ok (fun h => h.elim (fun h => of_decide_eq_false h1 h) (fun h => h.elim (fun h => of_decide_eq_false h2 h) (fun h => (beq_eq_false_iff_ne.1 h3) h)))])
            go_wp2_with (go_at_call 111; refine (c_ofNear x _).mono ?_; rintro e w1 ⟨rfl, b1⟩; have HB1 := Lib.hid (below_join (hB.out.alloc hB.out.size _) b1 (by rw [World.size_alloc]; have := hB.out.size; omega)); clear b1 y0 y1)
            go_roundw
            case rel => exact ⟨k + 1, x.svc, by omega, rfl, by go_num, HN, HB1⟩
            case measure => simp only [intOf]; omega
          · obtain rfl : false = r := by rw [← HR.out, HD.out, othGo_cons_no (.inr (.inr (eq_of_beq h3)))]
            go_wp2_with (go_at_call 111; refine (c_ofNear x _).mono ?_; rintro e w1 ⟨rfl, b1⟩; have HB1 := Lib.hid (below_join (hB.out.alloc hB.out.size _) b1 (by rw [World.size_alloc]; have := hB.out.size; omega)); clear b1 y0 y1)
            go_ret
            exact ⟨rfl, HB1.out⟩
        · obtain rfl : false = r := by rw [← HR.out, HD.out, othGo_cons_no (.inr (.inl (of_decide_eq_true h2)))]
          go_wp2_with (go_at_call 111; refine (c_ofNear x _).mono ?_; rintro e w1 ⟨rfl, b1⟩; have HB1 := Lib.hid (below_join (hB.out.alloc hB.out.size _) b1 (by rw [World.size_alloc]; have := hB.out.size; omega)); clear b1 y0 y1)
          go_ret
          exact ⟨rfl, HB1.out⟩
      · obtain rfl : false = r := by rw [← HR.out, HD.out, othGo_cons_no (.inl (of_decide_eq_true h1))]
        go_wp2_with (go_at_call 111; refine (c_ofNear x _).mono ?_; rintro e w1 ⟨rfl, b1⟩; have HB1 := Lib.hid (below_join (hB.out.alloc hB.out.size _) b1 (by rw [World.size_alloc]; have := hB.out.size; omega)); clear b1 y0 y1)
        go_ret
        exact ⟨rfl, HB1.out⟩
    · obtain rfl : k = l.length := by omega
      obtain rfl : true = r := by rw [← HR.out, hgo.out, List.drop_eq_nil_of_le (by simp)]; rfl
      go_wp2_with (fail)
      go_ret
      exact ⟨rfl, hB.out⟩
set_option maxHeartbeats 8000000 in
theorem c_names (x : Svc × SvA) (own many : Int) (r : Bool) (hr : nameB x.1 own many = r) (w : World) (h : SvAt w x) :
    Calls Tryz.prog 96 #[.agg (svA x), .int .i64 own, .int .i64 many] w fun e w' => e = .returned (.bool r) ∧ Below w.heap.size w w' := by
  unfold svA
  obtain ⟨W, hW⟩ : ∃ W, W = w.alloc (.cells (svA x) 92) := ⟨_, rfl⟩
  have B0 : Below w.heap.size w W := by subst hW; exact (Below.refl _ _).alloc (Nat.le_refl _) _
  have HB := Lib.hid B0
  have HX : W.heap[w.heap.size]? = some (.cells (svA x) 92 (0, 0)) := by subst hW; exact box_new _ _ _
  have HX2 := Lib.hid HX
  have x5 : W.cell? ⟨w.heap.size, 5, none⟩ = some (.slice x.2.a1 x.1.apart.length x.2.c1) := cell_of HX rfl
  have H := Lib.hid (h.on B0 (Nat.le_refl _))
  have HR := Lib.hid (show (othB own many x.1.apart && othB own many (x.1.near.map (·.svc))) = r from hr)
  clear hr h HX B0
  generalize hA : w.heap.size = A at *
  unfold svA at hW
  rw [hW] at x5
  obtain ⟨r1, h1⟩ : ∃ b, othB own many x.1.apart = b := ⟨_, rfl⟩
  have Q1 := Lib.hid h1
  clear h1
  go_enter Tryz.func96, Tryz.ntmps96
  go_wp2_with (fail)
  rw [← hW] at x5 ⊢
  clear hW
  go_at_call 112
  refine (c_others_int own many x.2.a1 x.2.c1 x.1.apart r1 Q1.out W H.out.apart).mono ?_
  rintro e w1 ⟨rfl, b1⟩
  have K1 := Lib.hid b1
  have HB1 := Lib.hid (below_join HB.out b1 (by rw [← hA]; exact HB.out.size))
  clear b1
  cases r1
  · obtain rfl : false = r := by have h := HR.out; rw [Q1.out] at h; exact h
    go_wp2_with (fail)
    go_ret
    exact ⟨rfl, HB1.out⟩
  · obtain ⟨r2, h2⟩ : ∃ b, othB own many (x.1.near.map (·.svc)) = b := ⟨_, rfl⟩
    have Q2 := Lib.hid h2
    clear h2
    have HE := Lib.hid (show r2 = r by have h := HR.out; rw [Q1.out, Q2.out] at h; exact h)
    have x6 : w1.cell? ⟨A, 6, none⟩ = some (.slice x.2.a2 x.1.near.length x.2.c2) := cell_of (box_on HX2.out K1.out (Nat.le_refl _)) rfl
    go_wp2_with (fail)
    go_at_call 113
    refine (c_others_Near own many x.2.a2 x.2.c2 x.1.near r2 Q2.out w1 (H.out.near.on K1.out (Nat.le_refl _))).mono ?_
    rintro e w2 ⟨rfl, b2⟩
    have HB2 := Lib.hid (below_join HB1.out b2 (by rw [← hA]; exact HB1.out.size))
    clear b2
    go_wp2_with (fail)
    go_ret
    exact ⟨(show Ending.returned (.bool r2) = .returned (.bool r) by rw [HE.out]), HB2.out⟩
end Go.Proofs.YtpokpgnclohiiaaGreat

namespace Go.Proofs.YtpokpgnclohiiaaGreat
open Go.RowKit
set_option maxRecDepth 100000
set_option linter.unusedVariables false
set_option linter.unusedSimpArgs false

theorem sumR_take {ss : List Svc} {k : Nat} {s : Svc} (h : ss[k]? = some s) : sumR (ss.take (k + 1)) = sumR (ss.take k) + s.reps := by
  unfold sumR
  rw [List.take_add_one, h, List.map_append, List.sum_append]
  simp
theorem keepB_reps {s : Svc} (h : keepB s = true) : 0 ≤ s.reps ∧ s.reps ≤ 24 := (keepB_iff.1 h).2.1
theorem sumR_bound {ss : List Svc} : ∀ {k : Nat}, k ≤ ss.length → (∀ (i : Nat) s, i < k → ss[i]? = some s → 0 ≤ s.reps ∧ s.reps ≤ 24) → 0 ≤ sumR (ss.take k) ∧ sumR (ss.take k) ≤ 24 * k := by
  intro k
  induction k with
  | zero => intro _ _; simp [sumR]
  | succ k ih =>
    intro hk h
    have h1 := ih (by omega) fun i s hi hs => h i s (by omega) hs
    have h2 : ss[k]? = some ss[k] := List.getElem?_eq_getElem (by omega)
    rw [sumR_take h2]
    have := h k _ (by omega) h2
    omega
theorem sv_box {w : World} {b : Nat} {x : Svc × SvA} (h : w.heap[b]? = some (.cells (svA x) 92 (0, 0))) :
    w.cell? ⟨b, 0, none⟩ = some (.int .i64 x.1.cores) ∧ w.cell? ⟨b, 1, none⟩ = some (.int .i64 x.1.reps) ∧ w.cell? ⟨b, 2, none⟩ = some (.int .i64 x.1.least) ∧ w.cell? ⟨b, 3, none⟩ = some (.int .u8 (x.1.dom : Int)) ∧ w.cell? ⟨b, 4, none⟩ = some (.int .i64 x.1.spread) ∧ w.cell? ⟨b, 5, none⟩ = some (.slice x.2.a1 x.1.apart.length x.2.c1) ∧ w.cell? ⟨b, 6, none⟩ = some (.slice x.2.a2 x.1.near.length x.2.c2) ∧ w.cell? ⟨b, 7, none⟩ = some (.int .i64 x.1.fw) :=
  ⟨cell_of h rfl, cell_of h rfl, cell_of h rfl, cell_of h rfl, cell_of h rfl, cell_of h rfl, cell_of h rfl, cell_of h rfl⟩
theorem wish_no {xs : List (Svc × SvA)} {k : Nat} {s : Svc} (h : (svs xs)[k]? = some s) (hb : svcB s k xs.length = false) : ¬ WishOk (svs xs) := fun hw => by
  have := hw.2.1 k s h
  rw [svs_len, hb] at this
  cases this
set_option maxHeartbeats 16000000 in
theorem c_ValidWish (A : Option Addr) (c : Nat) (xs : List (Svc × SvA)) (r : Bool) (hr : r = true ↔ WishOk (svs xs)) (w : World) (h : WiAt w A c xs) :
    Calls Tryz.prog 75 #[.agg #[.slice A xs.length c]] w fun e w' => e = .returned (.bool r) ∧ Below w.heap.size w w' := by
  obtain ⟨W, hW⟩ : ∃ W, W = w.alloc (.cells #[.slice A xs.length c] 32) := ⟨_, rfl⟩
  have B0 : Below w.heap.size w W := by subst hW; exact (Below.refl _ _).alloc (Nat.le_refl _) _
  have HB := Lib.hid B0
  have HX : W.heap[w.heap.size]? = some (.cells #[.slice A xs.length c] 32 (0, 0)) := by subst hW; exact box_new _ _ _
  have HX2 := Lib.hid HX
  have x0 : W.cell? ⟨w.heap.size, 0, none⟩ = some (.slice A xs.length c) := cell_of HX rfl
  have H := Lib.hid (h.on B0 (Nat.le_refl _))
  have hc1 := h.row.1
  have hc2 := h.row.2.1
  unfold maxLen at hc2
  have hsl := svs_len xs
  have HR := Lib.hid hr
  have HWS := Lib.hid (show w.heap.size < W.heap.size by rw [hW, World.size_alloc]; omega)
  clear hr h HX B0
  generalize hA : w.heap.size = B at *
  rw [hW] at x0
  by_cases h8 : xs.length ≤ 8
  · have hd8 : decide ((8 : Int) < (xs.length : Int)) = false := decide_eq_false (by omega)
    go_enter Tryz.func75, Tryz.ntmps75
    go_wp2_with (fail)
    rw [← hW] at x0 ⊢
    clear hW
    go_loopw [4, 15] (fun sm i wr => ∃ k : Nat, k ≤ xs.length ∧ sm = .int .i64 (sumR ((svs xs).take k)) ∧ i = .int .i64 (k : Int) ∧ Hid (∀ (i : Nat) s, i < k → (svs xs)[i]? = some s → svcB s i xs.length = true) ∧ Hid (Below W.heap.size W wr)) (fun _ i _ => xs.length - (intOf i).toNat)
    case atStart => exact ⟨0, Nat.zero_le _, rfl, rfl, Lib.hid (fun i s hi => absurd hi (by omega)), Lib.hid (Below.refl _ _)⟩
    case round =>
      obtain ⟨k, hk, rfl, rfl, hok, hK⟩ := hrel
      have hbd := sumR_bound (ss := svs xs) (k := k) (by omega) fun i s hi hs => keepB_reps (by have := hok.out i s hi hs; unfold svcB at this; rw [Bool.and_eq_true] at this; exact this.1)
      obtain ⟨sm, hsm⟩ : ∃ sm, sumR ((svs xs).take k) = sm := ⟨_, rfl⟩
      have HSM := Lib.hid hsm
      rw [hsm] at hbd ⊢
      clear hsm
      by_cases hlt : k < xs.length
      · obtain ⟨x, hx⟩ : ∃ x, xs[k]? = some x := ⟨_, List.getElem?_eq_getElem hlt⟩
        have HK := H.out.on hK.out (Nat.le_refl _)
        obtain ⟨pb, o, rfl, -, -⟩ := HK.row.at_ hx
        obtain ⟨y0, y1, y2, y3, y4, y5, y6, y7⟩ := sv_at HK.row hx
        have HS := Lib.hid (HK.each x (List.mem_of_getElem? hx))
        have HXX := Lib.hid hx
        have HSV := Lib.hid (svs_at hx)
        have hki : ((k : Nat) : Int).toNat = k := by omega
        have hlt' : (k : Int) < ((xs.length : Nat) : Int) := by omega
        obtain ⟨V, hV⟩ : ∃ V, V = wr.alloc (.cells (svA x) 92) := ⟨_, rfl⟩
        have bV : Below wr.heap.size wr V := by subst hV; exact (Below.refl _ _).alloc (Nat.le_refl _) _
        have HV := Lib.hid (show V.heap[wr.heap.size]? = some (.cells (svA x) 92 (0, 0)) by subst hV; exact box_new _ _ _)
        have HKV := Lib.hid (hK.out.trans (bV.mono hK.out.size))
        have HSV2 := Lib.hid (HS.out.on bV (Nat.le_refl _))
        clear hx HK bV
        unfold svA at hV
        go_wp2_with (fail)
        rw [← hV]
        clear hV y0 y1 y2 y3 y4 y5 y6 y7
        obtain ⟨q1, hq1⟩ : ∃ q, keepB x.1 = q := ⟨_, rfl⟩
        have Q1 := Lib.hid hq1
        clear hq1
        obtain ⟨pv, hpv⟩ : ∃ pv, wr.heap.size = pv := ⟨_, rfl⟩
        rw [hpv] at HV ⊢
        have HPV := Lib.hid hpv
        clear hpv
        go_at_call 95
        refine (c_keeps x q1 Q1.out V HSV2.out).mono ?_
        rintro e w1 ⟨rfl, b1⟩
        have K1 := Lib.hid (below_join HKV.out b1 HKV.out.size)
        have HV1 := Lib.hid (box_on HV.out b1 (Nat.le_refl _))
        have HS1 := Lib.hid (HSV2.out.on b1 (Nat.le_refl _))
        clear b1
        obtain ⟨z0, z1, z2, z3, z4, z5, z6, z7⟩ := sv_box HV1.out
        cases q1
        · obtain rfl : false = r := by
            rcases r with _ | _
            · rfl
            · exact absurd (HR.out.1 rfl) (wish_no HSV.out (by unfold svcB; rw [Q1.out]; rfl))
          go_wp2_with (fail)
          go_ret
          exact ⟨rfl, below_join HB.out K1.out (by rw [← hA]; exact HB.out.size)⟩
        · go_wp2_with (fail)
          obtain ⟨q2, hq2⟩ : ∃ q, nameB x.1 (k : Int) (xs.length : Int) = q := ⟨_, rfl⟩
          have Q2 := Lib.hid hq2
          clear hq2
          go_at_call 96
          refine (c_names x (k : Int) (xs.length : Int) q2 Q2.out w1 HS1.out).mono ?_
          rintro e w2 ⟨rfl, b2⟩
          have K2 := Lib.hid (below_join K1.out b2 K1.out.size)
          have HV2 := Lib.hid (box_on HV1.out b2 (Nat.le_refl _))
          clear b2 z0 z1 z2 z3 z4 z5 z6 z7
          obtain ⟨z0, z1, z2, z3, z4, z5, z6, z7⟩ := sv_box HV2.out
          cases q2
          · obtain rfl : false = r := by
              rcases r with _ | _
              · rfl
              · exact absurd (HR.out.1 rfl) (wish_no HSV.out (by unfold svcB; rw [Q1.out, Q2.out]; rfl))
            go_wp2_with (fail)
            go_ret
            exact ⟨rfl, below_join HB.out K2.out (by rw [← hA]; exact HB.out.size)⟩
          · have hrp := keepB_reps Q1.out
            have HN := Lib.hid (show sumR ((svs xs).take (k + 1)) = sm + x.1.reps by rw [sumR_take HSV.out, HSM.out])
            have HO := Lib.hid (show ∀ (i : Nat) s, i < k + 1 → (svs xs)[i]? = some s → svcB s i xs.length = true from fun i s hi hs => by
              rcases Nat.lt_or_ge i k with h | h
              · exact hok.out i s h hs
              · obtain rfl : i = k := by omega
                rw [HSV.out] at hs
                injection hs with hs
                subst hs
                unfold svcB
                rw [Q1.out, Q2.out]; rfl)
            go_wp2_with (fail)
            go_roundw
            case rel => exact ⟨k + 1, by omega, by rw [HN.out], by go_num, HO, K2⟩
            case measure => simp only [intOf]; omega
      · obtain rfl : k = xs.length := by omega
        have hd : decide (sm ≤ 24) = r := by
          have e : sumR (svs xs) = sm := by rw [← HSM.out, ← hsl, List.take_length]
          rw [Bool.eq_iff_iff, decide_eq_true_eq, HR.out, ← e]
          exact ⟨fun h => ⟨by omega, fun i s hs => by rw [hsl]; exact hok.out i s (by have := (List.getElem?_eq_some_iff.1 hs).1; omega) hs, h⟩, fun h => h.2.2⟩
        go_wp2_with (fail)
        go_ret
        exact ⟨rfl, below_join HB.out hK.out (by rw [← hA]; exact HB.out.size)⟩
  · have hd8 : decide ((8 : Int) < (xs.length : Int)) = true := decide_eq_true (by omega)
    obtain rfl : false = r := by
      rcases r with _ | _
      · rfl
      · exact absurd (HR.out.1 rfl).1 (by omega)
    go_enter Tryz.func75, Tryz.ntmps75
    go_wp2_with (fail)
    go_ret
    rw [← hW]
    exact ⟨rfl, HB.out⟩
end Go.Proofs.YtpokpgnclohiiaaGreat

namespace Go.Proofs.YtpokpgnclohiiaaGreat
open Go.RowKit
set_option maxRecDepth 100000
set_option linter.unusedVariables false
set_option linter.unusedSimpArgs false

theorem two_boxes {w : World} {c1 c2 : Array Value} {T1 T2 : TypeId} {W1 W : World} (h1 : W1 = w.alloc (.cells c1 T1)) (h2 : W = W1.alloc (.cells c2 T2)) :
    Below w.heap.size w W ∧ W.heap[w.heap.size]? = some (.cells c1 T1 (0, 0)) ∧ W.heap[w.heap.size + 1]? = some (.cells c2 T2 (0, 0)) ∧ W.heap.size = w.heap.size + 1 + 1 := by
  have s1 : W1.heap.size = w.heap.size + 1 := by rw [h1, World.size_alloc]
  have e1 : Below w.heap.size w W1 := by rw [h1]; exact (Below.refl _ _).alloc (Nat.le_refl _) _
  have b1 : W1.heap[w.heap.size]? = some (.cells c1 T1 (0, 0)) := by rw [h1]; exact box_new _ _ _
  refine ⟨by rw [h2]; exact e1.alloc (by omega) _, by rw [h2]; exact old_heap _ b1, by rw [h2, ← s1]; exact box_new _ _ _, by rw [h2, World.size_alloc, s1]⟩
end Go.Proofs.YtpokpgnclohiiaaGreat

namespace Go.Proofs.YtpokpgnclohiiaaGreat
open Go.RowKit
set_option maxRecDepth 100000
set_option linter.unusedVariables false
set_option linter.unusedSimpArgs false

theorem used_take {ss : List Svc} {l : List Rep} {k : Nat} {x : Rep} (h : l[k]? = some x) (host : Int) : usedD ss (l.take (k + 1)) host = usedStep ss host (usedD ss (l.take k) host) x := by
  rw [List.take_add_one, h]; exact used_snoc _ _ _ _
theorem cores_at {xs : List (Svc × SvA)} {m : Nat} {y : Svc × SvA} (h : xs[m]? = some y) : coresAt (svs xs) (m : Int) = y.1.cores := by
  unfold coresAt
  rw [show ((m : Nat) : Int).toNat = m by omega, svs_at h]; rfl
set_option maxHeartbeats 16000000 in
theorem c_woUsed (A : Option Addr) (c : Nat) (xs : List (Svc × SvA)) (p : WP) (d : WorldD) (host : Int) (w : World) (hx : WiAt w A c xs) (h : WoAt w p d) :
    Calls Tryz.prog 62 #[.agg #[.slice A xs.length c], .agg (woA p d), .int .i64 host] w fun e w' => e = .returned (.int .i64 (usedD (svs xs) d.reps host)) ∧ Below w.heap.size w w' := by
  unfold woA
  obtain ⟨W1, h1⟩ : ∃ W, W = w.alloc (.cells #[.slice A xs.length c] 32) := ⟨_, rfl⟩
  obtain ⟨W, h2⟩ : ∃ W, W = W1.alloc (.cells (woA p d) 36) := ⟨_, rfl⟩
  obtain ⟨B0, b1, b2, -⟩ := two_boxes h1 h2
  have HB := Lib.hid B0
  have HF := Lib.hid (fun (X : World) (hX : Below W.heap.size W X) => (⟨cell_of (box_on b1 hX (Nat.le_refl _)) rfl, cell_of (box_on b2 hX (Nat.le_refl _)) rfl⟩ : X.cell? ⟨w.heap.size, 0, none⟩ = some (.slice A xs.length c) ∧ X.cell? ⟨w.heap.size + 1, 1, none⟩ = some (.slice p.a2 d.reps.length p.c2)))
  have H := Lib.hid (h.on B0 (Nat.le_refl _)).reps
  have HX := Lib.hid (hx.on B0 (Nat.le_refl _))
  have hc1 := h.reps.1; have hc2 := h.reps.2.1; have hc3 := hx.row.1; have hc4 := hx.row.2.1
  unfold maxLen at hc2 hc4
  have hle := B0.size
  have HSL := Lib.hid (svs_len xs)
  obtain ⟨x0, x1⟩ := HF.out W (Below.refl _ _)
  clear h hx B0 b1 b2
  unfold woA at h2
  rw [h2, h1] at x0 x1
  generalize hA : w.heap.size = B at *
  go_enter Tryz.func62, Tryz.ntmps62
  go_wp2_with (fail)
  rw [← h1, ← h2]
  clear h1 h2 x0 x1
  go_loopw [7, 13] (fun v i wr => ∃ (k : Nat) (acc : Int), k ≤ d.reps.length ∧ v = .int .i64 acc ∧ i = .int .i64 (k : Int) ∧ Hid (acc = usedD (svs xs) (d.reps.take k) host) ∧ Hid (Below W.heap.size W wr)) (fun _ i _ => d.reps.length - (intOf i).toNat)
  case atStart => exact ⟨0, 0, Nat.zero_le _, rfl, rfl, Lib.hid rfl, Lib.hid (Below.refl _ _)⟩
  case round =>
    obtain ⟨k, acc, hk, rfl, rfl, hacc, hK⟩ := hrel
    have hki : ((k : Nat) : Int).toNat = k := by omega
    by_cases hlt : k < d.reps.length
    · obtain ⟨⟨sv, ho⟩, hx⟩ : ∃ x, d.reps[k]? = some x := ⟨_, List.getElem?_eq_getElem hlt⟩
      have HK := H.out.on hK.out (Nat.le_refl _)
      obtain ⟨b, o, e0, -, -⟩ := HK.at_ hx
      rw [e0] at HK
      obtain ⟨y0, y1⟩ := rep_at HK hx
      simp only at y0 y1
      have HXX := Lib.hid hx
      have hkl : (k : Int) < (d.reps.length : Int) := by omega
      obtain ⟨V, hV⟩ : ∃ V, V = wr.alloc (.cells #[.int .i64 sv, .int .i64 ho] 85) := ⟨_, rfl⟩
      have bV : Below wr.heap.size wr V := by subst hV; exact (Below.refl _ _).alloc (Nat.le_refl _) _
      have HKV := Lib.hid (below_join hK.out bV hK.out.size)
      have z0 : V.cell? ⟨wr.heap.size, 0, none⟩ = some (.int .i64 sv) := by subst hV; exact cell_of (box_new _ _ _) rfl
      have z1 : V.cell? ⟨wr.heap.size, 1, none⟩ = some (.int .i64 ho) := by subst hV; exact cell_of (box_new _ _ _) rfl
      obtain ⟨x0, x1⟩ := HF.out V HKV.out
      clear hx HK bV
      rw [e0]
      rcases hf : (ho == host) with _ | _
      · have HO := Lib.hid (show acc = usedD (svs xs) (d.reps.take (k + 1)) host by
          rw [used_take HXX.out]; unfold usedStep
          rw [show (({ svc := sv, host := ho } : Rep).host == host) = false from hf]
          simp only [Bool.false_and, Bool.false_eq_true, if_false]
          exact hacc.out)
        rw [hV] at z0 z1 x0 x1
        go_wp2_with (fail)
        rw [← hV]
        clear hV
        go_roundw
        case rel => exact ⟨k + 1, acc, by omega, rfl, by go_num, HO, HKV⟩
        case measure => simp only [intOf]; omega
      · obtain ⟨q, hq⟩ : ∃ q, ixB sv (xs.length : Int) = q := ⟨_, rfl⟩
        have HQ := Lib.hid hq
        have HFF := Lib.hid hf
        rw [hV] at z0 z1 x0 x1
        clear hq
        go_wp2_with (fail)
        rw [← hV] at z0 z1 x0 x1 ⊢
        clear hV
        go_at_call 74
        refine (c_woIsIndex sv (xs.length : Int) q HQ.out V).mono ?_
        rintro e wx ⟨rfl, hwx⟩
        rw [hwx]
        clear hwx wx
        cases q
        · have HO := Lib.hid (show acc = usedD (svs xs) (d.reps.take (k + 1)) host by
            rw [used_take HXX.out]; unfold usedStep
            rw [HSL.out, show ixB ({ svc := sv, host := ho } : Rep).svc (xs.length : Int) = false from HQ.out]
            simp only [Bool.and_false, Bool.false_eq_true, if_false]
            exact hacc.out)
          go_wp2_with (fail)
          go_roundw
          case rel => exact ⟨k + 1, acc, by omega, rfl, by go_num, HO, HKV⟩
          case measure => simp only [intOf]; omega
        · have hr := ixB_iff.1 HQ.out
          obtain ⟨m, rfl⟩ : ∃ m : Nat, sv = m := ⟨sv.toNat, by omega⟩
          have hml : m < xs.length := by omega
          obtain ⟨y, hy⟩ : ∃ y, xs[m]? = some y := ⟨_, List.getElem?_eq_getElem hml⟩
          have HXV := HX.out.on HKV.out (Nat.le_refl _)
          obtain ⟨pb, po, rfl, -, -⟩ := HXV.row.at_ hy
          have t0 := (sv_at HXV.row hy).1
          have hmi : ((m : Nat) : Int).toNat = m := by omega
          have hml2 : (m : Int) < (xs.length : Int) := by omega
          have hm0 : (0 : Int) ≤ (m : Int) := by omega
          obtain ⟨z, hz⟩ : ∃ z, IntKind.i64.wrap (acc + y.1.cores) = z := ⟨_, rfl⟩
          have HO := Lib.hid (show z = usedD (svs xs) (d.reps.take (k + 1)) host by
            rw [used_take HXX.out]; unfold usedStep
            rw [HSL.out, show ixB ({ svc := ((m : Nat) : Int), host := ho } : Rep).svc (xs.length : Int) = true from HQ.out, show (({ svc := ((m : Nat) : Int), host := ho } : Rep).host == host) = true from HFF.out]
            simp only [Bool.and_true, if_true]
            rw [cores_at hy, ← hz, hacc.out])
          clear hr HXV hy
          go_wp2_with (fail)
          go_roundw
          case rel => exact ⟨k + 1, z, by omega, rfl, by go_num, HO, HKV⟩
          case measure => simp only [intOf]; omega
    · obtain rfl : k = d.reps.length := by omega
      have HO := Lib.hid (show acc = usedD (svs xs) d.reps host by have := hacc.out; rwa [List.take_length] at this)
      go_wp2_with (fail)
      go_ret
      exact ⟨(show Ending.returned (.int .i64 acc) = .returned (.int .i64 (usedD (svs xs) d.reps host)) by rw [HO.out]), below_join HB.out hK.out hle⟩
end Go.Proofs.YtpokpgnclohiiaaGreat

namespace Go.Proofs.YtpokpgnclohiiaaGreat
open Go.RowKit
set_option maxRecDepth 100000
set_option linter.unusedVariables false
set_option linter.unusedSimpArgs false

set_option maxHeartbeats 16000000 in
theorem c_wrUsed (A : Option Addr) (c : Nat) (xs : List (Svc × SvA)) (p : WP) (d : WorldD) (host : Int) (w : World) (hx : WiAt w A c xs) (h : WoAt w p d) :
    Calls Tryz.prog 46 #[.agg #[.slice A xs.length c], .agg (woA p d), .int .i64 host] w fun e w' => e = .returned (.int .i64 (usedD (svs xs) d.reps host)) ∧ Below w.heap.size w w' := by
  unfold woA
  obtain ⟨W1, h1⟩ : ∃ W, W = w.alloc (.cells #[.slice A xs.length c] 32) := ⟨_, rfl⟩
  obtain ⟨W, h2⟩ : ∃ W, W = W1.alloc (.cells (woA p d) 36) := ⟨_, rfl⟩
  obtain ⟨B0, b1, b2, -⟩ := two_boxes h1 h2
  have HB := Lib.hid B0
  have HF := Lib.hid (fun (X : World) (hX : Below W.heap.size W X) => (⟨cell_of (box_on b1 hX (Nat.le_refl _)) rfl, cell_of (box_on b2 hX (Nat.le_refl _)) rfl⟩ : X.cell? ⟨w.heap.size, 0, none⟩ = some (.slice A xs.length c) ∧ X.cell? ⟨w.heap.size + 1, 1, none⟩ = some (.slice p.a2 d.reps.length p.c2)))
  have H := Lib.hid (h.on B0 (Nat.le_refl _)).reps
  have HX := Lib.hid (hx.on B0 (Nat.le_refl _))
  have hc1 := h.reps.1; have hc2 := h.reps.2.1; have hc3 := hx.row.1; have hc4 := hx.row.2.1
  unfold maxLen at hc2 hc4
  have hle := B0.size
  have HSL := Lib.hid (svs_len xs)
  clear h hx B0 b1 b2
  unfold woA at h2
  generalize hA : w.heap.size = B at *
  go_enter Tryz.func46, Tryz.ntmps46
  go_wp2_with (fail)
  rw [← h1, ← h2]
  clear h1 h2
  go_loopw [7, 8] (fun v i wr => ∃ (k : Nat) (acc : Int), k ≤ d.reps.length ∧ v = .int .i64 acc ∧ i = .int .i64 (k : Int) ∧ Hid (acc = usedD (svs xs) (d.reps.take k) host) ∧ Hid (Below W.heap.size W wr)) (fun _ i _ => d.reps.length - (intOf i).toNat)
  case atStart => exact ⟨0, 0, Nat.zero_le _, rfl, rfl, Lib.hid rfl, Lib.hid (Below.refl _ _)⟩
  case round =>
    obtain ⟨k, acc, hk, rfl, rfl, hacc, hK⟩ := hrel
    have hki : ((k : Nat) : Int).toNat = k := by omega
    obtain ⟨x0, x1⟩ := HF.out wr hK.out
    by_cases hlt : k < d.reps.length
    · obtain ⟨⟨sv, ho⟩, hx⟩ : ∃ x, d.reps[k]? = some x := ⟨_, List.getElem?_eq_getElem hlt⟩
      have HK := H.out.on hK.out (Nat.le_refl _)
      obtain ⟨b, o, e0, -, -⟩ := HK.at_ hx
      rw [e0] at HK x1
      obtain ⟨y0, y1⟩ := rep_at HK hx
      simp only at y0 y1
      have HXX := Lib.hid hx
      have hkl : (k : Int) < (d.reps.length : Int) := by omega
      obtain ⟨V, hV⟩ : ∃ V, V = wr.alloc (.cells #[.int .i64 sv, .int .i64 ho] 85) := ⟨_, rfl⟩
      have bV : Below wr.heap.size wr V := by subst hV; exact (Below.refl _ _).alloc (Nat.le_refl _) _
      have HKV := Lib.hid (below_join hK.out bV hK.out.size)
      have z0 : V.cell? ⟨wr.heap.size, 0, none⟩ = some (.int .i64 sv) := by subst hV; exact cell_of (box_new _ _ _) rfl
      have z1 : V.cell? ⟨wr.heap.size, 1, none⟩ = some (.int .i64 ho) := by subst hV; exact cell_of (box_new _ _ _) rfl
      obtain ⟨v0, v1⟩ := HF.out V HKV.out
      rw [e0] at v1
      clear hx HK bV e0
      have HNO : (ho == host && ixB sv (xs.length : Int)) = false → Hid (acc = usedD (svs xs) (d.reps.take (k + 1)) host) := fun hn => Lib.hid (by
        rw [used_take HXX.out]; unfold usedStep
        rw [HSL.out, show (({ svc := sv, host := ho } : Rep).host == host && ixB ({ svc := sv, host := ho } : Rep).svc (xs.length : Int)) = false from hn]
        simp only [Bool.false_eq_true, if_false]
        exact hacc.out)
      have HNN := Lib.hid HNO
      clear HNO
      rcases hf : (ho == host) with _ | _
      · have HO := HNN.out (by rw [hf]; rfl)
        rw [hV] at z0 z1 v0 v1
        go_wp2_with (fail)
        rw [← hV]
        clear hV
        go_roundw
        case rel => exact ⟨k + 1, acc, by omega, rfl, by go_num, HO, HKV⟩
        case measure => simp only [intOf]; omega
      · rcases hg : decide (0 ≤ sv) with _ | _
        · have HO := HNN.out (by unfold ixB; rw [hg]; simp)
          rw [hV] at z0 z1 v0 v1
          go_wp2_with (fail)
          rw [← hV]
          clear hV
          go_roundw
          case rel => exact ⟨k + 1, acc, by omega, rfl, by go_num, HO, HKV⟩
          case measure => simp only [intOf]; omega
        · rcases hh : decide (sv < (xs.length : Int)) with _ | _
          · have HO := HNN.out (by unfold ixB; rw [hh]; simp)
            rw [hV] at z0 z1 v0 v1
            go_wp2_with (fail)
            rw [← hV]
            clear hV
            go_roundw
            case rel => exact ⟨k + 1, acc, by omega, rfl, by go_num, HO, HKV⟩
            case measure => simp only [intOf]; omega
          · have hg2 := of_decide_eq_true hg
            have hh2 := of_decide_eq_true hh
            have HIX := Lib.hid (show ixB sv (xs.length : Int) = true from ixB_iff.2 ⟨hg2, hh2⟩)
            have HFF := Lib.hid hf
            obtain ⟨m, rfl⟩ : ∃ m : Nat, sv = m := ⟨sv.toNat, by omega⟩
            have hml : m < xs.length := by omega
            obtain ⟨y, hy⟩ : ∃ y, xs[m]? = some y := ⟨_, List.getElem?_eq_getElem hml⟩
            have HXV := HX.out.on HKV.out (Nat.le_refl _)
            obtain ⟨pb, po, rfl, -, -⟩ := HXV.row.at_ hy
            have t0 := (sv_at HXV.row hy).1
            have hmi : ((m : Nat) : Int).toNat = m := by omega
            obtain ⟨z, hz⟩ : ∃ z, IntKind.i64.wrap (acc + y.1.cores) = z := ⟨_, rfl⟩
            have HO := Lib.hid (show z = usedD (svs xs) (d.reps.take (k + 1)) host by
              rw [used_take HXX.out]; unfold usedStep
              rw [HSL.out, show ixB ({ svc := ((m : Nat) : Int), host := ho } : Rep).svc (xs.length : Int) = true from HIX.out, show (({ svc := ((m : Nat) : Int), host := ho } : Rep).host == host) = true from HFF.out]
              simp only [Bool.and_true, if_true]
              rw [cores_at hy, ← hz, hacc.out])
            rw [hV] at z0 z1 v0 v1 t0
            clear HXV hy HNN
            go_wp2_with (fail)
            rw [← hV]
            clear hV
            go_roundw
            case rel => exact ⟨k + 1, z, by omega, rfl, by go_num, HO, HKV⟩
            case measure => simp only [intOf]; omega
    · obtain rfl : k = d.reps.length := by omega
      have HO := Lib.hid (show acc = usedD (svs xs) d.reps host by have := hacc.out; rwa [List.take_length] at this)
      go_wp2_with (fail)
      go_ret
      exact ⟨(show Ending.returned (.int .i64 acc) = .returned (.int .i64 (usedD (svs xs) d.reps host)) by rw [HO.out]), below_join HB.out hK.out hle⟩
end Go.Proofs.YtpokpgnclohiiaaGreat

namespace Go.Proofs.YtpokpgnclohiiaaGreat
open Go.RowKit
set_option maxRecDepth 100000
set_option linter.unusedVariables false
set_option linter.unusedSimpArgs false

theorem any_bad {α : Type} {f : α → Bool} {l : List α} : l.any (fun x => !f x) = false ↔ ∀ x ∈ l, f x = true := by simp
set_option maxHeartbeats 16000000 in
theorem c_woValid (p : SP) (s : SiteD) (A : Option Addr) (c : Nat) (xs : List (Svc × SvA)) (q : WP) (d : WorldD) (r : Bool) (hr : r = true ↔ WorldOk s (svs xs) d) (w : World) (hs : SiAt w p s) (hx : WiAt w A c xs) (hd : WoAt w q d) :
    Calls Tryz.prog 52 #[siV p s, .agg #[.slice A xs.length c], .agg (woA q d)] w fun e w' => e = .returned (.bool r) ∧ Below w.heap.size w w' := by
  unfold siV woA
  obtain ⟨W1, h1⟩ : ∃ W, W = w.alloc (.cells #[.slice p.a1 s.feeds.length p.c1, .slice p.a2 s.brks.length p.c2, .slice p.a3 s.loops.length p.c3, .slice p.a4 s.racks.length p.c4, .int .i64 s.sw, .slice p.a5 s.links.length p.c5, .slice p.a6 s.hosts.length p.c6] 29) := ⟨_, rfl⟩
  obtain ⟨W2, h2⟩ : ∃ W, W = W1.alloc (.cells #[.slice A xs.length c] 32) := ⟨_, rfl⟩
  obtain ⟨W, h3⟩ : ∃ W, W = W2.alloc (.cells (woA q d) 36) := ⟨_, rfl⟩
  have s1 : W1.heap.size = w.heap.size + 1 := by rw [h1, World.size_alloc]
  have s2 : W2.heap.size = w.heap.size + 1 + 1 := by rw [h2, World.size_alloc, s1]
  have s3 : W.heap.size = w.heap.size + 1 + 1 + 1 := by rw [h3, World.size_alloc, s2]
  have B0 : Below w.heap.size w W := by
    have e1 : Below w.heap.size w W1 := by rw [h1]; exact (Below.refl _ _).alloc (Nat.le_refl _) _
    have e2 : Below w.heap.size w W2 := by rw [h2]; exact e1.alloc (by omega) _
    rw [h3]; exact e2.alloc (by omega) _
  have HB := Lib.hid B0
  have X1 : SiBox W w.heap.size p s := by
    have e1 : SiBox W1 w.heap.size p s := by rw [h1]; exact siBox_new _ _ _
    unfold SiBox at e1 ⊢
    rw [h3, h2]; exact old_heap _ (old_heap _ e1)
  have X2 : WiBox W (w.heap.size + 1) A xs.length c := by
    have e1 : W2.heap[w.heap.size + 1]? = some (.cells #[.slice A xs.length c] 32 (0, 0)) := by rw [h2, ← s1]; exact box_new _ _ _
    unfold WiBox
    rw [h3]; exact old_heap _ e1
  have X3 : WoBox W (w.heap.size + 1 + 1) q d := by
    unfold WoBox
    rw [h3, ← s2]; exact box_new _ _ _
  have HS := Lib.hid (hs.on B0 (Nat.le_refl _))
  have HX := Lib.hid (hx.on B0 (Nat.le_refl _))
  have HD := Lib.hid (hd.on B0 (Nat.le_refl _))
  have B1 := Lib.hid X1
  have B2 := Lib.hid X2
  have B3 := Lib.hid X3
  have HF := Lib.hid (fun (X : World) (hX : Below W.heap.size W X) => (⟨(X1.on hX (Nat.le_refl _)).c0, (X1.on hX (Nat.le_refl _)).c1, (X1.on hX (Nat.le_refl _)).c2, (X1.on hX (Nat.le_refl _)).c3, (X1.on hX (Nat.le_refl _)).c4, (X1.on hX (Nat.le_refl _)).c5, (X1.on hX (Nat.le_refl _)).c6, (X2.on hX (Nat.le_refl _)).c0, (X3.on hX (Nat.le_refl _)).c0, (X3.on hX (Nat.le_refl _)).c1⟩ : X.cell? ⟨w.heap.size, 0, none⟩ = some (.slice p.a1 s.feeds.length p.c1) ∧ X.cell? ⟨w.heap.size, 1, none⟩ = some (.slice p.a2 s.brks.length p.c2) ∧ X.cell? ⟨w.heap.size, 2, none⟩ = some (.slice p.a3 s.loops.length p.c3) ∧ X.cell? ⟨w.heap.size, 3, none⟩ = some (.slice p.a4 s.racks.length p.c4) ∧ X.cell? ⟨w.heap.size, 4, none⟩ = some (.int .i64 s.sw) ∧ X.cell? ⟨w.heap.size, 5, none⟩ = some (.slice p.a5 s.links.length p.c5) ∧ X.cell? ⟨w.heap.size, 6, none⟩ = some (.slice p.a6 s.hosts.length p.c6) ∧ X.cell? ⟨w.heap.size + 1, 0, none⟩ = some (.slice A xs.length c) ∧ X.cell? ⟨w.heap.size + 1 + 1, 0, none⟩ = some (.slice q.a1 d.hosts.length q.c1) ∧ X.cell? ⟨w.heap.size + 1 + 1, 1, none⟩ = some (.slice q.a2 d.reps.length q.c2)))
  have n1 := hd.hosts.1; have n2 := hd.hosts.2.1; have n3 := hd.reps.1; have n4 := hd.reps.2.1; have n5 := hs.hosts.1; have n6 := hs.hosts.2.1
  unfold maxLen at n2 n4 n6
  have HR := Lib.hid hr
  have KW := Lib.hid (Below.refl W.heap.size W)
  have hle : w.heap.size ≤ W.heap.size := B0.size
  clear B0 hr hs hx hd X1 X2 X3 s1 s2 s3
  obtain ⟨f0, f1, f2, f3, f4, f5, f6, g0, g1, g2⟩ := HF.out W KW.out
  unfold woA at h3
  rw [h3, h2, h1] at f0 f1 f2 f3 f4 f5 f6 g0 g1 g2
  generalize hA : w.heap.size = B at *
  go_enter Tryz.func52, Tryz.ntmps52
  go_wp2_with (fail)
  rw [← h1, ← h2, ← h3] at f0 f1 f2 f3 f4 f5 f6 g0 g1 g2 ⊢
  clear h1 h2 h3
  obtain ⟨q0, h0⟩ : ∃ b, siteOk s = b := ⟨_, rfl⟩
  have Q0 := Lib.hid h0
  clear h0
  go_at_call 55
  refine (c_stValid p s q0 Q0.out W HS.out).mono ?_
  rintro e w1 ⟨rfl, b1⟩
  have K1 := Lib.hid b1
  clear b1
  clear f0 f1 f2 f3 f4 f5 f6 g0 g1 g2
  obtain ⟨f0, f1, f2, f3, f4, f5, f6, g0, g1, g2⟩ := HF.out w1 K1.out
  cases q0
  · obtain rfl : false = r := by
      rcases r with _ | _
      · rfl
      · exact absurd (HR.out.1 rfl) (fun h => by have := h.1; rw [Q0.out] at this; cases this)
    go_wp2_with (fail)
    go_ret
    exact ⟨rfl, below_join HB.out K1.out hle⟩
  go_wp2_with (fail)
  obtain ⟨q1, h1⟩ : ∃ b : Bool, b = true ↔ WishOk (svs xs) := by
    by_cases h : WishOk (svs xs)
    · exact ⟨true, by simp [h]⟩
    · exact ⟨false, by simp [h]⟩
  have Q1 := Lib.hid h1
  clear h1
  go_at_call 75
  refine (c_ValidWish A c xs q1 Q1.out w1 (HX.out.on K1.out (Nat.le_refl _))).mono ?_
  rintro e w2 ⟨rfl, b2⟩
  have K2 := Lib.hid (below_join K1.out b2 K1.out.size)
  clear b2
  clear f0 f1 f2 f3 f4 f5 f6 g0 g1 g2
  obtain ⟨f0, f1, f2, f3, f4, f5, f6, g0, g1, g2⟩ := HF.out w2 K2.out
  cases q1
  · obtain rfl : false = r := by
      rcases r with _ | _
      · rfl
      · exact absurd (HR.out.1 rfl) (fun h => by have := Q1.out.2 h.2.1; cases this)
    go_wp2_with (fail)
    go_ret
    exact ⟨rfl, below_join HB.out K2.out hle⟩
  rcases h2 : ((d.hosts.length : Int) == (s.hosts.length : Int)) with _ | _
  · have Q2 := Lib.hid h2
    obtain rfl : false = r := by
      rcases r with _ | _
      · rfl
      · exact absurd (HR.out.1 rfl) (fun h => by have e := h.2.2.1; have := Q2.out; rw [e] at this; simp at this)
    go_wp2_with (fail)
    go_ret
    exact ⟨rfl, below_join HB.out K2.out hle⟩
  have Q2 := Lib.hid (show d.hosts.length = s.hosts.length by have := eq_of_beq h2; omega)
  go_wp2_with (fail)
  clear h2
  obtain ⟨q3, h3⟩ : ∃ b, d.hosts.any (fun x => !hstOk x) = b := ⟨_, rfl⟩
  have Q3 := Lib.hid h3
  clear h3
  go_at_call 76
  refine (c_CF_HostState q.a1 q.c1 d.hosts w2 (HD.out.on K2.out (Nat.le_refl _)).hosts q3 Q3.out).mono ?_
  rintro e w3 ⟨rfl, b3⟩
  have K3 := Lib.hid (below_join K2.out b3 K2.out.size)
  clear b3
  clear f0 f1 f2 f3 f4 f5 f6 g0 g1 g2
  obtain ⟨f0, f1, f2, f3, f4, f5, f6, g0, g1, g2⟩ := HF.out w3 K3.out
  cases q3
  rotate_left
  · obtain rfl : false = r := by
      rcases r with _ | _
      · rfl
      · exact absurd (HR.out.1 rfl) (fun h => by have := any_bad.2 h.2.2.2.1; rw [Q3.out] at this; cases this)
    go_wp2_with (fail)
    go_ret
    exact ⟨rfl, below_join HB.out K3.out hle⟩
  rcases h4 : decide ((d.reps.length : Int) ≤ 24) with _ | _
  · have Q4 := Lib.hid h4
    obtain rfl : false = r := by
      rcases r with _ | _
      · rfl
      · exact absurd (HR.out.1 rfl) (fun h => by have e := h.2.2.2.2.1; have := of_decide_eq_false Q4.out; omega)
    go_wp2_with (fail)
    go_ret
    exact ⟨rfl, below_join HB.out K3.out hle⟩
  have Q4 := Lib.hid (show d.reps.length ≤ 24 by have := of_decide_eq_true h4; omega)
  go_wp2_with (fail)
  clear h4
  obtain ⟨q5, h5⟩ : ∃ b, d.reps.any (fun x => !repOk xs.length s.hosts.length x) = b := ⟨_, rfl⟩
  have Q5 := Lib.hid h5
  clear h5
  go_at_call 77
  refine (c_CF_Replica (B + 1) B p s A xs.length c q.a2 q.c2 d.reps w3 (B2.out.on K3.out (Nat.le_refl _)) (B1.out.on K3.out (Nat.le_refl _)) (HD.out.on K3.out (Nat.le_refl _)).reps q5 Q5.out).mono ?_
  rintro e w4 ⟨rfl, b4⟩
  have K4 := Lib.hid (below_join K3.out b4 K3.out.size)
  clear b4
  clear f0 f1 f2 f3 f4 f5 f6 g0 g1 g2
  obtain ⟨f0, f1, f2, f3, f4, f5, f6, g0, g1, g2⟩ := HF.out w4 K4.out
  cases q5
  rotate_left
  · obtain rfl : false = r := by
      rcases r with _ | _
      · rfl
      · exact absurd (HR.out.1 rfl) (fun h => by have e := h.2.2.2.2.2.1; rw [svs_len] at e; have := any_bad.2 e; rw [Q5.out] at this; cases this)
    go_wp2_with (fail)
    go_ret
    exact ⟨rfl, below_join HB.out K4.out hle⟩
  go_wp2_with (fail)
  obtain ⟨q6, h6⟩ : ∃ b, ascB d.reps = b := ⟨_, rfl⟩
  have Q6 := Lib.hid h6
  clear h6
  have HE := Lib.hid (show q6 = r by
    rw [Bool.eq_iff_iff, HR.out, ← Q6.out]
    exact ⟨fun h => ⟨Q0.out, Q1.out.1 (by trivial), Q2.out, any_bad.1 Q3.out, Q4.out, by rw [svs_len]; exact any_bad.1 Q5.out, h⟩, fun h => h.2.2.2.2.2.2⟩)
  go_at_call 78
  refine (c_ascend q.a2 q.c2 d.reps q6 Q6.out w4 (HD.out.on K4.out (Nat.le_refl _)).reps).mono ?_
  rintro e w5 ⟨rfl, b5⟩
  have K5 := Lib.hid (below_join K4.out b5 K4.out.size)
  clear b5
  go_wp2_with (fail)
  go_ret
  exact ⟨(show Ending.returned (.bool q6) = .returned (.bool r) by rw [HE.out]), below_join HB.out K5.out hle⟩
end Go.Proofs.YtpokpgnclohiiaaGreat

namespace Go.Proofs.YtpokpgnclohiiaaGreat
open Go.RowKit
set_option maxRecDepth 100000
set_option linter.unusedVariables false
set_option linter.unusedSimpArgs false

def RpBox (w : World) (b : Nat) (A : Option Addr) (n c : Nat) : Prop := w.heap[b]? = some (.cells #[.slice A n c] 34 (0, 0))
def XpBox (w : World) (b : Nat) (x : Rep) : Prop := w.heap[b]? = some (.cells #[.int .i64 x.svc, .int .i64 x.host] 85 (0, 0))
theorem RpBox.on {w w' : World} {b : Nat} {A : Option Addr} {n c B : Nat} (h : RpBox w b A n c) (hb : Below B w w') (hB : w.heap.size ≤ B) : RpBox w' b A n c := box_on h hb hB
theorem XpBox.on {w w' : World} {b : Nat} {x : Rep} {B : Nat} (h : XpBox w b x) (hb : Below B w w') (hB : w.heap.size ≤ B) : XpBox w' b x := box_on h hb hB
end Go.Proofs.YtpokpgnclohiiaaGreat

namespace Go.Proofs
open Go.RowKit
set_option maxRecDepth 100000
set_option linter.unusedVariables false
set_option linter.unusedSimpArgs false
namespace YtpokpgnclohiiaaGreat

theorem hst_info : (Tryz.prog.info? 83).map (fun i => (i.zero, i.size, i.bytes)) = some (some (.agg #[.int .u8 0, .int .i64 0]), 2, 16) := by kernel_rfl
end YtpokpgnclohiiaaGreat
end Go.Proofs

namespace Go.Proofs.YtpokpgnclohiiaaGreat
open Go.RowKit
set_option maxRecDepth 100000
set_option linter.unusedVariables false
set_option linter.unusedSimpArgs false

/-- A world whose lists a function has made itself. -/
def OwnW (base : Nat) (w : World) (p : WP) (d : WorldD) : Prop :=
  w.ownsRow base 83 2 (.slice p.a1 d.hosts.length p.c1) d.hosts.length (cellsV 2 hstV d.hosts) ∧ w.ownsRow base 85 2 (.slice p.a2 d.reps.length p.c2) d.reps.length (cellsV 2 repV d.reps)
theorem OwnW.wo {base : Nat} {w : World} {p : WP} {d : WorldD} (h : OwnW base w p d) (hp : ∀ x ∈ d.hosts, x.phase < 256) : WoAt w p d := by
  obtain ⟨A1, c1, e1, r1⟩ := own_rv h.1
  obtain ⟨A2, c2, e2, r2⟩ := own_rv h.2
  injection e1 with e1 _ e1'
  injection e2 with e2 _ e2'
  subst e1 e1' e2 e2'
  exact ⟨r1, r2, hp⟩
theorem OwnW.on {base B : Nat} {w w' : World} {p : WP} {d : WorldD} (h : OwnW base w p d) (hb : Below B w w') (hB : w.heap.size ≤ B) : OwnW base w' p d := ⟨own_on h.1 hb hB, own_on h.2 hb hB⟩
theorem OwnW.mono {base base' : Nat} {w : World} {p : WP} {d : WorldD} (h : OwnW base w p d) (hb : base' ≤ base) : OwnW base' w p d := ⟨own_mono h.1 hb, own_mono h.2 hb⟩
theorem own_block2 {w : World} {base g n : Nat} {T : TypeId} {xs : List Value} (hg : base ≤ g) (h : w.heap[g]? = some (.cells xs.toArray T (0, 0))) (hl : xs.length = n * 2) (hm : n ≤ maxLen) : w.ownsRow base T 2 (.slice (some ⟨g, 0, none⟩) n n) n xs :=
  ⟨hl, .inr ⟨g, n, xs.toArray, rfl, hg, h, Nat.le_refl _, hm, by simpa using hl, by rw [← hl]; simp⟩⟩
theorem row_store2 {W : World} {b : Nat} {y0 y1 : Value} {T : TypeId} (h : W.heap[b]? = some (.cells #[y0, y1] T (0, 0))) (x0 x1 : Value) :
    ((W.setCell ⟨b, 0, none⟩ x0).setCell ⟨b, 1, none⟩ x1).heap[b]? = some (.cells #[x0, x1] T (0, 0)) := set_field (set_field h x0) x1
end Go.Proofs.YtpokpgnclohiiaaGreat

namespace Go.Proofs.YtpokpgnclohiiaaGreat
open Go.RowKit
set_option maxRecDepth 100000
set_option linter.unusedVariables false
set_option linter.unusedSimpArgs false

theorem three_boxes {w : World} {c1 c2 c3 : Array Value} {T1 T2 T3 : TypeId} {W1 W2 W : World} (h1 : W1 = w.alloc (.cells c1 T1)) (h2 : W2 = W1.alloc (.cells c2 T2)) (h3 : W = W2.alloc (.cells c3 T3)) :
    Below w.heap.size w W ∧ W.heap[w.heap.size]? = some (.cells c1 T1 (0, 0)) ∧ W.heap[w.heap.size + 1]? = some (.cells c2 T2 (0, 0)) ∧ W.heap[w.heap.size + 1 + 1]? = some (.cells c3 T3 (0, 0)) := by
  obtain ⟨e1, b1, b2, s2⟩ := two_boxes h1 h2
  refine ⟨by rw [h3]; exact e1.alloc (by omega) _, by rw [h3]; exact old_heap _ b1, by rw [h3]; exact old_heap _ b2, by rw [h3, ← s2]; exact box_new _ _ _⟩
end Go.Proofs.YtpokpgnclohiiaaGreat

namespace Go.Proofs.YtpokpgnclohiiaaGreat
open Go.RowKit
set_option maxRecDepth 100000
set_option linter.unusedVariables false
set_option linter.unusedSimpArgs false

theorem svcB_of {s : Svc} {own many : Int} (h : svcB s own many = true) : ((1 ≤ s.cores ∧ s.cores ≤ 1000) ∧ (0 ≤ s.reps ∧ s.reps ≤ 24) ∧ (0 ≤ s.least ∧ s.least ≤ s.reps) ∧ (0 ≤ s.fw ∧ s.fw ≤ 1000000) ∧ s.dom ≤ 5 ∧ ((if s.dom = 0 then 0 else 1) ≤ s.spread ∧ s.spread ≤ (if s.dom = 0 then 0 else 24)) ∧ ∀ n ∈ s.near, 0 ≤ n.lat ∧ n.lat ≤ 1000000) ∧ othB own many s.apart = true ∧ othB own many (s.near.map (·.svc)) = true := by
  unfold svcB nameB at h
  rw [Bool.and_eq_true, Bool.and_eq_true, keepB_iff] at h
  exact h
theorem svcB_mk {s : Svc} {own many : Int} (h1 : (1 ≤ s.cores ∧ s.cores ≤ 1000) ∧ (0 ≤ s.reps ∧ s.reps ≤ 24) ∧ (0 ≤ s.least ∧ s.least ≤ s.reps) ∧ (0 ≤ s.fw ∧ s.fw ≤ 1000000) ∧ s.dom ≤ 5 ∧ ((if s.dom = 0 then 0 else 1) ≤ s.spread ∧ s.spread ≤ (if s.dom = 0 then 0 else 24)) ∧ ∀ n ∈ s.near, 0 ≤ n.lat ∧ n.lat ≤ 1000000) (h2 : othB own many s.apart = true) (h3 : othB own many (s.near.map (·.svc)) = true) : svcB s own many = true := by
  unfold svcB nameB
  rw [Bool.and_eq_true, Bool.and_eq_true, keepB_iff]
  exact ⟨h1, h2, h3⟩
theorem svcB_no {s : Svc} {own many : Int} {r : Bool} (hr : svcB s own many = r) (h : svcB s own many = true → False) : r = false := by
  rcases r with _ | _
  · rfl
  · exact absurd hr h
theorem nr_split (x : Nr) : ∃ a b, x = ⟨a, b⟩ := ⟨x.svc, x.lat, rfl⟩
set_option maxHeartbeats 32000000 in
theorem c_service (A : Option Addr) (c : Nat) (xs : List (Svc × SvA)) (k : Nat) (x : Svc × SvA) (hk : xs[k]? = some x) (r : Bool) (hr : svcB x.1 (k : Int) (xs.length : Int) = r) (w : World) (h : WiAt w A c xs) :
    Calls Tryz.prog 53 #[.agg #[.slice A xs.length c], .int .i64 (k : Int)] w fun e w' => e = .returned (.bool r) ∧ Below w.heap.size w w' := by
  obtain ⟨W1, h1⟩ : ∃ W, W = w.alloc (.cells #[.slice A xs.length c] 32) := ⟨_, rfl⟩
  obtain ⟨W, h2⟩ : ∃ W, W = W1.alloc (.cells (svA x) 92) := ⟨_, rfl⟩
  obtain ⟨B0, b1, b2, -⟩ := two_boxes h1 h2
  have HB := Lib.hid B0
  have hle := B0.size
  have B1 : Below w.heap.size w W1 := by rw [h1]; exact (Below.refl _ _).alloc (Nat.le_refl _) _
  have HW1 := h.on B1 (Nat.le_refl _)
  obtain ⟨pb, po, rfl, -, -⟩ := h.row.at_ hk
  obtain ⟨y0, y1, y2, y3, y4, y5, y6, y7⟩ := sv_at HW1.row hk
  have yg : W1.cell? ⟨w.heap.size, 0, none⟩ = some (.slice (some ⟨pb, po, none⟩) xs.length c) := by rw [h1]; exact cell_of (box_new _ _ _) rfl
  have HF := Lib.hid (fun (X : World) (hX : Below W.heap.size W X) => (⟨cell_of (box_on b1 hX (Nat.le_refl _)) rfl, cell_of (box_on b2 hX (Nat.le_refl _)) rfl, cell_of (box_on b2 hX (Nat.le_refl _)) rfl⟩ : X.cell? ⟨w.heap.size, 0, none⟩ = some (.slice (some ⟨pb, po, none⟩) xs.length c) ∧ X.cell? ⟨w.heap.size + 1, 5, none⟩ = some (.slice x.2.a1 x.1.apart.length x.2.c1) ∧ X.cell? ⟨w.heap.size + 1, 6, none⟩ = some (.slice x.2.a2 x.1.near.length x.2.c2)))
  have S := h.each x (List.mem_of_getElem? hk)
  have HS := Lib.hid (S.on B0 (Nat.le_refl _))
  have m1 := S.apart.1; have m2 := S.apart.2.1; have m3 := S.near.1; have m4 := S.near.2.1; have m5 := h.row.1; have m6 := h.row.2.1
  unfold maxLen at m2 m4 m6
  obtain ⟨t0, t1, t2, t3, t4, t5, t6, t7⟩ := sv_box (show W.heap[w.heap.size + 1]? = some (.cells (svA x) 92 (0, 0)) from b2)
  have hkl : (k : Int) < (xs.length : Int) := by have := (List.getElem?_eq_some_iff.1 hk).1; omega
  have hki : ((k : Nat) : Int).toNat = k := by omega
  have HR := Lib.hid hr
  have KW := Lib.hid (Below.refl W.heap.size W)
  clear hr hk h S HW1 B0 B1 b1 b2
  unfold svA at h2
  rw [h1] at y0 y1 y2 y3 y4 y5 y6 y7 yg
  rw [h2, h1] at t0 t1 t2 t3 t4 t5 t6 t7
  generalize hA : w.heap.size = B at *
  rcases hd0 : decide (x.1.cores < 1) with _ | _
  rotate_left
  · have HDD := Lib.hid hd0
    obtain rfl : false = r := (svcB_no HR.out (fun h => by have h1 := (svcB_of h).1.1.1; have h2 := of_decide_eq_true HDD.out; omega)).symm
    go_enter Tryz.func53, Tryz.ntmps53
    go_wp2_with (fail)
    rw [← h1, ← h2]
    go_ret
    exact ⟨rfl, HB.out⟩
  rcases hd1 : decide (1000 < x.1.cores) with _ | _
  rotate_left
  · have HDD := Lib.hid hd1
    obtain rfl : false = r := (svcB_no HR.out (fun h => by have h1 := (svcB_of h).1.1.2; have h2 := of_decide_eq_true HDD.out; omega)).symm
    go_enter Tryz.func53, Tryz.ntmps53
    go_wp2_with (fail)
    rw [← h1, ← h2]
    go_ret
    exact ⟨rfl, HB.out⟩
  rcases hd2 : decide (x.1.reps < 0) with _ | _
  rotate_left
  · have HDD := Lib.hid hd2
    obtain rfl : false = r := (svcB_no HR.out (fun h => by have h1 := (svcB_of h).1.2.1.1; have h2 := of_decide_eq_true HDD.out; omega)).symm
    go_enter Tryz.func53, Tryz.ntmps53
    go_wp2_with (fail)
    rw [← h1, ← h2]
    go_ret
    exact ⟨rfl, HB.out⟩
  rcases hd3 : decide (24 < x.1.reps) with _ | _
  rotate_left
  · have HDD := Lib.hid hd3
    obtain rfl : false = r := (svcB_no HR.out (fun h => by have h1 := (svcB_of h).1.2.1.2; have h2 := of_decide_eq_true HDD.out; omega)).symm
    go_enter Tryz.func53, Tryz.ntmps53
    go_wp2_with (fail)
    rw [← h1, ← h2]
    go_ret
    exact ⟨rfl, HB.out⟩
  rcases hd4 : decide (x.1.least < 0) with _ | _
  rotate_left
  · have HDD := Lib.hid hd4
    obtain rfl : false = r := (svcB_no HR.out (fun h => by have h1 := (svcB_of h).1.2.2.1.1; have h2 := of_decide_eq_true HDD.out; omega)).symm
    go_enter Tryz.func53, Tryz.ntmps53
    go_wp2_with (fail)
    rw [← h1, ← h2]
    go_ret
    exact ⟨rfl, HB.out⟩
  rcases hd5 : decide (x.1.reps < x.1.least) with _ | _
  rotate_left
  · have HDD := Lib.hid hd5
    obtain rfl : false = r := (svcB_no HR.out (fun h => by have h1 := (svcB_of h).1.2.2.1.2; have h2 := of_decide_eq_true HDD.out; omega)).symm
    go_enter Tryz.func53, Tryz.ntmps53
    go_wp2_with (fail)
    rw [← h1, ← h2]
    go_ret
    exact ⟨rfl, HB.out⟩
  rcases hd6 : decide (x.1.fw < 0) with _ | _
  rotate_left
  · have HDD := Lib.hid hd6
    obtain rfl : false = r := (svcB_no HR.out (fun h => by have h1 := (svcB_of h).1.2.2.2.1.1; have h2 := of_decide_eq_true HDD.out; omega)).symm
    go_enter Tryz.func53, Tryz.ntmps53
    go_wp2_with (fail)
    rw [← h1, ← h2]
    go_ret
    exact ⟨rfl, HB.out⟩
  rcases hd7 : decide (1000000 < x.1.fw) with _ | _
  rotate_left
  · have HDD := Lib.hid hd7
    obtain rfl : false = r := (svcB_no HR.out (fun h => by have h1 := (svcB_of h).1.2.2.2.1.2; have h2 := of_decide_eq_true HDD.out; omega)).symm
    go_enter Tryz.func53, Tryz.ntmps53
    go_wp2_with (fail)
    rw [← h1, ← h2]
    go_ret
    exact ⟨rfl, HB.out⟩
  rcases hd8 : decide ((5 : Int) < (x.1.dom : Int)) with _ | _
  rotate_left
  · have HDD := Lib.hid hd8
    obtain rfl : false = r := (svcB_no HR.out (fun h => by have h1 := (svcB_of h).1.2.2.2.2.1; have h2 := of_decide_eq_true HDD.out; omega)).symm
    go_enter Tryz.func53, Tryz.ntmps53
    go_wp2_with (fail)
    rw [← h1, ← h2]
    go_ret
    exact ⟨rfl, HB.out⟩
  have HE := Lib.hid (show (1 ≤ x.1.cores ∧ x.1.cores ≤ 1000) ∧ (0 ≤ x.1.reps ∧ x.1.reps ≤ 24) ∧ (0 ≤ x.1.least ∧ x.1.least ≤ x.1.reps) ∧ (0 ≤ x.1.fw ∧ x.1.fw ≤ 1000000) ∧ x.1.dom ≤ 5 by
    have e0 := of_decide_eq_false hd0; have e1 := of_decide_eq_false hd1; have e2 := of_decide_eq_false hd2; have e3 := of_decide_eq_false hd3; have e4 := of_decide_eq_false hd4; have e5 := of_decide_eq_false hd5; have e6 := of_decide_eq_false hd6; have e7 := of_decide_eq_false hd7; have e8 := of_decide_eq_false hd8
    omega)
  obtain ⟨z0, z1, u0, u1, u2, hzz, huu⟩ : ∃ z0 z1 u0 u1 u2 : Bool, (((x.1.dom : Int) == 0) = z0 ∧ ((x.1.dom : Int) != 0) = z1 ∧ (x.1.spread != 0) = u0 ∧ decide (x.1.spread < 1) = u1 ∧ decide ((24 : Int) < x.1.spread) = u2) ∧ True := ⟨_, _, _, _, _, ⟨rfl, rfl, rfl, rfl, rfl⟩, trivial⟩
  obtain ⟨e0, e1, e2, e3, e4⟩ := hzz
  have HSP := Lib.hid (show z1 = !z0 ∧ (((if x.1.dom = 0 then 0 else 1) ≤ x.1.spread ∧ x.1.spread ≤ (if x.1.dom = 0 then 0 else 24)) ↔ (z0 && u0 || !z0 && (u1 || u2)) = false) by
    rw [← e0, ← e1, ← e2, ← e3, ← e4]
    refine ⟨by simp [bne], ?_⟩
    by_cases hz : x.1.dom = 0
    · rw [if_pos hz, if_pos hz, hz]
      simp
      (try omega)
    · rw [if_neg hz, if_neg hz]
      have : ((x.1.dom : Int) == 0) = false := by simpa using hz
      rw [this]
      simp
      (try omega))
  have hz1 : z1 = !z0 := HSP.out.1
  subst hz1
  clear huu
  have GO : (z0 && u0 || !z0 && (u1 || u2)) = true → r = false := fun ht => svcB_no HR.out (fun h => by
    have h1 := HSP.out.2.1 (svcB_of h).1.2.2.2.2.2.1
    rw [ht] at h1; cases h1)
  have HGO := Lib.hid GO
  clear GO
  rcases z0 with _ | _
  · simp only [Bool.not_false] at e1
    rcases u1 with _ | _
    rotate_left
    · obtain rfl : r = false := HGO.out (by simp)
      go_enter Tryz.func53, Tryz.ntmps53
      go_wp2_with (fail)
      rw [← h1, ← h2]
      go_ret
      exact ⟨rfl, HB.out⟩
    rcases u2 with _ | _
    rotate_left
    · obtain rfl : r = false := HGO.out (by simp)
      go_enter Tryz.func53, Tryz.ntmps53
      go_wp2_with (fail)
      rw [← h1, ← h2]
      go_ret
      exact ⟨rfl, HB.out⟩
    have HSQ := Lib.hid (HSP.out.2.2 (by simp))
    go_enter Tryz.func53, Tryz.ntmps53
    go_wp2_with (fail)
    rw [← h1, ← h2]
    clear h1 h2 y0 y1 y2 y3 y4 y5 y6 y7 yg t0 t1 t2 t3 t4 t5 t6 t7 hd0 hd1 hd2 hd3 hd4 hd5 hd6 hd7 hd8 e0 e1 e2 e3 e4
    go_loopw [6, 7] (fun la i wr => ∃ (j : Nat) (last : Int), j ≤ x.1.apart.length ∧ la = .int .i64 last ∧ i = .int .i64 (j : Int) ∧ Hid (othB (k : Int) (xs.length : Int) x.1.apart = othGo (k : Int) (xs.length : Int) last (x.1.apart.drop j)) ∧ Hid (Below W.heap.size W wr)) (fun _ i _ => x.1.apart.length - (intOf i).toNat)
    case atStart => exact ⟨0, -1, Nat.zero_le _, rfl, rfl, Lib.hid rfl, KW⟩
    case round =>
      obtain ⟨j, last, hj, rfl, rfl, hgo, hK⟩ := hrel
      have hji : ((j : Nat) : Int).toNat = j := by omega
      obtain ⟨f0, f1, f2⟩ := HF.out wr hK.out
      by_cases hlt : j < x.1.apart.length
      · obtain ⟨z, hz⟩ : ∃ z, x.1.apart[j]? = some z := ⟨_, List.getElem?_eq_getElem hlt⟩
        have HK := (HS.out.on hK.out (Nat.le_refl _)).apart
        obtain ⟨b, o, ea, -, -⟩ := HK.at_ hz
        rw [ea] at HK f1
        have g0 := int_at HK hz
        have HD := Lib.hid (show othB (k : Int) (xs.length : Int) x.1.apart = othGo (k : Int) (xs.length : Int) last (z :: x.1.apart.drop (j + 1)) by rw [hgo.out, drop_at hz])
        have hjl : (j : Int) < (x.1.apart.length : Int) := by omega
        clear hz HK ea hgo
        rcases c1 : decide (z ≤ last) with _ | _
        · rcases c2 : (z == (k : Int)) with _ | _
          · rcases c3 : decide ((xs.length : Int) ≤ z) with _ | _
            · have HN := Lib.hid (show othB (k : Int) (xs.length : Int) x.1.apart = othGo (k : Int) (xs.length : Int) z (x.1.apart.drop (j + 1)) by rw [HD.out, othGo_cons_ok (fun h => h.elim (fun h => of_decide_eq_false c1 h) (fun h => h.elim (fun h => of_decide_eq_false c3 h) (fun h => (beq_eq_false_iff_ne.1 c2) h)))])
              go_wp2_with (fail)
              go_quiet (fail)
              go_wp2_with (fail)
              go_roundw
              case rel => exact ⟨j + 1, z, by omega, rfl, by go_num, HN, Lib.hid (below_drewN hK.out)⟩
              case measure => simp only [intOf]; omega
            · have HDD := Lib.hid (of_decide_eq_true c3)
              obtain rfl : r = false := svcB_no HR.out (fun h => by have h1 := (svcB_of h).2.1; rw [HD.out, othGo_cons_no (.inr (.inl HDD.out))] at h1; cases h1)
              go_wp2_with (fail)
              go_quiet (fail)
              go_wp2_with (fail)
              go_ret
              exact ⟨rfl, below_drewN (below_join HB.out hK.out hle)⟩
          · have HDD := Lib.hid (eq_of_beq c2)
            obtain rfl : r = false := svcB_no HR.out (fun h => by have h1 := (svcB_of h).2.1; rw [HD.out, othGo_cons_no (.inr (.inr HDD.out))] at h1; cases h1)
            go_wp2_with (fail)
            go_quiet (fail)
            go_wp2_with (fail)
            go_ret
            exact ⟨rfl, below_drewN (below_join HB.out hK.out hle)⟩
        · have HDD := Lib.hid (of_decide_eq_true c1)
          obtain rfl : r = false := svcB_no HR.out (fun h => by have h1 := (svcB_of h).2.1; rw [HD.out, othGo_cons_no (.inl HDD.out)] at h1; cases h1)
          go_wp2_with (fail)
          go_quiet (fail)
          go_wp2_with (fail)
          go_ret
          exact ⟨rfl, below_drewN (below_join HB.out hK.out hle)⟩
      · obtain rfl : j = x.1.apart.length := by omega
        have HAP := Lib.hid (show othB (k : Int) (xs.length : Int) x.1.apart = true by rw [hgo.out, List.drop_eq_nil_of_le (Nat.le_refl _)]; rfl)
        clear hgo
        go_wp2_with (fail)
        clear f0 f1 f2
        go_loopw [6, 8] (fun la i wr => ∃ (j : Nat) (last : Int), j ≤ x.1.near.length ∧ la = .int .i64 last ∧ i = .int .i64 (j : Int) ∧ Hid (othB (k : Int) (xs.length : Int) (x.1.near.map (·.svc)) = othGo (k : Int) (xs.length : Int) last ((x.1.near.map (·.svc)).drop j)) ∧ Hid (∀ (i : Nat) n, i < j → x.1.near[i]? = some n → 0 ≤ n.lat ∧ n.lat ≤ 1000000) ∧ Hid (Below W.heap.size W wr)) (fun _ i _ => x.1.near.length - (intOf i).toNat)
        case atStart => exact ⟨0, -1, Nat.zero_le _, rfl, rfl, Lib.hid rfl, Lib.hid (fun i n hi => absurd hi (by omega)), hK⟩
        case round =>
          obtain ⟨j, last, hj, rfl, rfl, hgo, hla, hK⟩ := hrel
          have hji : ((j : Nat) : Int).toNat = j := by omega
          obtain ⟨f0, f1, f2⟩ := HF.out wr hK.out
          by_cases hlt : j < x.1.near.length
          · obtain ⟨z, hz⟩ : ∃ z, x.1.near[j]? = some z := ⟨_, List.getElem?_eq_getElem hlt⟩
            obtain ⟨zs, zl, rfl⟩ := nr_split z
            have HK := (HS.out.on hK.out (Nat.le_refl _)).near
            obtain ⟨b, o, ea, -, -⟩ := HK.at_ hz
            rw [ea] at HK f2
            obtain ⟨g0, g1⟩ := near_at HK hz
            simp only at g0 g1
            have HD := Lib.hid (show othB (k : Int) (xs.length : Int) (x.1.near.map (·.svc)) = othGo (k : Int) (xs.length : Int) last (zs :: (x.1.near.map (·.svc)).drop (j + 1)) by rw [hgo.out, drop_at (show (x.1.near.map (·.svc))[j]? = some zs by simp [hz])])
            have hjl : (j : Int) < (x.1.near.length : Int) := by omega
            have HZ := Lib.hid hz
            obtain ⟨V, hV⟩ : ∃ V, V = wr.alloc (.cells #[.int .i64 zs, .int .i64 zl] 120) := ⟨_, rfl⟩
            have bV : Below wr.heap.size wr V := by subst hV; exact (Below.refl _ _).alloc (Nat.le_refl _) _
            have HKV := Lib.hid (below_join hK.out bV hK.out.size)
            have q0 : V.cell? ⟨wr.heap.size, 0, none⟩ = some (.int .i64 zs) := by subst hV; exact cell_of (box_new _ _ _) rfl
            have q1 : V.cell? ⟨wr.heap.size, 1, none⟩ = some (.int .i64 zl) := by subst hV; exact cell_of (box_new _ _ _) rfl
            obtain ⟨v0, -, -⟩ := HF.out V HKV.out
            rw [hV] at q0 q1 v0
            clear hz HK ea hgo bV
            have HNO := Lib.hid (fun (hn : zs ≤ last ∨ (xs.length : Int) ≤ zs ∨ zs = (k : Int)) => (svcB_no HR.out (fun h => by have h1 := (svcB_of h).2.2; rw [HD.out, othGo_cons_no hn] at h1; cases h1) : r = false))
            have HNL := Lib.hid (fun (hn : zl < 0 ∨ 1000000 < zl) => (svcB_no HR.out (fun h => by have h1 := (svcB_of h).1.2.2.2.2.2.2 ⟨zs, zl⟩ (List.mem_of_getElem? HZ.out); simp only at h1; omega) : r = false))
            rcases c1 : decide (zs ≤ last) with _ | _
            rotate_left
            · obtain rfl : r = false := HNO.out (.inl (of_decide_eq_true c1))
              go_wp2_with (fail)
              rw [← hV]
              go_ret
              exact ⟨rfl, below_join HB.out HKV.out hle⟩
            rcases c2 : (zs == (k : Int)) with _ | _
            rotate_left
            · obtain rfl : r = false := HNO.out (.inr (.inr (eq_of_beq c2)))
              go_wp2_with (fail)
              rw [← hV]
              go_ret
              exact ⟨rfl, below_join HB.out HKV.out hle⟩
            rcases c3 : decide ((xs.length : Int) ≤ zs) with _ | _
            rotate_left
            · obtain rfl : r = false := HNO.out (.inr (.inl (of_decide_eq_true c3)))
              go_wp2_with (fail)
              rw [← hV]
              go_ret
              exact ⟨rfl, below_join HB.out HKV.out hle⟩
            rcases c4 : decide (zl < 0) with _ | _
            rotate_left
            · obtain rfl : r = false := HNL.out (.inl (of_decide_eq_true c4))
              go_wp2_with (fail)
              rw [← hV]
              go_ret
              exact ⟨rfl, below_join HB.out HKV.out hle⟩
            rcases c5 : decide ((1000000 : Int) < zl) with _ | _
            rotate_left
            · obtain rfl : r = false := HNL.out (.inr (of_decide_eq_true c5))
              go_wp2_with (fail)
              rw [← hV]
              go_ret
              exact ⟨rfl, below_join HB.out HKV.out hle⟩
            have HN := Lib.hid (show othB (k : Int) (xs.length : Int) (x.1.near.map (·.svc)) = othGo (k : Int) (xs.length : Int) zs ((x.1.near.map (·.svc)).drop (j + 1)) by rw [HD.out, othGo_cons_ok (fun h => h.elim (fun h => of_decide_eq_false c1 h) (fun h => h.elim (fun h => of_decide_eq_false c3 h) (fun h => (beq_eq_false_iff_ne.1 c2) h)))])
            have HLA := Lib.hid (show ∀ (i : Nat) n, i < j + 1 → x.1.near[i]? = some n → 0 ≤ n.lat ∧ n.lat ≤ 1000000 from fun i n hi hn => by
              rcases Nat.lt_or_ge i j with h | h
              · exact hla.out i n h hn
              · obtain rfl : i = j := by omega
                rw [HZ.out] at hn
                injection hn with hn
                subst hn
                have h1 := of_decide_eq_false c4
                have h2 := of_decide_eq_false c5
                simp only
                omega)
            go_wp2_with (fail)
            rw [← hV]
            clear hV
            go_roundw
            case rel => exact ⟨j + 1, zs, by omega, rfl, by go_num, HN, HLA, HKV⟩
            case measure => simp only [intOf]; omega
          · obtain rfl : j = x.1.near.length := by omega
            have HNP := Lib.hid (show othB (k : Int) (xs.length : Int) (x.1.near.map (·.svc)) = true by rw [hgo.out, List.drop_eq_nil_of_le (by simp)]; rfl)
            obtain rfl : true = r := by
              rw [← HR.out]
              obtain ⟨a1, a2, a3, a4, a5⟩ := HE.out
              refine (svcB_mk ⟨a1, a2, a3, a4, a5, HSQ.out, fun n hn => ?_⟩ HAP.out HNP.out).symm
              obtain ⟨i, hi⟩ := List.getElem?_of_mem hn
              exact hla.out i n (List.getElem?_eq_some_iff.1 hi).1 hi
            go_wp2_with (fail)
            go_ret
            exact ⟨rfl, below_join HB.out hK.out hle⟩
  · simp only [Bool.not_true] at e1
    rcases u0 with _ | _
    rotate_left
    · obtain rfl : r = false := HGO.out (by simp)
      go_enter Tryz.func53, Tryz.ntmps53
      go_wp2_with (fail)
      rw [← h1, ← h2]
      go_ret
      exact ⟨rfl, HB.out⟩
    have HSQ := Lib.hid (HSP.out.2.2 (by simp))
    go_enter Tryz.func53, Tryz.ntmps53
    go_wp2_with (fail)
    rw [← h1, ← h2]
    clear h1 h2 y0 y1 y2 y3 y4 y5 y6 y7 yg t0 t1 t2 t3 t4 t5 t6 t7 hd0 hd1 hd2 hd3 hd4 hd5 hd6 hd7 hd8 e0 e1 e2 e3 e4
    go_loopw [6, 7] (fun la i wr => ∃ (j : Nat) (last : Int), j ≤ x.1.apart.length ∧ la = .int .i64 last ∧ i = .int .i64 (j : Int) ∧ Hid (othB (k : Int) (xs.length : Int) x.1.apart = othGo (k : Int) (xs.length : Int) last (x.1.apart.drop j)) ∧ Hid (Below W.heap.size W wr)) (fun _ i _ => x.1.apart.length - (intOf i).toNat)
    case atStart => exact ⟨0, -1, Nat.zero_le _, rfl, rfl, Lib.hid rfl, KW⟩
    case round =>
      obtain ⟨j, last, hj, rfl, rfl, hgo, hK⟩ := hrel
      have hji : ((j : Nat) : Int).toNat = j := by omega
      obtain ⟨f0, f1, f2⟩ := HF.out wr hK.out
      by_cases hlt : j < x.1.apart.length
      · obtain ⟨z, hz⟩ : ∃ z, x.1.apart[j]? = some z := ⟨_, List.getElem?_eq_getElem hlt⟩
        have HK := (HS.out.on hK.out (Nat.le_refl _)).apart
        obtain ⟨b, o, ea, -, -⟩ := HK.at_ hz
        rw [ea] at HK f1
        have g0 := int_at HK hz
        have HD := Lib.hid (show othB (k : Int) (xs.length : Int) x.1.apart = othGo (k : Int) (xs.length : Int) last (z :: x.1.apart.drop (j + 1)) by rw [hgo.out, drop_at hz])
        have hjl : (j : Int) < (x.1.apart.length : Int) := by omega
        clear hz HK ea hgo
        rcases c1 : decide (z ≤ last) with _ | _
        · rcases c2 : (z == (k : Int)) with _ | _
          · rcases c3 : decide ((xs.length : Int) ≤ z) with _ | _
            · have HN := Lib.hid (show othB (k : Int) (xs.length : Int) x.1.apart = othGo (k : Int) (xs.length : Int) z (x.1.apart.drop (j + 1)) by rw [HD.out, othGo_cons_ok (fun h => h.elim (fun h => of_decide_eq_false c1 h) (fun h => h.elim (fun h => of_decide_eq_false c3 h) (fun h => (beq_eq_false_iff_ne.1 c2) h)))])
              go_wp2_with (fail)
              go_quiet (fail)
              go_wp2_with (fail)
              go_roundw
              case rel => exact ⟨j + 1, z, by omega, rfl, by go_num, HN, Lib.hid (below_drewN hK.out)⟩
              case measure => simp only [intOf]; omega
            · have HDD := Lib.hid (of_decide_eq_true c3)
              obtain rfl : r = false := svcB_no HR.out (fun h => by have h1 := (svcB_of h).2.1; rw [HD.out, othGo_cons_no (.inr (.inl HDD.out))] at h1; cases h1)
              go_wp2_with (fail)
              go_quiet (fail)
              go_wp2_with (fail)
              go_ret
              exact ⟨rfl, below_drewN (below_join HB.out hK.out hle)⟩
          · have HDD := Lib.hid (eq_of_beq c2)
            obtain rfl : r = false := svcB_no HR.out (fun h => by have h1 := (svcB_of h).2.1; rw [HD.out, othGo_cons_no (.inr (.inr HDD.out))] at h1; cases h1)
            go_wp2_with (fail)
            go_quiet (fail)
            go_wp2_with (fail)
            go_ret
            exact ⟨rfl, below_drewN (below_join HB.out hK.out hle)⟩
        · have HDD := Lib.hid (of_decide_eq_true c1)
          obtain rfl : r = false := svcB_no HR.out (fun h => by have h1 := (svcB_of h).2.1; rw [HD.out, othGo_cons_no (.inl HDD.out)] at h1; cases h1)
          go_wp2_with (fail)
          go_quiet (fail)
          go_wp2_with (fail)
          go_ret
          exact ⟨rfl, below_drewN (below_join HB.out hK.out hle)⟩
      · obtain rfl : j = x.1.apart.length := by omega
        have HAP := Lib.hid (show othB (k : Int) (xs.length : Int) x.1.apart = true by rw [hgo.out, List.drop_eq_nil_of_le (Nat.le_refl _)]; rfl)
        clear hgo
        go_wp2_with (fail)
        clear f0 f1 f2
        go_loopw [6, 8] (fun la i wr => ∃ (j : Nat) (last : Int), j ≤ x.1.near.length ∧ la = .int .i64 last ∧ i = .int .i64 (j : Int) ∧ Hid (othB (k : Int) (xs.length : Int) (x.1.near.map (·.svc)) = othGo (k : Int) (xs.length : Int) last ((x.1.near.map (·.svc)).drop j)) ∧ Hid (∀ (i : Nat) n, i < j → x.1.near[i]? = some n → 0 ≤ n.lat ∧ n.lat ≤ 1000000) ∧ Hid (Below W.heap.size W wr)) (fun _ i _ => x.1.near.length - (intOf i).toNat)
        case atStart => exact ⟨0, -1, Nat.zero_le _, rfl, rfl, Lib.hid rfl, Lib.hid (fun i n hi => absurd hi (by omega)), hK⟩
        case round =>
          obtain ⟨j, last, hj, rfl, rfl, hgo, hla, hK⟩ := hrel
          have hji : ((j : Nat) : Int).toNat = j := by omega
          obtain ⟨f0, f1, f2⟩ := HF.out wr hK.out
          by_cases hlt : j < x.1.near.length
          · obtain ⟨z, hz⟩ : ∃ z, x.1.near[j]? = some z := ⟨_, List.getElem?_eq_getElem hlt⟩
            obtain ⟨zs, zl, rfl⟩ := nr_split z
            have HK := (HS.out.on hK.out (Nat.le_refl _)).near
            obtain ⟨b, o, ea, -, -⟩ := HK.at_ hz
            rw [ea] at HK f2
            obtain ⟨g0, g1⟩ := near_at HK hz
            simp only at g0 g1
            have HD := Lib.hid (show othB (k : Int) (xs.length : Int) (x.1.near.map (·.svc)) = othGo (k : Int) (xs.length : Int) last (zs :: (x.1.near.map (·.svc)).drop (j + 1)) by rw [hgo.out, drop_at (show (x.1.near.map (·.svc))[j]? = some zs by simp [hz])])
            have hjl : (j : Int) < (x.1.near.length : Int) := by omega
            have HZ := Lib.hid hz
            obtain ⟨V, hV⟩ : ∃ V, V = wr.alloc (.cells #[.int .i64 zs, .int .i64 zl] 120) := ⟨_, rfl⟩
            have bV : Below wr.heap.size wr V := by subst hV; exact (Below.refl _ _).alloc (Nat.le_refl _) _
            have HKV := Lib.hid (below_join hK.out bV hK.out.size)
            have q0 : V.cell? ⟨wr.heap.size, 0, none⟩ = some (.int .i64 zs) := by subst hV; exact cell_of (box_new _ _ _) rfl
            have q1 : V.cell? ⟨wr.heap.size, 1, none⟩ = some (.int .i64 zl) := by subst hV; exact cell_of (box_new _ _ _) rfl
            obtain ⟨v0, -, -⟩ := HF.out V HKV.out
            rw [hV] at q0 q1 v0
            clear hz HK ea hgo bV
            have HNO := Lib.hid (fun (hn : zs ≤ last ∨ (xs.length : Int) ≤ zs ∨ zs = (k : Int)) => (svcB_no HR.out (fun h => by have h1 := (svcB_of h).2.2; rw [HD.out, othGo_cons_no hn] at h1; cases h1) : r = false))
            have HNL := Lib.hid (fun (hn : zl < 0 ∨ 1000000 < zl) => (svcB_no HR.out (fun h => by have h1 := (svcB_of h).1.2.2.2.2.2.2 ⟨zs, zl⟩ (List.mem_of_getElem? HZ.out); simp only at h1; omega) : r = false))
            rcases c1 : decide (zs ≤ last) with _ | _
            rotate_left
            · obtain rfl : r = false := HNO.out (.inl (of_decide_eq_true c1))
              go_wp2_with (fail)
              rw [← hV]
              go_ret
              exact ⟨rfl, below_join HB.out HKV.out hle⟩
            rcases c2 : (zs == (k : Int)) with _ | _
            rotate_left
            · obtain rfl : r = false := HNO.out (.inr (.inr (eq_of_beq c2)))
              go_wp2_with (fail)
              rw [← hV]
              go_ret
              exact ⟨rfl, below_join HB.out HKV.out hle⟩
            rcases c3 : decide ((xs.length : Int) ≤ zs) with _ | _
            rotate_left
            · obtain rfl : r = false := HNO.out (.inr (.inl (of_decide_eq_true c3)))
              go_wp2_with (fail)
              rw [← hV]
              go_ret
              exact ⟨rfl, below_join HB.out HKV.out hle⟩
            rcases c4 : decide (zl < 0) with _ | _
            rotate_left
            · obtain rfl : r = false := HNL.out (.inl (of_decide_eq_true c4))
              go_wp2_with (fail)
              rw [← hV]
              go_ret
              exact ⟨rfl, below_join HB.out HKV.out hle⟩
            rcases c5 : decide ((1000000 : Int) < zl) with _ | _
            rotate_left
            · obtain rfl : r = false := HNL.out (.inr (of_decide_eq_true c5))
              go_wp2_with (fail)
              rw [← hV]
              go_ret
              exact ⟨rfl, below_join HB.out HKV.out hle⟩
            have HN := Lib.hid (show othB (k : Int) (xs.length : Int) (x.1.near.map (·.svc)) = othGo (k : Int) (xs.length : Int) zs ((x.1.near.map (·.svc)).drop (j + 1)) by rw [HD.out, othGo_cons_ok (fun h => h.elim (fun h => of_decide_eq_false c1 h) (fun h => h.elim (fun h => of_decide_eq_false c3 h) (fun h => (beq_eq_false_iff_ne.1 c2) h)))])
            have HLA := Lib.hid (show ∀ (i : Nat) n, i < j + 1 → x.1.near[i]? = some n → 0 ≤ n.lat ∧ n.lat ≤ 1000000 from fun i n hi hn => by
              rcases Nat.lt_or_ge i j with h | h
              · exact hla.out i n h hn
              · obtain rfl : i = j := by omega
                rw [HZ.out] at hn
                injection hn with hn
                subst hn
                have h1 := of_decide_eq_false c4
                have h2 := of_decide_eq_false c5
                simp only
                omega)
            go_wp2_with (fail)
            rw [← hV]
            clear hV
            go_roundw
            case rel => exact ⟨j + 1, zs, by omega, rfl, by go_num, HN, HLA, HKV⟩
            case measure => simp only [intOf]; omega
          · obtain rfl : j = x.1.near.length := by omega
            have HNP := Lib.hid (show othB (k : Int) (xs.length : Int) (x.1.near.map (·.svc)) = true by rw [hgo.out, List.drop_eq_nil_of_le (by simp)]; rfl)
            obtain rfl : true = r := by
              rw [← HR.out]
              obtain ⟨a1, a2, a3, a4, a5⟩ := HE.out
              refine (svcB_mk ⟨a1, a2, a3, a4, a5, HSQ.out, fun n hn => ?_⟩ HAP.out HNP.out).symm
              obtain ⟨i, hi⟩ := List.getElem?_of_mem hn
              exact hla.out i n (List.getElem?_eq_some_iff.1 hi).1 hi
            go_wp2_with (fail)
            go_ret
            exact ⟨rfl, below_join HB.out hK.out hle⟩
end Go.Proofs.YtpokpgnclohiiaaGreat
