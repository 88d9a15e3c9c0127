/-
  DERIVED. Several texts in one.
-/
import Derived.Test.YtidpiokkfnhobaaPO1
import Derived.Test.YtidpiokkfnhobaaPV71
import Derived.Test.YtidpiokkfnhobaaPV54
import Derived.Test.YtidpiokkfnhobaaPV53
import Derived.Laws.StructEq
set_option linter.unusedVariables false
set_option linter.unusedSimpArgs false

namespace Go.Proofs.Ytidpiokkfnhobaa
open Go.RowKit
set_option maxRecDepth 100000
set_option linter.unusedVariables false
set_option linter.unusedSimpArgs false

set_option maxHeartbeats 4000000 in
theorem c_pwWatts (z : Sn) (r0 : Bool) (hr0 : r0 = true ↔ z.Ok) (k : Int) (w : World) (hz : SnAt w z) (v : Int) (hv : pwV z r0 (isHost k) = v) :
    Calls Try.prog 10 #[.agg #[.slice z.p.a1 z.s.feeds.length z.p.c1, .slice z.p.a2 z.s.brks.length z.p.c2, .slice z.p.a3 z.s.loops.length z.p.c3, .slice z.p.a4 z.s.racks.length z.p.c4, .int .i64 z.s.sw, .slice z.p.a5 z.s.links.length z.p.c5, .slice z.p.a6 z.s.hosts.length z.p.c6], .agg #[.slice z.A z.xs.length z.c], .agg #[.slice z.q.a1 z.d.hosts.length z.q.c1, .slice z.q.a2 z.d.reps.length z.q.c2], .int .i64 k] w fun e w' => e = .returned (.int .i64 v) ∧ Below w.heap.size w w' := by
  obtain ⟨W1, h1⟩ : ∃ W, W = w.alloc (.cells #[.slice z.p.a1 z.s.feeds.length z.p.c1, .slice z.p.a2 z.s.brks.length z.p.c2, .slice z.p.a3 z.s.loops.length z.p.c3, .slice z.p.a4 z.s.racks.length z.p.c4, .int .i64 z.s.sw, .slice z.p.a5 z.s.links.length z.p.c5, .slice z.p.a6 z.s.hosts.length z.p.c6] 41) := ⟨_, rfl⟩
  obtain ⟨W2, h2⟩ : ∃ W, W = W1.alloc (.cells #[.slice z.A z.xs.length z.c] 45) := ⟨_, rfl⟩
  obtain ⟨W3, h3⟩ : ∃ W, W = W2.alloc (.cells #[.slice z.q.a1 z.d.hosts.length z.q.c1, .slice z.q.a2 z.d.reps.length z.q.c2] 25) := ⟨_, rfl⟩
  obtain ⟨B0, X1⟩ := sn_boxes h1 h2 h3
  have z3 : W3.heap.size = w.heap.size + 1 + 1 + 1 := sn_size h1 h2 h3
  obtain ⟨W, h4⟩ : ∃ W, W = W3.alloc (.cells #[.int .i64 k] 3) := ⟨_, rfl⟩
  have B1 : Below w.heap.size w W := by rw [h4]; exact B0.alloc B0.size _
  have M0 : W.heap[w.heap.size + 1 + 1 + 1]? = some (.cells #[.int .i64 k] 3 (0, 0)) := by rw [h4, ← z3]; exact box_new _ _ _
  have z4 : W.heap.size = w.heap.size + 1 + 1 + 1 + 1 := by rw [h4, World.size_alloc, z3]
  have X2 : SnBx W w.heap.size z := by rw [h4]; exact X1.alloc _
  have HB := Lib.hid B1
  have Z0 := hz.on B1 (Nat.le_refl _)
  have HZ := Lib.hid (fun (X : World) (hX : Below W.heap.size W X) => Z0.on hX (Nat.le_refl _))
  have HF := Lib.hid (fun (X : World) (hX : Below W.heap.size W X) => ((X2.on hX (Nat.le_refl _)).cells : X.cell? ⟨w.heap.size, 0, none⟩ = some (.slice z.p.a1 z.s.feeds.length z.p.c1) ∧ X.cell? ⟨w.heap.size, 1, none⟩ = some (.slice z.p.a2 z.s.brks.length z.p.c2) ∧ X.cell? ⟨w.heap.size, 2, none⟩ = some (.slice z.p.a3 z.s.loops.length z.p.c3) ∧ X.cell? ⟨w.heap.size, 3, none⟩ = some (.slice z.p.a4 z.s.racks.length z.p.c4) ∧ X.cell? ⟨w.heap.size, 4, none⟩ = some (.int .i64 z.s.sw) ∧ X.cell? ⟨w.heap.size, 5, none⟩ = some (.slice z.p.a5 z.s.links.length z.p.c5) ∧ X.cell? ⟨w.heap.size, 6, none⟩ = some (.slice z.p.a6 z.s.hosts.length z.p.c6) ∧ X.cell? ⟨w.heap.size + 1, 0, none⟩ = some (.slice z.A z.xs.length z.c) ∧ X.cell? ⟨w.heap.size + 1 + 1, 0, none⟩ = some (.slice z.q.a1 z.d.hosts.length z.q.c1) ∧ X.cell? ⟨w.heap.size + 1 + 1, 1, none⟩ = some (.slice z.q.a2 z.d.reps.length z.q.c2)))
  have HX := Lib.hid (fun (X : World) (hX : Below W.heap.size W X) => X2.on hX (Nat.le_refl _))
  have HM0 := Lib.hid (fun (X : World) (hX : Below W.heap.size W X) => (box_on M0 hX (Nat.le_refl _) : X.heap[w.heap.size + 1 + 1 + 1]? = some (.cells #[.int .i64 k] 3 (0, 0))))
  have HKW := Lib.hid (Below.refl W.heap.size W)
  have hle := HB.out.size
  obtain ⟨n1, n2, n3, n4, n5, n6, n7, n8⟩ := hz.bounds
  have HCL := Lib.hid (fun (X : World) (hX : Below W.heap.size W X) => c_loadHost z r0 hr0 (w.heap.size + 1 + 1 + 1) k X (HZ.out X hX) (cell_of (HM0.out X hX) rfl) (at_lt (HM0.out X hX)) v hv)
  clear hr0 hv
  clear hz B0 X1 z3 Z0 B1 M0 z4 X2
  obtain ⟨f0, f1, f2, f3, f4, f5, f6, g0, g1, g2⟩ := HF.out W HKW.out
  have m00 := cell_of (HM0.out W HKW.out) (o := 0) rfl
  rw [h4, h3, h2, h1] at f0 f1 f2 f3 f4 f5 f6 g0 g1 g2 m00
  generalize hBB : w.heap.size = B at *
  go_enter Try.func10, Try.ntmps10
  go_wp2_with (fail)
  rw [← h1, ← h2, ← h3, ← h4]
  clear h1 h2 h3 h4 f0 f1 f2 f3 f4 f5 f6 g0 g1 g2 m00
  go_at_call 16
  refine (HCL.out W HKW.out).mono ?_
  rintro e v1 ⟨rfl, bb⟩
  have HKv1 := Lib.hid (below_join HKW.out bb HKW.out.size)
  clear bb
  go_wp2_with (fail)
  go_ret
  exact ⟨rfl, below_join HB.out HKv1.out hle⟩
set_option maxHeartbeats 4000000 in
theorem c_pwOfRack (z : Sn) (r0 : Bool) (hr0 : r0 = true ↔ z.Ok) (k : Int) (w : World) (hz : SnAt w z) (v : Int) (hv : pwV z r0 (isRack z.s k) = v) :
    Calls Try.prog 8 #[.agg #[.slice z.p.a1 z.s.feeds.length z.p.c1, .slice z.p.a2 z.s.brks.length z.p.c2, .slice z.p.a3 z.s.loops.length z.p.c3, .slice z.p.a4 z.s.racks.length z.p.c4, .int .i64 z.s.sw, .slice z.p.a5 z.s.links.length z.p.c5, .slice z.p.a6 z.s.hosts.length z.p.c6], .agg #[.slice z.A z.xs.length z.c], .agg #[.slice z.q.a1 z.d.hosts.length z.q.c1, .slice z.q.a2 z.d.reps.length z.q.c2], .int .i64 k] w fun e w' => e = .returned (.int .i64 v) ∧ Below w.heap.size w w' := by
  obtain ⟨W1, h1⟩ : ∃ W, W = w.alloc (.cells #[.slice z.p.a1 z.s.feeds.length z.p.c1, .slice z.p.a2 z.s.brks.length z.p.c2, .slice z.p.a3 z.s.loops.length z.p.c3, .slice z.p.a4 z.s.racks.length z.p.c4, .int .i64 z.s.sw, .slice z.p.a5 z.s.links.length z.p.c5, .slice z.p.a6 z.s.hosts.length z.p.c6] 41) := ⟨_, rfl⟩
  obtain ⟨W2, h2⟩ : ∃ W, W = W1.alloc (.cells #[.slice z.A z.xs.length z.c] 45) := ⟨_, rfl⟩
  obtain ⟨W3, h3⟩ : ∃ W, W = W2.alloc (.cells #[.slice z.q.a1 z.d.hosts.length z.q.c1, .slice z.q.a2 z.d.reps.length z.q.c2] 25) := ⟨_, rfl⟩
  obtain ⟨B0, X1⟩ := sn_boxes h1 h2 h3
  have z3 : W3.heap.size = w.heap.size + 1 + 1 + 1 := sn_size h1 h2 h3
  obtain ⟨W, h4⟩ : ∃ W, W = W3.alloc (.cells #[.int .i64 k] 3) := ⟨_, rfl⟩
  have B1 : Below w.heap.size w W := by rw [h4]; exact B0.alloc B0.size _
  have M0 : W.heap[w.heap.size + 1 + 1 + 1]? = some (.cells #[.int .i64 k] 3 (0, 0)) := by rw [h4, ← z3]; exact box_new _ _ _
  have z4 : W.heap.size = w.heap.size + 1 + 1 + 1 + 1 := by rw [h4, World.size_alloc, z3]
  have X2 : SnBx W w.heap.size z := by rw [h4]; exact X1.alloc _
  have HB := Lib.hid B1
  have Z0 := hz.on B1 (Nat.le_refl _)
  have HZ := Lib.hid (fun (X : World) (hX : Below W.heap.size W X) => Z0.on hX (Nat.le_refl _))
  have HF := Lib.hid (fun (X : World) (hX : Below W.heap.size W X) => ((X2.on hX (Nat.le_refl _)).cells : X.cell? ⟨w.heap.size, 0, none⟩ = some (.slice z.p.a1 z.s.feeds.length z.p.c1) ∧ X.cell? ⟨w.heap.size, 1, none⟩ = some (.slice z.p.a2 z.s.brks.length z.p.c2) ∧ X.cell? ⟨w.heap.size, 2, none⟩ = some (.slice z.p.a3 z.s.loops.length z.p.c3) ∧ X.cell? ⟨w.heap.size, 3, none⟩ = some (.slice z.p.a4 z.s.racks.length z.p.c4) ∧ X.cell? ⟨w.heap.size, 4, none⟩ = some (.int .i64 z.s.sw) ∧ X.cell? ⟨w.heap.size, 5, none⟩ = some (.slice z.p.a5 z.s.links.length z.p.c5) ∧ X.cell? ⟨w.heap.size, 6, none⟩ = some (.slice z.p.a6 z.s.hosts.length z.p.c6) ∧ X.cell? ⟨w.heap.size + 1, 0, none⟩ = some (.slice z.A z.xs.length z.c) ∧ X.cell? ⟨w.heap.size + 1 + 1, 0, none⟩ = some (.slice z.q.a1 z.d.hosts.length z.q.c1) ∧ X.cell? ⟨w.heap.size + 1 + 1, 1, none⟩ = some (.slice z.q.a2 z.d.reps.length z.q.c2)))
  have HX := Lib.hid (fun (X : World) (hX : Below W.heap.size W X) => X2.on hX (Nat.le_refl _))
  have HM0 := Lib.hid (fun (X : World) (hX : Below W.heap.size W X) => (box_on M0 hX (Nat.le_refl _) : X.heap[w.heap.size + 1 + 1 + 1]? = some (.cells #[.int .i64 k] 3 (0, 0))))
  have HKW := Lib.hid (Below.refl W.heap.size W)
  have hle := HB.out.size
  obtain ⟨n1, n2, n3, n4, n5, n6, n7, n8⟩ := hz.bounds
  have HCL := Lib.hid (fun (X : World) (hX : Below W.heap.size W X) => c_loadRack z r0 hr0 w.heap.size (w.heap.size + 1 + 1 + 1) k X (HZ.out X hX) ((HX.out X hX).b1) (cell_of (HM0.out X hX) rfl) (at_lt (HM0.out X hX)) v hv)
  clear hr0 hv
  clear hz B0 X1 z3 Z0 B1 M0 z4 X2
  obtain ⟨f0, f1, f2, f3, f4, f5, f6, g0, g1, g2⟩ := HF.out W HKW.out
  have m00 := cell_of (HM0.out W HKW.out) (o := 0) rfl
  rw [h4, h3, h2, h1] at f0 f1 f2 f3 f4 f5 f6 g0 g1 g2 m00
  generalize hBB : w.heap.size = B at *
  go_enter Try.func8, Try.ntmps8
  go_wp2_with (fail)
  rw [← h1, ← h2, ← h3, ← h4]
  clear h1 h2 h3 h4 f0 f1 f2 f3 f4 f5 f6 g0 g1 g2 m00
  go_at_call 16
  refine (HCL.out W HKW.out).mono ?_
  rintro e v1 ⟨rfl, bb⟩
  have HKv1 := Lib.hid (below_join HKW.out bb HKW.out.size)
  clear bb
  go_wp2_with (fail)
  go_ret
  exact ⟨rfl, below_join HB.out HKv1.out hle⟩
set_option maxHeartbeats 4000000 in
theorem c_pwOfBreaker (z : Sn) (r0 : Bool) (hr0 : r0 = true ↔ z.Ok) (k : Int) (w : World) (hz : SnAt w z) (v : Int) (hv : pwV z r0 (isBrk z.s k) = v) :
    Calls Try.prog 9 #[.agg #[.slice z.p.a1 z.s.feeds.length z.p.c1, .slice z.p.a2 z.s.brks.length z.p.c2, .slice z.p.a3 z.s.loops.length z.p.c3, .slice z.p.a4 z.s.racks.length z.p.c4, .int .i64 z.s.sw, .slice z.p.a5 z.s.links.length z.p.c5, .slice z.p.a6 z.s.hosts.length z.p.c6], .agg #[.slice z.A z.xs.length z.c], .agg #[.slice z.q.a1 z.d.hosts.length z.q.c1, .slice z.q.a2 z.d.reps.length z.q.c2], .int .i64 k] w fun e w' => e = .returned (.int .i64 v) ∧ Below w.heap.size w w' := by
  obtain ⟨W1, h1⟩ : ∃ W, W = w.alloc (.cells #[.slice z.p.a1 z.s.feeds.length z.p.c1, .slice z.p.a2 z.s.brks.length z.p.c2, .slice z.p.a3 z.s.loops.length z.p.c3, .slice z.p.a4 z.s.racks.length z.p.c4, .int .i64 z.s.sw, .slice z.p.a5 z.s.links.length z.p.c5, .slice z.p.a6 z.s.hosts.length z.p.c6] 41) := ⟨_, rfl⟩
  obtain ⟨W2, h2⟩ : ∃ W, W = W1.alloc (.cells #[.slice z.A z.xs.length z.c] 45) := ⟨_, rfl⟩
  obtain ⟨W3, h3⟩ : ∃ W, W = W2.alloc (.cells #[.slice z.q.a1 z.d.hosts.length z.q.c1, .slice z.q.a2 z.d.reps.length z.q.c2] 25) := ⟨_, rfl⟩
  obtain ⟨B0, X1⟩ := sn_boxes h1 h2 h3
  have z3 : W3.heap.size = w.heap.size + 1 + 1 + 1 := sn_size h1 h2 h3
  obtain ⟨W, h4⟩ : ∃ W, W = W3.alloc (.cells #[.int .i64 k] 3) := ⟨_, rfl⟩
  have B1 : Below w.heap.size w W := by rw [h4]; exact B0.alloc B0.size _
  have M0 : W.heap[w.heap.size + 1 + 1 + 1]? = some (.cells #[.int .i64 k] 3 (0, 0)) := by rw [h4, ← z3]; exact box_new _ _ _
  have z4 : W.heap.size = w.heap.size + 1 + 1 + 1 + 1 := by rw [h4, World.size_alloc, z3]
  have X2 : SnBx W w.heap.size z := by rw [h4]; exact X1.alloc _
  have HB := Lib.hid B1
  have Z0 := hz.on B1 (Nat.le_refl _)
  have HZ := Lib.hid (fun (X : World) (hX : Below W.heap.size W X) => Z0.on hX (Nat.le_refl _))
  have HF := Lib.hid (fun (X : World) (hX : Below W.heap.size W X) => ((X2.on hX (Nat.le_refl _)).cells : X.cell? ⟨w.heap.size, 0, none⟩ = some (.slice z.p.a1 z.s.feeds.length z.p.c1) ∧ X.cell? ⟨w.heap.size, 1, none⟩ = some (.slice z.p.a2 z.s.brks.length z.p.c2) ∧ X.cell? ⟨w.heap.size, 2, none⟩ = some (.slice z.p.a3 z.s.loops.length z.p.c3) ∧ X.cell? ⟨w.heap.size, 3, none⟩ = some (.slice z.p.a4 z.s.racks.length z.p.c4) ∧ X.cell? ⟨w.heap.size, 4, none⟩ = some (.int .i64 z.s.sw) ∧ X.cell? ⟨w.heap.size, 5, none⟩ = some (.slice z.p.a5 z.s.links.length z.p.c5) ∧ X.cell? ⟨w.heap.size, 6, none⟩ = some (.slice z.p.a6 z.s.hosts.length z.p.c6) ∧ X.cell? ⟨w.heap.size + 1, 0, none⟩ = some (.slice z.A z.xs.length z.c) ∧ X.cell? ⟨w.heap.size + 1 + 1, 0, none⟩ = some (.slice z.q.a1 z.d.hosts.length z.q.c1) ∧ X.cell? ⟨w.heap.size + 1 + 1, 1, none⟩ = some (.slice z.q.a2 z.d.reps.length z.q.c2)))
  have HX := Lib.hid (fun (X : World) (hX : Below W.heap.size W X) => X2.on hX (Nat.le_refl _))
  have HM0 := Lib.hid (fun (X : World) (hX : Below W.heap.size W X) => (box_on M0 hX (Nat.le_refl _) : X.heap[w.heap.size + 1 + 1 + 1]? = some (.cells #[.int .i64 k] 3 (0, 0))))
  have HKW := Lib.hid (Below.refl W.heap.size W)
  have hle := HB.out.size
  obtain ⟨n1, n2, n3, n4, n5, n6, n7, n8⟩ := hz.bounds
  have HCL := Lib.hid (fun (X : World) (hX : Below W.heap.size W X) => c_loadBrk z r0 hr0 w.heap.size (w.heap.size + 1 + 1 + 1) k X (HZ.out X hX) ((HX.out X hX).b1) (cell_of (HM0.out X hX) rfl) (at_lt (HM0.out X hX)) v hv)
  clear hr0 hv
  clear hz B0 X1 z3 Z0 B1 M0 z4 X2
  obtain ⟨f0, f1, f2, f3, f4, f5, f6, g0, g1, g2⟩ := HF.out W HKW.out
  have m00 := cell_of (HM0.out W HKW.out) (o := 0) rfl
  rw [h4, h3, h2, h1] at f0 f1 f2 f3 f4 f5 f6 g0 g1 g2 m00
  generalize hBB : w.heap.size = B at *
  go_enter Try.func9, Try.ntmps9
  go_wp2_with (fail)
  rw [← h1, ← h2, ← h3, ← h4]
  clear h1 h2 h3 h4 f0 f1 f2 f3 f4 f5 f6 g0 g1 g2 m00
  go_at_call 16
  refine (HCL.out W HKW.out).mono ?_
  rintro e v1 ⟨rfl, bb⟩
  have HKv1 := Lib.hid (below_join HKW.out bb HKW.out.size)
  clear bb
  go_wp2_with (fail)
  go_ret
  exact ⟨rfl, below_join HB.out HKv1.out hle⟩
set_option maxHeartbeats 4000000 in
theorem c_pwOfFeed (z : Sn) (r0 : Bool) (hr0 : r0 = true ↔ z.Ok) (k : Int) (w : World) (hz : SnAt w z) (v : Int) (hv : pwV z r0 (isFeed z.s k) = v) :
    Calls Try.prog 23 #[.agg #[.slice z.p.a1 z.s.feeds.length z.p.c1, .slice z.p.a2 z.s.brks.length z.p.c2, .slice z.p.a3 z.s.loops.length z.p.c3, .slice z.p.a4 z.s.racks.length z.p.c4, .int .i64 z.s.sw, .slice z.p.a5 z.s.links.length z.p.c5, .slice z.p.a6 z.s.hosts.length z.p.c6], .agg #[.slice z.A z.xs.length z.c], .agg #[.slice z.q.a1 z.d.hosts.length z.q.c1, .slice z.q.a2 z.d.reps.length z.q.c2], .int .i64 k] w fun e w' => e = .returned (.int .i64 v) ∧ Below w.heap.size w w' := by
  obtain ⟨W1, h1⟩ : ∃ W, W = w.alloc (.cells #[.slice z.p.a1 z.s.feeds.length z.p.c1, .slice z.p.a2 z.s.brks.length z.p.c2, .slice z.p.a3 z.s.loops.length z.p.c3, .slice z.p.a4 z.s.racks.length z.p.c4, .int .i64 z.s.sw, .slice z.p.a5 z.s.links.length z.p.c5, .slice z.p.a6 z.s.hosts.length z.p.c6] 41) := ⟨_, rfl⟩
  obtain ⟨W2, h2⟩ : ∃ W, W = W1.alloc (.cells #[.slice z.A z.xs.length z.c] 45) := ⟨_, rfl⟩
  obtain ⟨W3, h3⟩ : ∃ W, W = W2.alloc (.cells #[.slice z.q.a1 z.d.hosts.length z.q.c1, .slice z.q.a2 z.d.reps.length z.q.c2] 25) := ⟨_, rfl⟩
  obtain ⟨B0, X1⟩ := sn_boxes h1 h2 h3
  have z3 : W3.heap.size = w.heap.size + 1 + 1 + 1 := sn_size h1 h2 h3
  obtain ⟨W, h4⟩ : ∃ W, W = W3.alloc (.cells #[.int .i64 k] 3) := ⟨_, rfl⟩
  have B1 : Below w.heap.size w W := by rw [h4]; exact B0.alloc B0.size _
  have M0 : W.heap[w.heap.size + 1 + 1 + 1]? = some (.cells #[.int .i64 k] 3 (0, 0)) := by rw [h4, ← z3]; exact box_new _ _ _
  have z4 : W.heap.size = w.heap.size + 1 + 1 + 1 + 1 := by rw [h4, World.size_alloc, z3]
  have X2 : SnBx W w.heap.size z := by rw [h4]; exact X1.alloc _
  have HB := Lib.hid B1
  have Z0 := hz.on B1 (Nat.le_refl _)
  have HZ := Lib.hid (fun (X : World) (hX : Below W.heap.size W X) => Z0.on hX (Nat.le_refl _))
  have HF := Lib.hid (fun (X : World) (hX : Below W.heap.size W X) => ((X2.on hX (Nat.le_refl _)).cells : X.cell? ⟨w.heap.size, 0, none⟩ = some (.slice z.p.a1 z.s.feeds.length z.p.c1) ∧ X.cell? ⟨w.heap.size, 1, none⟩ = some (.slice z.p.a2 z.s.brks.length z.p.c2) ∧ X.cell? ⟨w.heap.size, 2, none⟩ = some (.slice z.p.a3 z.s.loops.length z.p.c3) ∧ X.cell? ⟨w.heap.size, 3, none⟩ = some (.slice z.p.a4 z.s.racks.length z.p.c4) ∧ X.cell? ⟨w.heap.size, 4, none⟩ = some (.int .i64 z.s.sw) ∧ X.cell? ⟨w.heap.size, 5, none⟩ = some (.slice z.p.a5 z.s.links.length z.p.c5) ∧ X.cell? ⟨w.heap.size, 6, none⟩ = some (.slice z.p.a6 z.s.hosts.length z.p.c6) ∧ X.cell? ⟨w.heap.size + 1, 0, none⟩ = some (.slice z.A z.xs.length z.c) ∧ X.cell? ⟨w.heap.size + 1 + 1, 0, none⟩ = some (.slice z.q.a1 z.d.hosts.length z.q.c1) ∧ X.cell? ⟨w.heap.size + 1 + 1, 1, none⟩ = some (.slice z.q.a2 z.d.reps.length z.q.c2)))
  have HX := Lib.hid (fun (X : World) (hX : Below W.heap.size W X) => X2.on hX (Nat.le_refl _))
  have HM0 := Lib.hid (fun (X : World) (hX : Below W.heap.size W X) => (box_on M0 hX (Nat.le_refl _) : X.heap[w.heap.size + 1 + 1 + 1]? = some (.cells #[.int .i64 k] 3 (0, 0))))
  have HKW := Lib.hid (Below.refl W.heap.size W)
  have hle := HB.out.size
  obtain ⟨n1, n2, n3, n4, n5, n6, n7, n8⟩ := hz.bounds
  have HCL := Lib.hid (fun (X : World) (hX : Below W.heap.size W X) => c_loadFeed z r0 hr0 w.heap.size (w.heap.size + 1 + 1 + 1) k X (HZ.out X hX) ((HX.out X hX).b1) (cell_of (HM0.out X hX) rfl) (at_lt (HM0.out X hX)) v hv)
  clear hr0 hv
  clear hz B0 X1 z3 Z0 B1 M0 z4 X2
  obtain ⟨f0, f1, f2, f3, f4, f5, f6, g0, g1, g2⟩ := HF.out W HKW.out
  have m00 := cell_of (HM0.out W HKW.out) (o := 0) rfl
  rw [h4, h3, h2, h1] at f0 f1 f2 f3 f4 f5 f6 g0 g1 g2 m00
  generalize hBB : w.heap.size = B at *
  go_enter Try.func23, Try.ntmps23
  go_wp2_with (fail)
  rw [← h1, ← h2, ← h3, ← h4]
  clear h1 h2 h3 h4 f0 f1 f2 f3 f4 f5 f6 g0 g1 g2 m00
  go_at_call 16
  refine (HCL.out W HKW.out).mono ?_
  rintro e v1 ⟨rfl, bb⟩
  have HKv1 := Lib.hid (below_join HKW.out bb HKW.out.size)
  clear bb
  go_wp2_with (fail)
  go_ret
  exact ⟨rfl, below_join HB.out HKv1.out hle⟩
end Go.Proofs.Ytidpiokkfnhobaa

namespace Go.Proofs.Ytidpiokkfnhobaa
open Go.RowKit
set_option maxRecDepth 100000
set_option linter.unusedVariables false
set_option linter.unusedSimpArgs false

def bkAt (s : SiteD) (i : Nat) : Brk := (s.brks[i]?).getD ⟨0, 0, 0, 0⟩
theorem bkAt_eq {s : SiteD} {i : Nat} {x : Brk} (h : s.brks[i]? = some x) : bkAt s i = x := by unfold bkAt; rw [h]; rfl
/-- How long a breaker bears its load. -/
def bearV (z : Sn) (r0 : Bool) (b : Int) : Int := if r0 = true ∧ 0 ≤ b ∧ b < z.s.brks.length then (v7.lastsP (bkAt z.s b.toNat).limit (bkAt z.s b.toNat).slow (max (bkAt z.s b.toNat).fast (bkAt z.s b.toNat).limit) 0 (pwV z r0 (isBrk z.s b))).1 else 0
theorem lastsTo (f L S F q p y r : Int) (hr : v7.lastsP L S F q p = (y, r)) (w : World) :
    Calls Try.prog 22 #[.agg #[.int .i64 f, .int .i64 L, .int .i64 S, .int .i64 F], .int .i64 q, .int .i64 p] w fun e w' => e = .returned (.tuple #[.int .i64 y, .int .i64 r]) ∧ Below w.heap.size w w' := v7.c_Lasts f L S F q p y r hr w
set_option maxHeartbeats 16000000 in
theorem c_pw_Bears (z : Sn) (r0 : Bool) (hr0 : r0 = true ↔ z.Ok) (k : Int) (w : World) (hz : SnAt w z) (v : Int) (hv : bearV z r0 k = v) :
    Calls Try.prog 12 #[.agg #[.slice z.p.a1 z.s.feeds.length z.p.c1, .slice z.p.a2 z.s.brks.length z.p.c2, .slice z.p.a3 z.s.loops.length z.p.c3, .slice z.p.a4 z.s.racks.length z.p.c4, .int .i64 z.s.sw, .slice z.p.a5 z.s.links.length z.p.c5, .slice z.p.a6 z.s.hosts.length z.p.c6], .agg #[.slice z.A z.xs.length z.c], .agg #[.slice z.q.a1 z.d.hosts.length z.q.c1, .slice z.q.a2 z.d.reps.length z.q.c2], .int .i64 k] w fun e w' => e = .returned (.int .i64 v) ∧ Below w.heap.size w w' := by
  obtain ⟨W1, h1⟩ : ∃ W, W = w.alloc (.cells #[.slice z.p.a1 z.s.feeds.length z.p.c1, .slice z.p.a2 z.s.brks.length z.p.c2, .slice z.p.a3 z.s.loops.length z.p.c3, .slice z.p.a4 z.s.racks.length z.p.c4, .int .i64 z.s.sw, .slice z.p.a5 z.s.links.length z.p.c5, .slice z.p.a6 z.s.hosts.length z.p.c6] 41) := ⟨_, rfl⟩
  obtain ⟨W2, h2⟩ : ∃ W, W = W1.alloc (.cells #[.slice z.A z.xs.length z.c] 45) := ⟨_, rfl⟩
  obtain ⟨W, h3⟩ : ∃ W, W = W2.alloc (.cells #[.slice z.q.a1 z.d.hosts.length z.q.c1, .slice z.q.a2 z.d.reps.length z.q.c2] 25) := ⟨_, rfl⟩
  obtain ⟨B0, X1⟩ := sn_boxes h1 h2 h3
  have z3 : W.heap.size = w.heap.size + 1 + 1 + 1 := sn_size h1 h2 h3
  have HB := Lib.hid B0
  have Z0 := hz.on B0 (Nat.le_refl _)
  have HZ := Lib.hid (fun (X : World) (hX : Below W.heap.size W X) => Z0.on hX (Nat.le_refl _))
  have HF := Lib.hid (fun (X : World) (hX : Below W.heap.size W X) => ((X1.on hX (Nat.le_refl _)).cells : X.cell? ⟨w.heap.size, 0, none⟩ = some (.slice z.p.a1 z.s.feeds.length z.p.c1) ∧ X.cell? ⟨w.heap.size, 1, none⟩ = some (.slice z.p.a2 z.s.brks.length z.p.c2) ∧ X.cell? ⟨w.heap.size, 2, none⟩ = some (.slice z.p.a3 z.s.loops.length z.p.c3) ∧ X.cell? ⟨w.heap.size, 3, none⟩ = some (.slice z.p.a4 z.s.racks.length z.p.c4) ∧ X.cell? ⟨w.heap.size, 4, none⟩ = some (.int .i64 z.s.sw) ∧ X.cell? ⟨w.heap.size, 5, none⟩ = some (.slice z.p.a5 z.s.links.length z.p.c5) ∧ X.cell? ⟨w.heap.size, 6, none⟩ = some (.slice z.p.a6 z.s.hosts.length z.p.c6) ∧ X.cell? ⟨w.heap.size + 1, 0, none⟩ = some (.slice z.A z.xs.length z.c) ∧ X.cell? ⟨w.heap.size + 1 + 1, 0, none⟩ = some (.slice z.q.a1 z.d.hosts.length z.q.c1) ∧ X.cell? ⟨w.heap.size + 1 + 1, 1, none⟩ = some (.slice z.q.a2 z.d.reps.length z.q.c2)))
  have HX := Lib.hid (fun (X : World) (hX : Below W.heap.size W X) => X1.on hX (Nat.le_refl _))
  have HKW := Lib.hid (Below.refl W.heap.size W)
  have hle := HB.out.size
  obtain ⟨n1, n2, n3, n4, n5, n6, n7, n8⟩ := hz.bounds
  have HVV := Lib.hid (fun (X : World) (hX : SnAt X z) => c_vTo z r0 hr0 X hX)
  have HV := Lib.hid hv
  have HR0 := Lib.hid hr0
  clear hr0 hv
  clear hz B0 X1 z3 Z0
  obtain ⟨f0, f1, f2, f3, f4, f5, f6, g0, g1, g2⟩ := HF.out W HKW.out
  rw [h3, h2, h1] at f0 f1 f2 f3 f4 f5 f6 g0 g1 g2
  generalize hBB : w.heap.size = B at *
  go_enter Try.func12, Try.ntmps12
  go_wp2_with (fail)
  rw [← h1, ← h2, ← h3]
  clear h1 h2 h3 f0 f1 f2 f3 f4 f5 f6 g0 g1 g2
  go_at_call 14
  refine (HVV.out W (HZ.out W HKW.out)).mono ?_
  rintro e v1 ⟨rfl, bb⟩
  have HKv1 := Lib.hid (below_join HKW.out bb HKW.out.size)
  clear bb
  cases r0
  · have HVE := Lib.hid (show (0 : Int) = v by rw [← HV.out]; unfold bearV; rw [if_neg]; simp)
    go_wp2_with (fail)
    go_ret
    exact ⟨(show Ending.returned (.int .i64 0) = .returned (.int .i64 v) by rw [HVE.out]), below_join HB.out HKv1.out hle⟩
  obtain ⟨f0, f1, f2, f3, f4, f5, f6, g0, g1, g2⟩ := HF.out v1 HKv1.out
  rcases hk0 : decide (k < 0) with _ | _
  rotate_left
  · have HVE := Lib.hid (show (0 : Int) = v by rw [← HV.out]; unfold bearV; rw [if_neg]; have := of_decide_eq_true hk0; omega)
    go_wp2_with (fail)
    go_ret
    exact ⟨(show Ending.returned (.int .i64 0) = .returned (.int .i64 v) by rw [HVE.out]), below_join HB.out HKv1.out hle⟩
  have hk0' := of_decide_eq_false hk0
  rcases hk1 : decide ((z.s.brks.length : Int) ≤ k) with _ | _
  rotate_left
  · have HVE := Lib.hid (show (0 : Int) = v by rw [← HV.out]; unfold bearV; rw [if_neg]; have := of_decide_eq_true hk1; omega)
    have hk1' := of_decide_eq_true hk1
    go_wp2_with (fail)
    go_ret
    exact ⟨(show Ending.returned (.int .i64 0) = .returned (.int .i64 v) by rw [HVE.out]), below_join HB.out HKv1.out hle⟩
  have hk1' := of_decide_eq_false hk1
  obtain ⟨m, rfl⟩ : ∃ m : Nat, k = m := ⟨k.toNat, by omega⟩
  have hlt : m < z.s.brks.length := by omega
  have hki2 : (m : Int) < (z.s.brks.length : Int) := by omega
  obtain ⟨x, hx⟩ : ∃ x, z.s.brks[m]? = some x := ⟨_, List.getElem?_eq_getElem hlt⟩
  obtain ⟨pb, po, e2, hpb, x0, x1, x2, x3⟩ := bk_at (HZ.out v1 HKv1.out) hx
  obtain ⟨p, hp⟩ : ∃ p, pwV z true (isBrk z.s (m : Int)) = p := ⟨_, rfl⟩
  obtain ⟨mx, hmx⟩ : ∃ t, max x.fast x.limit = t := ⟨_, rfl⟩
  obtain ⟨⟨y, r⟩, hyr⟩ : ∃ yr, v7.lastsP x.limit x.slow mx 0 p = yr := ⟨_, rfl⟩
  have HVE := Lib.hid (show y = v by
    rw [← HV.out]; unfold bearV
    rw [if_pos ⟨rfl, by omega, by omega⟩, Int.toNat_natCast, bkAt_eq hx, hp, hmx, hyr])
  have HP := Lib.hid hp
  have HYR := Lib.hid hyr
  have HF2 := Lib.hid (fun (X : World) (hX : Below W.heap.size W X) => (by rw [← e2]; exact HF.out X hX : X.cell? ⟨B, 0, none⟩ = some (.slice z.p.a1 z.s.feeds.length z.p.c1) ∧ X.cell? ⟨B, 1, none⟩ = some (.slice (some ⟨pb, po, none⟩) z.s.brks.length z.p.c2) ∧ X.cell? ⟨B, 2, none⟩ = some (.slice z.p.a3 z.s.loops.length z.p.c3) ∧ X.cell? ⟨B, 3, none⟩ = some (.slice z.p.a4 z.s.racks.length z.p.c4) ∧ X.cell? ⟨B, 4, none⟩ = some (.int .i64 z.s.sw) ∧ X.cell? ⟨B, 5, none⟩ = some (.slice z.p.a5 z.s.links.length z.p.c5) ∧ X.cell? ⟨B, 6, none⟩ = some (.slice z.p.a6 z.s.hosts.length z.p.c6) ∧ X.cell? ⟨B + 1, 0, none⟩ = some (.slice z.A z.xs.length z.c) ∧ X.cell? ⟨B + 1 + 1, 0, none⟩ = some (.slice z.q.a1 z.d.hosts.length z.q.c1) ∧ X.cell? ⟨B + 1 + 1, 1, none⟩ = some (.slice z.q.a2 z.d.reps.length z.q.c2)))
  obtain ⟨V, hV⟩ : ∃ X, X = v1.alloc (.cells #[.int .i64 x.feed, .int .i64 x.limit, .int .i64 x.slow, .int .i64 mx] 59) := ⟨_, rfl⟩
  have bV : Below v1.heap.size v1 V := by rw [hV]; exact (Below.refl _ _).alloc (Nat.le_refl _) _
  have BV : V.heap[v1.heap.size]? = some (.cells #[.int .i64 x.feed, .int .i64 x.limit, .int .i64 x.slow, .int .i64 mx] 59 (0, 0)) := by rw [hV]; exact box_new _ _ _
  have HKV := Lib.hid (below_join HKv1.out bV HKv1.out.size)
  have HBV := Lib.hid (fun (X : World) (hX : Below V.heap.size V X) => (⟨cell_of (box_on BV hX (Nat.le_refl _)) rfl, cell_of (box_on BV hX (Nat.le_refl _)) rfl, cell_of (box_on BV hX (Nat.le_refl _)) rfl, cell_of (box_on BV hX (Nat.le_refl _)) rfl⟩ : X.cell? ⟨v1.heap.size, 0, none⟩ = some (.int .i64 x.feed) ∧ X.cell? ⟨v1.heap.size, 1, none⟩ = some (.int .i64 x.limit) ∧ X.cell? ⟨v1.heap.size, 2, none⟩ = some (.int .i64 x.slow) ∧ X.cell? ⟨v1.heap.size, 3, none⟩ = some (.int .i64 mx)))
  have HKVV := Lib.hid (Below.refl V.heap.size V)
  have HFV := Lib.hid (fun (X : World) (h1 : Below W.heap.size W X) (h2 : Below V.heap.size V X) => (⟨HF2.out X h1, HBV.out X h2⟩ : (X.cell? ⟨B, 0, none⟩ = some (.slice z.p.a1 z.s.feeds.length z.p.c1) ∧ X.cell? ⟨B, 1, none⟩ = some (.slice (some ⟨pb, po, none⟩) z.s.brks.length z.p.c2) ∧ X.cell? ⟨B, 2, none⟩ = some (.slice z.p.a3 z.s.loops.length z.p.c3) ∧ X.cell? ⟨B, 3, none⟩ = some (.slice z.p.a4 z.s.racks.length z.p.c4) ∧ X.cell? ⟨B, 4, none⟩ = some (.int .i64 z.s.sw) ∧ X.cell? ⟨B, 5, none⟩ = some (.slice z.p.a5 z.s.links.length z.p.c5) ∧ X.cell? ⟨B, 6, none⟩ = some (.slice z.p.a6 z.s.hosts.length z.p.c6) ∧ X.cell? ⟨B + 1, 0, none⟩ = some (.slice z.A z.xs.length z.c) ∧ X.cell? ⟨B + 1 + 1, 0, none⟩ = some (.slice z.q.a1 z.d.hosts.length z.q.c1) ∧ X.cell? ⟨B + 1 + 1, 1, none⟩ = some (.slice z.q.a2 z.d.reps.length z.q.c2)) ∧ X.cell? ⟨v1.heap.size, 0, none⟩ = some (.int .i64 x.feed) ∧ X.cell? ⟨v1.heap.size, 1, none⟩ = some (.int .i64 x.limit) ∧ X.cell? ⟨v1.heap.size, 2, none⟩ = some (.int .i64 x.slow) ∧ X.cell? ⟨v1.heap.size, 3, none⟩ = some (.int .i64 mx)))
  have HOB := Lib.hid (fun (X : World) (hX : Below W.heap.size W X) => c_pwOfBreaker z true HR0.out (m : Int) X (HZ.out X hX) p HP.out)
  rw [e2] at f1 HOB
  clear hk0 hk1 hx hp hyr bV BV e2
  go_wp2_with (fail)
  rw [← hV]
  clear hV hmx x0 x1 x2 x3 f0 f1 f2 f3 f4 f5 f6 g0 g1 g2
  obtain ⟨⟨f0, f1, f2, f3, f4, f5, f6, g0, g1, g2⟩, j0, j1, j2, j3⟩ := HFV.out V HKV.out HKVV.out
  go_region_held3 (fun X => (X.cell? ⟨B, 0, none⟩ = some (.slice z.p.a1 z.s.feeds.length z.p.c1) ∧ X.cell? ⟨B, 1, none⟩ = some (.slice (some ⟨pb, po, none⟩) z.s.brks.length z.p.c2) ∧ X.cell? ⟨B, 2, none⟩ = some (.slice z.p.a3 z.s.loops.length z.p.c3) ∧ X.cell? ⟨B, 3, none⟩ = some (.slice z.p.a4 z.s.racks.length z.p.c4) ∧ X.cell? ⟨B, 4, none⟩ = some (.int .i64 z.s.sw) ∧ X.cell? ⟨B, 5, none⟩ = some (.slice z.p.a5 z.s.links.length z.p.c5) ∧ X.cell? ⟨B, 6, none⟩ = some (.slice z.p.a6 z.s.hosts.length z.p.c6) ∧ X.cell? ⟨B + 1, 0, none⟩ = some (.slice z.A z.xs.length z.c) ∧ X.cell? ⟨B + 1 + 1, 0, none⟩ = some (.slice z.q.a1 z.d.hosts.length z.q.c1) ∧ X.cell? ⟨B + 1 + 1, 1, none⟩ = some (.slice z.q.a2 z.d.reps.length z.q.c2)) ∧ X.cell? ⟨v1.heap.size, 0, none⟩ = some (.int .i64 x.feed) ∧ X.cell? ⟨v1.heap.size, 1, none⟩ = some (.int .i64 x.limit) ∧ X.cell? ⟨v1.heap.size, 2, none⟩ = some (.int .i64 x.slow) ∧ X.cell? ⟨v1.heap.size, 3, none⟩ = some (.int .i64 mx))
    (first | exact HFV.out v4 HK4.out HKK4.out | exact HFV.out v3 HK3.out HKK3.out | exact HFV.out V HKV.out HKVV.out | fail)
    (first
      | (go_at_call 9; (with_reducible refine (HOB.out V.drew HKV.out.drew).mono ?_); rintro e v3 ⟨rfl, bb0⟩; have bb := below_join (Below.refl V.heap.size V).drew bb0 (Nat.le_refl _); have HK3 := Lib.hid (below_join HKV.out bb HKV.out.size); have HKK3 := Lib.hid (below_join HKVV.out bb HKVV.out.size); clear bb bb0)
      | (go_at_call 22; (with_reducible refine (lastsTo x.feed x.limit x.slow mx 0 p y r HYR.out v3).mono ?_); rintro e v4 ⟨rfl, bb⟩; have HK4 := Lib.hid (below_join HK3.out bb HK3.out.size); have HKK4 := Lib.hid (below_join HKK3.out bb HKK3.out.size); clear bb)
      | fail)
  go_wp2_with (fail)
  go_ret
  exact ⟨(show Ending.returned (.int .i64 y) = .returned (.int .i64 v) by rw [HVE.out]), below_join HB.out HK4.out hle⟩
end Go.Proofs.Ytidpiokkfnhobaa

namespace Go.Proofs.Ytidpiokkfnhobaa
open Go.RowKit
set_option maxRecDepth 100000
set_option linter.unusedVariables false
set_option linter.unusedSimpArgs false

theorem retNet {fn : Func} {a : Act} {W : World} {R : Ending → World → Prop} {b i : Nat} {x0 x1 : Value} (hfn : fn.results = #[.cell i 32]) (hp : a.tmps[i]?.getD undef = .pointer (some ⟨b, 0, none⟩)) (hd : a.defers = [])
    (h : W.heap[b]? = some (.cells #[x0, x1] 32 (0, 0))) (hR : R (.returned (.agg #[x0, x1])) W) : bodyPost Try.prog fn R .ret a W := by
  have c0 : W.cell? ⟨b, 0, none⟩ = some x0 := cell_of h rfl
  have c1 : W.cell? ⟨b, 1, none⟩ = some x1 := cell_of h rfl
  exact bodyPost_ret (v := .agg #[x0, x1]) (by simp [results, hfn, hp, go_sem, c0, c1]) hd hR
theorem own_else {X : World} {base : Nat} {e : TypeId} {size n g cap b i : Nat} {xs : List Value} {v : Value} (h : X.ownsRow base e size (.slice (some ⟨g, 0, none⟩) n cap) n xs) (hb : g ≠ b) : (X.setCell ⟨b, i, none⟩ v).ownsRow base e size (.slice (some ⟨g, 0, none⟩) n cap) n xs := by
  obtain ⟨k1, ⟨e0, -⟩ | ⟨g', cap', cur, e0, k3, k4, k5⟩⟩ := h
  · cases e0
  · injection e0 with e1 _ e2
    injection e1 with e1
    injection e1 with e1
    subst e1 e2
    exact ⟨k1, .inr ⟨g, cap, cur, rfl, k3, set_else k4 hb, k5⟩⟩
theorem grown_trans {a w w' : World} {row : Option Nat} (h : a.grownBy w row) (k : w.grownBy w' row) : a.grownBy w' row :=
  ⟨k.os.trans h.os, k.tape.trans h.tape, k.output.trans h.output, Nat.le_trans h.size k.size, fun i hi hr => (k.block i (Nat.lt_of_lt_of_le hi h.size) hr).trans (h.block i hi hr)⟩
theorem grown_set {a w : World} {row : Option Nat} (h : a.grownBy w row) {b o : Nat} (v : Value) (hb : a.heap.size ≤ b) : a.grownBy (w.setCell ⟨b, o, none⟩ v) row :=
  ⟨h.os, h.tape, h.output, by simpa [World.setCell] using h.size, fun i hi hr => (Below.heap_setCell _ ⟨b, o, none⟩ v i (by show i ≠ b; omega)).trans (h.block i hi hr)⟩
/-- An own row of arcs: where it lies is said by a letter. -/
def ArcO (w : World) (base g cap : Nat) (l : List (Int × Int × Int)) : Prop := w.ownsRow base 57 3 (.slice (some ⟨g, 0, none⟩) l.length cap) l.length (v5.cellsA l)
theorem ArcO.pt {w : World} {base g cap : Nat} {l : List (Int × Int × Int)} (h : ArcO w base g cap l) : v5.PtSl w (.slice (some ⟨g, 0, none⟩) l.length cap) l := v5.own_ptSl h
/-- A list of arcs in memory, as news of an append. -/
theorem pt_news {w : World} {ad : Addr} {n c : Nat} {l : List (Int × Int × Int)} (h : v5.PtSl w (.slice (some ad) n c) l) : ∀ j u, (v5.cellsA l)[j]? = some u → w.cell? (ad.add j) = some u := by
  intro j u hj
  obtain ⟨p, hp, hu⟩ := v5.cellsA_of hj
  obtain ⟨b, o, c', e, hlt, -, -, y0, y1, y2⟩ := h.at_ hp
  injection e with e _ _
  injection e with e
  subst e
  have e : (⟨b, o, none⟩ : Addr).add j = ⟨b, o + j, none⟩ := by unfold Addr.add; split <;> simp_all
  rw [e]
  rcases hu with ⟨e3, rfl⟩ | ⟨e3, rfl⟩ | ⟨e3, rfl⟩
  · rw [show o + j = o + j / 3 * 3 by omega]; exact y0
  · rw [show o + j = o + j / 3 * 3 + 1 by omega]; exact y1
  · rw [show o + j = o + j / 3 * 3 + 2 by omega]; exact y2
theorem cellsA_append (l m : List (Int × Int × Int)) : v5.cellsA (l ++ m) = v5.cellsA l ++ v5.cellsA m := by simp [v5.cellsA]
/-- What with returns: the row lies where it lay, or in a new block; all else stands. -/
def WithP (w : World) (base : Nat) (v : Value) (N : Int) (l : List (Int × Int × Int)) (e : Ending) (w' : World) : Prop :=
  ∃ g cap, e = .returned (.agg #[.int .i64 N, .slice (some ⟨g, 0, none⟩) l.length cap]) ∧ ArcO w' base g cap l ∧ (v.ownBlock = some g ∨ w.heap.size ≤ g) ∧ w.grownBy w' v.ownBlock
set_option maxHeartbeats 8000000 in
theorem c_with (base : Nat) (N : Int) (v : Value) (l : List (Int × Int × Int)) (ad : Addr) (c : Nat) (m : List (Int × Int × Int)) (hm : 0 < m.length) (hlm : l.length + m.length ≤ 1000) (w : World) (hv : w.ownsRow base 57 3 v l.length (v5.cellsA l)) (hb : base ≤ w.heap.size) (hp : v5.PtSl w (.slice (some ad) m.length c) m) :
    Calls Try.prog 15 #[.agg #[.int .i64 N, v], .slice (some ad) m.length c] w (WithP w base v N (l ++ m)) := by
  obtain ⟨W1, h1⟩ : ∃ W, W = w.alloc (.cells #[.int .i64 N, v] 32) := ⟨_, rfl⟩
  obtain ⟨W, h2⟩ : ∃ W, W = W1.alloc (.cells #[.int .i64 0, .slice none 0 0] 32) := ⟨_, rfl⟩
  obtain ⟨B0, b1, b2, hzW⟩ := two_boxes h1 h2
  have hzz : W.heap.size = w.heap.size + 1 + 1 := by rw [h2, World.size_alloc, h1, World.size_alloc]
  have hvW : W.ownsRow base 57 3 v l.length (v5.cellsA l) := own_on hv B0 (Nat.le_refl _)
  have HN := Lib.hid (pt_news (hp.on B0 (Nat.le_refl _)))
  have HV := Lib.hid hvW
  have HG0 := Lib.hid (show w.grownBy W v.ownBlock from ⟨B0.os, B0.tape, B0.output, B0.size, fun k hk _ => B0.block k hk⟩)
  have HVB := Lib.hid (fun g (hg : v.ownBlock = some g) => (ownsRow_lt hv hg).2)
  have HB1 := Lib.hid b1
  have HB2 := Lib.hid b2
  have HZZ := Lib.hid hzz
  have HBB := Lib.hid (show base ≤ W.heap.size by omega)
  obtain ⟨i0, hi0, hz0, hz1, hz2⟩ := info_parts v5.arc_info
  obtain ⟨va, vn, hsh⟩ := own_shape hv
  have x1 : W.cell? ⟨w.heap.size, 1, none⟩ = some v := cell_of b1 rfl
  subst hsh
  clear hv hvW B0 b1 b2 hp hzW hzz
  rw [h2, h1] at x1
  go_enter Try.func15, Try.ntmps15
  have HM1 := Lib.hid (show v5.cellsA m = v5.cellsA m ∧ (v5.cellsA m).length = m.length * 3 from ⟨rfl, v5.cellsA_len m⟩)
  go_wp2_with (at_builtin; refine wpList_append_lies _ rfl _ _ 30 rfl base 57 i0 (.agg #[.int .i64 0, .int .i64 0, .int .i64 0]) 3 24 Try.underlying30 hi0 hz0 hz1 hz2 rfl (by decide) (.slice va l.length vn) l.length _ rfl (by rw [← h1, ← h2]; exact HV.out) ad m.length c (v5.cellsA m) rfl HM1.out.2 (by rw [← h1, ← h2]; exact HN.out) v5.cellsA_one hm (by unfold maxLen; omega) (by omega) (by rw [← h1, ← h2]; exact HBB.out) (w.heap.size + 1 + 1) (by rw [← h1, ← h2]; exact HZZ.out) ?_; intro g cap Z hown hgrow hat hlt; rw [← h1, ← h2] at hgrow; have HO := Lib.hid hown; have HGR := Lib.hid hgrow; have HAT := Lib.hid hat; have Z1 := (hgrow.block w.heap.size (by have := HZZ.out; omega) (fun e => by have := HVB.out _ e.symm; omega)).trans HB1.out; have Z2 := (hgrow.block (w.heap.size + 1) (by have := HZZ.out; omega) (fun e => by have := HVB.out _ e.symm; omega)).trans HB2.out; have c0 := cell_of (o := 0) Z1 rfl; have c1 := cell_of (o := 1) Z1 rfl; have d0 := cell_of (o := 0) Z2 rfl; have d1 := cell_of (o := 1) Z2 rfl; have f1 := frz Z1 1; have f2 := frz Z2 0; have f3 := frz Z2 1; have HZ1 := Lib.hid Z1; have HZ2 := Lib.hid Z2; clear Z1 Z2 hown hgrow hat)
  have hlw := HZZ.out
  have hgne : g ≠ w.heap.size ∧ g ≠ w.heap.size + 1 := by
    rcases HAT.out with h | h
    · have := HVB.out _ h; omega
    · omega
  refine retNet rfl rfl rfl (x0 := .int .i64 N) (x1 := .slice (some ⟨g, 0, none⟩) (l.length + m.length) cap) ?_ ?_
  · have e1 := set_else (b := w.heap.size) (o := 1) (v := .slice (some ⟨g, 0, none⟩) (l.length + m.length) cap) HZ2.out (by omega)
    have e2 := v5.row_set3 e1 (i := 0) (.int .i64 N)
    exact v5.row_set3 e2 (i := 1) (.slice (some ⟨g, 0, none⟩) (l.length + m.length) cap)
  · refine ⟨g, cap, by rw [List.length_append], ?_, ?_, ?_⟩
    · unfold ArcO
      rw [List.length_append, cellsA_append]
      exact own_else (own_else (own_else HO.out (by omega)) (by omega)) (by omega)
    · rcases HAT.out with h | h
      · exact .inl h
      · exact .inr (by omega)
    · exact grown_set (grown_set (grown_set (grown_trans HG0.out HGR.out) _ (Nat.le_refl _)) _ (by omega)) _ (by omega)
end Go.Proofs.Ytidpiokkfnhobaa

namespace Go.Proofs.Ytidpiokkfnhobaa
open Go.RowKit
set_option maxRecDepth 100000
set_option linter.unusedVariables false
set_option linter.unusedSimpArgs false

theorem pt_one (X : World) (a b c : Int) : v5.PtSl (X.alloc (.cells #[.int .i64 a, .int .i64 b, .int .i64 c] 57)) (.slice (some ⟨X.heap.size, 0, none⟩) 1 1) [(a, b, c)] := by
  refine ⟨_, 1, rfl, Nat.le_refl _, by unfold maxLen; omega, fun _ => ⟨X.heap.size, 0, rfl, by rw [World.size_alloc]; omega, fun j p hj => ?_⟩⟩
  have h := heap_alloc_new X (.cells #[.int .i64 a, .int .i64 b, .int .i64 c] 57)
  match j, hj with
  | 0, hj => simp at hj; subst hj; exact ⟨cell_of h rfl, cell_of h rfl, cell_of h rfl⟩
theorem own_kept {X Y : World} {base : Nat} {e : TypeId} {size n : Nat} {v : Value} {xs : List Value} {row : Option Nat} (h : X.ownsRow base e size v n xs) (hg : X.grownBy Y row) (hne : ∀ q, v.ownBlock = some q → some q ≠ row) : Y.ownsRow base e size v n xs :=
  h.kept hg (by
    rcases hv : v.ownBlock with _ | q
    · exact .inl rfl
    · exact .inr (hne q hv))
theorem row_store2n {W : World} {b : Nat} {y0 y1 : Value} {T : TypeId} (h : W.heap[b]? = some (.cells #[y0, y1] T (0, 0))) (x0 x1 : Value) : ((W.setCell ⟨b, 0, none⟩ x0).setCell ⟨b, 1, none⟩ x1).heap[b]? = some (.cells #[x0, x1] T (0, 0)) := set_field (set_field h x0) x1
/-- A net that is being made: P: its box; its row lies behind the box. -/
structure NetSt (w0 : World) (N : Int) (l : List (Int × Int × Int)) (X : World) (V : Value) : Prop where
  bel : Below w0.heap.size w0 X
  box : X.heap[w0.heap.size]? = some (.cells #[.int .i64 N, V] 32 (0, 0))
  row : X.ownsRow (w0.heap.size + 1) 57 3 V l.length (v5.cellsA l)
section
variable {w0 X Y : World} {N : Int} {l : List (Int × Int × Int)} {V : Value}
theorem NetSt.lt (h : NetSt w0 N l X V) : w0.heap.size < X.heap.size := at_lt h.box
theorem NetSt.on (h : NetSt w0 N l X V) (b : Below X.heap.size X Y) : NetSt w0 N l Y V := ⟨below_join h.bel b h.bel.size, box_on h.box b (Nat.le_refl _), own_on h.row b (Nat.le_refl _)⟩
theorem NetSt.own (h : NetSt w0 N l X V) {g : Nat} (hg : V.ownBlock = some g) : w0.heap.size < g ∧ g < X.heap.size := by
  have := ownsRow_lt h.row hg; omega
/-- Behind with, and the store of what it returns. -/
theorem NetSt.next (h : NetSt w0 N l X V) {m : List (Int × Int × Int)} {g cap : Nat} (ho : ArcO Y (w0.heap.size + 1) g cap m) (hat : V.ownBlock = some g ∨ X.heap.size ≤ g) (hg : X.grownBy Y V.ownBlock) :
    NetSt w0 N m ((Y.setCell ⟨w0.heap.size, 0, none⟩ (.int .i64 N)).setCell ⟨w0.heap.size, 1, none⟩ (.slice (some ⟨g, 0, none⟩) m.length cap)) (.slice (some ⟨g, 0, none⟩) m.length cap) := by
  have hlt := h.lt
  have hgP : w0.heap.size < g := by
    rcases hat with e | e
    · exact (h.own e).1
    · omega
  refine ⟨?_, ?_, own_else (own_else ho (by omega)) (by omega)⟩
  · have b1 : Below w0.heap.size w0 Y := h.bel.grown hg h.bel.size (fun k e => by have := (h.own e).1; omega)
    exact (b1.setCell (p := ⟨w0.heap.size, 0, none⟩) (Nat.le_refl _) _).setCell (p := ⟨w0.heap.size, 1, none⟩) (Nat.le_refl _) _
  · have e1 : Y.heap[w0.heap.size]? = some (.cells #[.int .i64 N, V] 32 (0, 0)) := (hg.block _ hlt (fun e => by have := (h.own e.symm).1; omega)).trans h.box
    exact row_store2n e1 _ _
/-- Behind an append to another row. -/
theorem NetSt.grown (h : NetSt w0 N l X V) {row : Option Nat} (hg : X.grownBy Y row) (hr : ∀ q, row = some q → w0.heap.size + 1 ≤ q) (hne : ∀ q, V.ownBlock = some q → row ≠ some q) : NetSt w0 N l Y V :=
  ⟨h.bel.grown hg h.bel.size (fun k e => by have := hr k e; omega), (hg.block _ h.lt (fun e => by have := hr _ e.symm; omega)).trans h.box, own_kept h.row hg (fun q hq e => hne q hq e.symm)⟩
theorem NetSt.box_in (h : NetSt w0 N l X V) (hg : X.grownBy Y V.ownBlock) : Y.heap[w0.heap.size]? = some (.cells #[.int .i64 N, V] 32 (0, 0)) := (hg.block _ h.lt (fun e => by have := (h.own e.symm).1; omega)).trans h.box
end
theorem own_off2 {X : World} {base b i j : Nat} {e : TypeId} {size n : Nat} {v : Value} {xs : List Value} (h : X.ownsRow base e size v n xs) (hb : ∀ q, v.ownBlock = some q → q ≠ b) (x y : Value) : ((X.setCell ⟨b, i, none⟩ x).setCell ⟨b, j, none⟩ y).ownsRow base e size v n xs := by
  obtain ⟨va, vn, rfl⟩ := own_shape h
  obtain ⟨k1, ⟨e0, e1⟩ | ⟨g', cap', cur, e0, k3, k4, k5⟩⟩ := h
  · exact ⟨k1, .inl ⟨e0, e1⟩⟩
  · injection e0 with e1 _ e2
    subst e1 e2
    have := hb g' rfl
    exact ⟨k1, .inr ⟨g', _, cur, rfl, k3, set_else (set_else k4 this) this, k5⟩⟩
theorem rk_at4 {z : Sn} {w : World} (h : SnAt w z) {i : Nat} {x : Rk} (hx : z.s.racks[i]? = some x) : ∃ b o, z.p.a4 = some ⟨b, o, none⟩ ∧ b < w.heap.size ∧ w.cell? ⟨b, o + i * 4, none⟩ = some (.int .i64 x.row) ∧ w.cell? ⟨b, o + i * 4 + 1, none⟩ = some (.int .i64 x.brk) ∧ w.cell? ⟨b, o + i * 4 + 2, none⟩ = some (.int .i64 x.loop) ∧ w.cell? ⟨b, o + i * 4 + 3, none⟩ = some (.int .i64 x.sw) := by
  obtain ⟨b, o, e, hb, hc⟩ := h.si.racks.at_ hx
  exact ⟨b, o, e, hb, by simpa [rkF] using hc 0 (by omega), hc 1 (by omega), hc 2 (by omega), hc 3 (by omega)⟩
def netNV (z : Sn) (r0 : Bool) : Int := if r0 = true then (netN z.s : Int) else 0
def netLV (z : Sn) (r0 : Bool) : List (Int × Int × Int) := if r0 = true then netL z.s z.ss z.d else []
/-- What Net returns. -/
def NetPost (z : Sn) (r0 : Bool) (w : World) (e : Ending) (w' : World) : Prop :=
  ∃ v, e = .returned (.agg #[.int .i64 (netNV z r0), v]) ∧ v5.PtSl w' v (netLV z r0) ∧ Below w.heap.size w w'
set_option maxHeartbeats 32000000 in
theorem c_pwNet (z : Sn) (r0 : Bool) (hr0 : r0 = true ↔ z.Ok) (w : World) (hz : SnAt w z) :
    Calls Try.prog 5 #[.agg #[.slice z.p.a1 z.s.feeds.length z.p.c1, .slice z.p.a2 z.s.brks.length z.p.c2, .slice z.p.a3 z.s.loops.length z.p.c3, .slice z.p.a4 z.s.racks.length z.p.c4, .int .i64 z.s.sw, .slice z.p.a5 z.s.links.length z.p.c5, .slice z.p.a6 z.s.hosts.length z.p.c6], .agg #[.slice z.A z.xs.length z.c], .agg #[.slice z.q.a1 z.d.hosts.length z.q.c1, .slice z.q.a2 z.d.reps.length z.q.c2]] w (NetPost z r0 w) := by
  obtain ⟨W1, h1⟩ : ∃ W, W = w.alloc (.cells #[.slice z.p.a1 z.s.feeds.length z.p.c1, .slice z.p.a2 z.s.brks.length z.p.c2, .slice z.p.a3 z.s.loops.length z.p.c3, .slice z.p.a4 z.s.racks.length z.p.c4, .int .i64 z.s.sw, .slice z.p.a5 z.s.links.length z.p.c5, .slice z.p.a6 z.s.hosts.length z.p.c6] 41) := ⟨_, rfl⟩
  obtain ⟨W2, h2⟩ : ∃ W, W = W1.alloc (.cells #[.slice z.A z.xs.length z.c] 45) := ⟨_, rfl⟩
  obtain ⟨W3, h3⟩ : ∃ W, W = W2.alloc (.cells #[.slice z.q.a1 z.d.hosts.length z.q.c1, .slice z.q.a2 z.d.reps.length z.q.c2] 25) := ⟨_, rfl⟩
  obtain ⟨B0, X1⟩ := sn_boxes h1 h2 h3
  have z3 : W3.heap.size = w.heap.size + 1 + 1 + 1 := sn_size h1 h2 h3
  obtain ⟨W, h4⟩ : ∃ W, W = W3.alloc (.cells #[.int .i64 0, .slice none 0 0] 32) := ⟨_, rfl⟩
  have B1 : Below w.heap.size w W := by rw [h4]; exact B0.alloc B0.size _
  have M0 : W.heap[w.heap.size + 1 + 1 + 1]? = some (.cells #[.int .i64 0, .slice none 0 0] 32 (0, 0)) := by rw [h4, ← z3]; exact box_new _ _ _
  have z4 : W.heap.size = w.heap.size + 1 + 1 + 1 + 1 := by rw [h4, World.size_alloc, z3]
  have X2 : SnBx W w.heap.size z := by rw [h4]; exact X1.alloc _
  have HB := Lib.hid B1
  have Z0 := hz.on B1 (Nat.le_refl _)
  have HZ := Lib.hid (fun (X : World) (hX : Below W.heap.size W X) => Z0.on hX (Nat.le_refl _))
  have HF := Lib.hid (fun (X : World) (hX : Below W.heap.size W X) => ((X2.on hX (Nat.le_refl _)).cells : X.cell? ⟨w.heap.size, 0, none⟩ = some (.slice z.p.a1 z.s.feeds.length z.p.c1) ∧ X.cell? ⟨w.heap.size, 1, none⟩ = some (.slice z.p.a2 z.s.brks.length z.p.c2) ∧ X.cell? ⟨w.heap.size, 2, none⟩ = some (.slice z.p.a3 z.s.loops.length z.p.c3) ∧ X.cell? ⟨w.heap.size, 3, none⟩ = some (.slice z.p.a4 z.s.racks.length z.p.c4) ∧ X.cell? ⟨w.heap.size, 4, none⟩ = some (.int .i64 z.s.sw) ∧ X.cell? ⟨w.heap.size, 5, none⟩ = some (.slice z.p.a5 z.s.links.length z.p.c5) ∧ X.cell? ⟨w.heap.size, 6, none⟩ = some (.slice z.p.a6 z.s.hosts.length z.p.c6) ∧ X.cell? ⟨w.heap.size + 1, 0, none⟩ = some (.slice z.A z.xs.length z.c) ∧ X.cell? ⟨w.heap.size + 1 + 1, 0, none⟩ = some (.slice z.q.a1 z.d.hosts.length z.q.c1) ∧ X.cell? ⟨w.heap.size + 1 + 1, 1, none⟩ = some (.slice z.q.a2 z.d.reps.length z.q.c2)))
  have HX := Lib.hid (fun (X : World) (hX : Below W.heap.size W X) => X2.on hX (Nat.le_refl _))
  have HM0 := Lib.hid (fun (X : World) (hX : Below W.heap.size W X) => (box_on M0 hX (Nat.le_refl _) : X.heap[w.heap.size + 1 + 1 + 1]? = some (.cells #[.int .i64 0, .slice none 0 0] 32 (0, 0))))
  have HKW := Lib.hid (Below.refl W.heap.size W)
  have hle := HB.out.size
  obtain ⟨n1, n2, n3, n4, n5, n6, n7, n8⟩ := hz.bounds
  have HVV := Lib.hid (fun (X : World) (hX : SnAt X z) => c_vTo z r0 hr0 X hX)
  have HRK := Lib.hid (fun (i : Int) (X : World) (hX : SnAt X z) => c_pwOfRack z r0 hr0 i X hX _ rfl)
  have HR0 := Lib.hid hr0
  clear hr0
  clear hz B0 X1 z3 Z0 B1 M0 z4 X2
  generalize hA1 : z.p.a1 = A1 at *
  have HA1 := Lib.hid hA1
  clear hA1
  generalize hA2 : z.p.a2 = A2 at *
  have HA2 := Lib.hid hA2
  clear hA2
  generalize hA4 : z.p.a4 = A4 at *
  have HA4 := Lib.hid hA4
  clear hA4
  obtain ⟨f0, f1, f2, f3, f4, f5, f6, g0, g1, g2⟩ := HF.out W HKW.out
  have m00 := cell_of (HM0.out W HKW.out) (o := 0) rfl
  have m01 := cell_of (HM0.out W HKW.out) (o := 1) rfl
  rw [h4, h3, h2, h1] at f0 f1 f2 f3 f4 f5 f6 g0 g1 g2 m00 m01
  generalize hBB : w.heap.size = B at *
  go_enter Try.func5, Try.ntmps5
  go_wp2_with (fail)
  rw [← h1, ← h2, ← h3, ← h4]
  clear h1 h2 h3 h4 f0 f1 f2 f3 f4 f5 f6 g0 g1 g2 m00 m01
  go_at_call 14
  refine (HVV.out W (HZ.out W HKW.out)).mono ?_
  rintro e v1 ⟨rfl, bb⟩
  have HKv1 := Lib.hid (below_join HKW.out bb HKW.out.size)
  clear bb
  cases r0
  · have b6 := HM0.out v1 HKv1.out
    have c0 := cell_of (o := 0) b6 rfl
    have c1 := cell_of (o := 1) b6 rfl
    have f0 := frz b6 0
    have f1 := frz b6 1
    have HB6 := Lib.hid b6
    clear b6
    go_wp2_with (fail)
    refine retNet rfl rfl rfl (x0 := .int .i64 0) (x1 := .slice none 0 0) (row_store2n HB6.out _ _) ⟨_, rfl, ?_, ?_⟩
    · exact ⟨none, 0, rfl, Nat.le_refl _, Nat.zero_le _, fun h => absurd h (Nat.lt_irrefl _)⟩
    · rw [hBB]; exact ((below_join HB.out HKv1.out hle).setCell (p := ⟨B + 1 + 1 + 1, 0, none⟩) (by show B ≤ B + 1 + 1 + 1; omega) _).setCell (p := ⟨B + 1 + 1 + 1, 1, none⟩) (by show B ≤ B + 1 + 1 + 1; omega) _
  have HOK := Lib.hid (HR0.out.1 rfl)
  obtain ⟨⟨k1, k2⟩, ⟨k3, k4⟩, ⟨k5, k6⟩⟩ : (1 ≤ z.s.feeds.length ∧ z.s.feeds.length ≤ 4) ∧ (1 ≤ z.s.brks.length ∧ z.s.brks.length ≤ 8) ∧ (1 ≤ z.s.racks.length ∧ z.s.racks.length ≤ 8) := by
    have h := siteOk_iff.1 HOK.out.1
    exact ⟨h.nfeeds, h.nbrks, h.nracks⟩
  obtain ⟨N, hN⟩ : ∃ N : Int, (2 + (z.s.feeds.length : Int) + (z.s.brks.length : Int) + (z.s.racks.length : Int)) = N := ⟨_, rfl⟩
  have HN := Lib.hid hN
  obtain ⟨V, hV⟩ : ∃ X, X = v1.alloc (.cells #[.int .i64 N, .slice none 0 0] 32) := ⟨_, rfl⟩
  have HS0 := Lib.hid (show NetSt v1 N [] V (.slice none 0 0) by rw [hV]; exact ⟨(Below.refl _ _).alloc (Nat.le_refl _) _, box_new _ _ _, World.ownsRow_nil _ _ _ _⟩)
  have hle1 : W.heap.size ≤ v1.heap.size := HKv1.out.size
  have HSC := Lib.hid (fun l (X : World) U (h : NetSt v1 N l X U) => below_join HKv1.out h.bel hle1)
  obtain ⟨f0, f1, f2, f3, f4, f5, f6, g0, g1, g2⟩ := HF.out v1 HKv1.out
  have e0 := (HF.out V (HSC.out _ _ _ HS0.out)).1
  rw [hV] at e0
  go_wp2_with (fail)
  rw [← hV]
  clear hV f0 f1 f2 f3 f4 f5 f6 g0 g1 g2 e0
  have bndB : ∀ {i : Nat} {x : Int}, z.s.feeds[i]? = some x → True := fun _ => trivial
  go_loopw [42] (fun i wr => ∃ (k : Nat) (U : Value), k ≤ z.s.feeds.length ∧ i = .int .i64 (k : Int) ∧ Hid (NetSt v1 N (arcsN (arF z.s) k) wr U)) (fun i _ => z.s.feeds.length - (intOf i).toNat)
  case atStart => exact ⟨0, _, Nat.zero_le _, rfl, HS0⟩
  case round =>
    obtain ⟨k, U, hk, rfl, hS⟩ := hrel
    have hki : ((k : Nat) : Int).toNat = k := by omega
    by_cases hlt : k < z.s.feeds.length
    · obtain ⟨x, hx⟩ : ∃ x, z.s.feeds[k]? = some x := ⟨_, List.getElem?_eq_getElem hlt⟩
      have HXX := Lib.hid hx
      obtain ⟨pb, po, e1, hpb, x0⟩ := fd_at (HZ.out wr (HSC.out _ _ _ hS.out)) hx
      rw [HA1.out] at e1
      subst e1
      have hki2 : (k : Int) < (z.s.feeds.length : Int) := by omega
      have HARC := Lib.hid (show arF z.s k = (0, (2 + (k : Int)), x) by unfold arF fdL; rw [HXX.out]; rfl)
      have HLL := Lib.hid (show (arcsN (arF z.s) k) ++ [(0, (2 + (k : Int)), x)] = (arcsN (arF z.s) (k + 1)) by rw [← HARC.out, arcsN_succ])
      have bnd := bndB HXX.out
      clear hx
      obtain ⟨X1, hX1⟩ : ∃ X, X = wr.alloc (.cells #[.int .i64 x] 54) := ⟨_, rfl⟩
      obtain ⟨X2, hX2⟩ : ∃ X, X = X1.alloc (.cells #[.int .i64 0, .int .i64 (2 + (k : Int)), .int .i64 x] 57) := ⟨_, rfl⟩
      have bX1 : Below wr.heap.size wr X1 := by rw [hX1]; exact (Below.refl _ _).alloc (Nat.le_refl _) _
      have s1 : X1.heap.size = wr.heap.size + 1 := by rw [hX1, World.size_alloc]
      have bX2 : Below wr.heap.size wr X2 := by rw [hX2]; exact bX1.alloc bX1.size _
      have S2 := hS.out.on bX2
      have PT := pt_one X1 0 (2 + (k : Int)) x
      rw [← hX2, s1] at PT
      have bx := hS.out.box
      have c0 := cell_of (o := 0) bx rfl
      have c1 := cell_of (o := 1) bx rfl
      have d0 := cell_of (o := 0) (bX1.block _ hS.out.lt |>.trans bx) rfl
      have d1 := cell_of (o := 1) (bX1.block _ hS.out.lt |>.trans bx) rfl
      rw [hX1] at d0 d1
      have HS2 := Lib.hid S2
      have HCW := Lib.hid (c_with (v1.heap.size + 1) N U (arcsN (arF z.s) k) ⟨wr.heap.size + 1, 0, none⟩ 1 [(0, (2 + (k : Int)), x)] (by simp) (by simp [arcsN_len]; omega) X2 S2.row (by have := S2.lt; omega) PT)
      rw [HLL.out] at HCW
      clear bX1 bX2 S2 PT bx s1
      go_wp2_with (fail)
      rw [← hX1, ← hX2]
      clear hX1 hX2 c0 c1 d0 d1 x0
      go_at_call 15
      refine HCW.out.mono ?_
      rintro e v2 ⟨g, cap, rfl, ho, hat, hgr⟩
      have hbx := HS2.out.box_in hgr
      have c0 := cell_of (o := 0) hbx rfl
      have c1 := cell_of (o := 1) hbx rfl
      have f0 := frz hbx 0
      have f1 := frz hbx 1
      have HS3 := Lib.hid (HS2.out.next ho hat hgr)
      clear hbx ho hat hgr
      obtain ⟨ll, hll⟩ : ∃ n, (arcsN (arF z.s) (k + 1)).length = n := ⟨_, rfl⟩
      rw [hll] at HS3
      rw [hll]
      clear hll
      go_wp2_with (fail)
      exact ⟨⟨k + 1, _, by omega, by go_num, HS3⟩, by simp only [intOf]; omega⟩
    · obtain rfl : k = z.s.feeds.length := by omega
      have e0 := (HF.out wr (HSC.out _ _ _ hS.out)).2.1
      go_wp2_with (fail)
      clear e0
      obtain ⟨wA, hwA⟩ : ∃ X, X = wr := ⟨_, rfl⟩
      subst hwA
      have hS0 := hS
      clear bndB
      have bndB : ∀ {i : Nat} {x : Brk}, z.s.brks[i]? = some x → 0 ≤ x.feed ∧ x.feed < 4 := fun {i x} h => by
        have := (siteOk_iff.1 HOK.out.1).brks _ (List.mem_of_getElem? h); omega
      go_loopw [59] (fun i wr => ∃ (k : Nat) (U : Value), k ≤ z.s.brks.length ∧ i = .int .i64 (k : Int) ∧ Hid (NetSt v1 N (arcsN (arF z.s) z.s.feeds.length ++ arcsN (arB z.s) k) wr U)) (fun i _ => z.s.brks.length - (intOf i).toNat)
      case atStart => exact ⟨0, _, Nat.zero_le _, rfl, Lib.hid (by have h := hS0.out; simpa [arcsN] using h)⟩
      case round =>
        obtain ⟨k, U, hk, rfl, hS⟩ := hrel
        have hki : ((k : Nat) : Int).toNat = k := by omega
        by_cases hlt : k < z.s.brks.length
        · obtain ⟨x, hx⟩ : ∃ x, z.s.brks[k]? = some x := ⟨_, List.getElem?_eq_getElem hlt⟩
          have HXX := Lib.hid hx
          obtain ⟨pb, po, e1, hpb, x0, x1, x2, x3⟩ := bk_at (HZ.out wr (HSC.out _ _ _ hS.out)) hx
          rw [HA2.out] at e1
          subst e1
          have hki2 : (k : Int) < (z.s.brks.length : Int) := by omega
          have HARC := Lib.hid (show arB z.s k = ((2 + x.feed), (2 + (z.s.feeds.length : Int) + (k : Int)), x.limit) by unfold arB bkF bkL nF; rw [HXX.out]; rfl)
          have HLL := Lib.hid (show (arcsN (arF z.s) z.s.feeds.length ++ arcsN (arB z.s) k) ++ [((2 + x.feed), (2 + (z.s.feeds.length : Int) + (k : Int)), x.limit)] = (arcsN (arF z.s) z.s.feeds.length ++ arcsN (arB z.s) (k + 1)) by rw [← HARC.out, arcsN_succ, List.append_assoc])
          have bnd := bndB HXX.out
          clear hx
          obtain ⟨X1, hX1⟩ : ∃ X, X = wr.alloc (.cells #[.int .i64 x.feed, .int .i64 x.limit, .int .i64 x.slow, .int .i64 x.fast] 59) := ⟨_, rfl⟩
          obtain ⟨X2, hX2⟩ : ∃ X, X = X1.alloc (.cells #[.int .i64 (2 + x.feed), .int .i64 (2 + (z.s.feeds.length : Int) + (k : Int)), .int .i64 x.limit] 57) := ⟨_, rfl⟩
          have bX1 : Below wr.heap.size wr X1 := by rw [hX1]; exact (Below.refl _ _).alloc (Nat.le_refl _) _
          have s1 : X1.heap.size = wr.heap.size + 1 := by rw [hX1, World.size_alloc]
          have bX2 : Below wr.heap.size wr X2 := by rw [hX2]; exact bX1.alloc bX1.size _
          have S2 := hS.out.on bX2
          have PT := pt_one X1 (2 + x.feed) (2 + (z.s.feeds.length : Int) + (k : Int)) x.limit
          rw [← hX2, s1] at PT
          have bx := hS.out.box
          have c0 := cell_of (o := 0) bx rfl
          have c1 := cell_of (o := 1) bx rfl
          have d0 := cell_of (o := 0) (bX1.block _ hS.out.lt |>.trans bx) rfl
          have d1 := cell_of (o := 1) (bX1.block _ hS.out.lt |>.trans bx) rfl
          rw [hX1] at d0 d1
          have HS2 := Lib.hid S2
          have HCW := Lib.hid (c_with (v1.heap.size + 1) N U (arcsN (arF z.s) z.s.feeds.length ++ arcsN (arB z.s) k) ⟨wr.heap.size + 1, 0, none⟩ 1 [((2 + x.feed), (2 + (z.s.feeds.length : Int) + (k : Int)), x.limit)] (by simp) (by simp [arcsN_len]; omega) X2 S2.row (by have := S2.lt; omega) PT)
          rw [HLL.out] at HCW
          clear bX1 bX2 S2 PT bx s1
          go_wp2_with (fail)
          rw [← hX1, ← hX2]
          clear hX1 hX2 c0 c1 d0 d1 x0 x1 x2 x3
          go_at_call 15
          refine HCW.out.mono ?_
          rintro e v2 ⟨g, cap, rfl, ho, hat, hgr⟩
          have hbx := HS2.out.box_in hgr
          have c0 := cell_of (o := 0) hbx rfl
          have c1 := cell_of (o := 1) hbx rfl
          have f0 := frz hbx 0
          have f1 := frz hbx 1
          have HS3 := Lib.hid (HS2.out.next ho hat hgr)
          clear hbx ho hat hgr
          obtain ⟨ll, hll⟩ : ∃ n, (arcsN (arF z.s) z.s.feeds.length ++ arcsN (arB z.s) (k + 1)).length = n := ⟨_, rfl⟩
          rw [hll] at HS3
          rw [hll]
          clear hll
          go_wp2_with (fail)
          exact ⟨⟨k + 1, _, by omega, by go_num, HS3⟩, by simp only [intOf]; omega⟩
        · obtain rfl : k = z.s.brks.length := by omega
          have e3 := (HF.out wr (HSC.out _ _ _ hS.out)).2.2.2.1
          go_wp2_with (fail)
          clear e3
          obtain ⟨wA, hwA⟩ : ∃ X, X = wr := ⟨_, rfl⟩
          subst hwA
          have hS1 := hS
          clear bndB
          obtain ⟨i0, hi0, hz0, hz1, hz2⟩ := info_parts v5.arc_info
          have bndB : ∀ {i : Nat} {x : Rk}, z.s.racks[i]? = some x → 0 ≤ x.brk ∧ x.brk < 8 := fun {i x} h => by
            have := (siteOk_iff.1 HOK.out.1).racks _ (List.mem_of_getElem? h); omega
          go_loopw [14, 80] (fun o i wr => ∃ (k : Nat) (U O : Value), k ≤ z.s.racks.length ∧ o = O ∧ i = .int .i64 (k : Int) ∧ Hid (NetSt v1 N ((arcsN (arF z.s) z.s.feeds.length ++ arcsN (arB z.s) z.s.brks.length) ++ arcsN (arR z.s z.ss z.d) k) wr U) ∧ Hid (wr.ownsRow (v1.heap.size + 1) 57 3 O k (v5.cellsA (arcsN (arO z.s z.ss z.d) k))) ∧ Hid (∀ g, U.ownBlock = some g → O.ownBlock ≠ some g)) (fun _ i _ => z.s.racks.length - (intOf i).toNat)
          case atStart => exact ⟨0, _, _, Nat.zero_le _, rfl, rfl, Lib.hid (by have h := hS1.out; simpa [arcsN] using h), Lib.hid (World.ownsRow_nil _ _ _ _), Lib.hid (fun g hg => by simp [Value.ownBlock])⟩
          case round =>
            obtain ⟨k, U, O, hk, hoe, rfl, hS, hO, hne⟩ := hrel
            have hoe' := hoe.symm
            subst hoe'
            have hki : ((k : Nat) : Int).toNat = k := by omega
            by_cases hlt : k < z.s.racks.length
            · obtain ⟨x, hx⟩ : ∃ x, z.s.racks[k]? = some x := ⟨_, List.getElem?_eq_getElem hlt⟩
              have HXX := Lib.hid hx
              obtain ⟨pb, po, e1, hpb, x0⟩ := rk_at4 (HZ.out wr (HSC.out _ _ _ hS.out)) hx
              rw [HA4.out] at e1
              subst e1
              obtain ⟨x0, x1, x2, x3⟩ := x0
              have hki2 : (k : Int) < (z.s.racks.length : Int) := by omega
              obtain ⟨ld, hld⟩ : ∃ t, ldR z.s z.ss z.d k = t := ⟨_, rfl⟩
              have HARC := Lib.hid (show arR z.s z.ss z.d k = (2 + (z.s.feeds.length : Int) + x.brk, 2 + (z.s.feeds.length : Int) + (z.s.brks.length : Int) + (k : Int), ld) by unfold arR rkB nF nB; rw [HXX.out, hld]; rfl)
              have HARO := Lib.hid (show arO z.s z.ss z.d k = (2 + (z.s.feeds.length : Int) + (z.s.brks.length : Int) + (k : Int), 1, ld) by unfold arO nF nB; rw [hld])
              have HRC := Lib.hid (fun (X : World) (hX : SnAt X z) => HRK.out (k : Int) X hX)
              rw [show pwV z true (isRack z.s (k : Int)) = ld from hld] at HRC
              have HLL := Lib.hid (show ((arcsN (arF z.s) z.s.feeds.length ++ arcsN (arB z.s) z.s.brks.length) ++ arcsN (arR z.s z.ss z.d) k) ++ [(2 + (z.s.feeds.length : Int) + x.brk, 2 + (z.s.feeds.length : Int) + (z.s.brks.length : Int) + (k : Int), ld)] = ((arcsN (arF z.s) z.s.feeds.length ++ arcsN (arB z.s) z.s.brks.length) ++ arcsN (arR z.s z.ss z.d) (k + 1)) by rw [← HARC.out, arcsN_succ, List.append_assoc])
              have bnd := bndB HXX.out
              clear hx hld
              obtain ⟨X1, hX1⟩ : ∃ X, X = wr.alloc (.cells #[.int .i64 x.row, .int .i64 x.brk, .int .i64 x.loop, .int .i64 x.sw] 61) := ⟨_, rfl⟩
              have bX1 : Below wr.heap.size wr X1 := by rw [hX1]; exact (Below.refl _ _).alloc (Nat.le_refl _) _
              have HR1 := Lib.hid (show X1.heap[wr.heap.size]? = some (.cells #[.int .i64 x.row, .int .i64 x.brk, .int .i64 x.loop, .int .i64 x.sw] 61 (0, 0)) by rw [hX1]; exact box_new _ _ _)
              have HS1 := Lib.hid (hS.out.on bX1)
              have HO1 := Lib.hid (own_on hO.out bX1 (Nat.le_refl _))
              obtain ⟨f0, f1, f2, f3, f4, f5, f6, g0, g1, g2⟩ := HF.out X1 (HSC.out _ _ _ HS1.out)
              rw [hX1] at f0 f1 f2 f3 f4 f5 f6 g0 g1 g2
              clear bX1
              go_wp2_with (fail)
              rw [← hX1]
              clear hX1 f0 f1 f2 f3 f4 f5 f6 g0 g1 g2 x0 x1 x2 x3
              go_at_call 8
              refine (HRC.out X1 (HZ.out X1 (HSC.out _ _ _ HS1.out))).mono ?_
              rintro e v2 ⟨rfl, bb⟩
              have HS2 := Lib.hid (HS1.out.on bb)
              have HO2 := Lib.hid (own_on HO1.out bb (Nat.le_refl _))
              have hr2 := box_on HR1.out bb (Nat.le_refl _)
              clear bb
              have r1 := cell_of (o := 1) hr2 rfl
              have c0 := cell_of (o := 0) HS2.out.box rfl
              have c1 := cell_of (o := 1) HS2.out.box rfl
              obtain ⟨X3, hX3⟩ : ∃ X, X = v2.alloc (.cells #[.int .i64 (2 + (z.s.feeds.length : Int) + x.brk), .int .i64 (2 + (z.s.feeds.length : Int) + (z.s.brks.length : Int) + (k : Int)), .int .i64 ld] 57) := ⟨_, rfl⟩
              have bX3 : Below v2.heap.size v2 X3 := by rw [hX3]; exact (Below.refl _ _).alloc (Nat.le_refl _) _
              have HS3 := Lib.hid (HS2.out.on bX3)
              have HO3 := Lib.hid (own_on HO2.out bX3 (Nat.le_refl _))
              have PT := pt_one v2 (2 + (z.s.feeds.length : Int) + x.brk) (2 + (z.s.feeds.length : Int) + (z.s.brks.length : Int) + (k : Int)) ld
              rw [← hX3] at PT
              have HCW := Lib.hid (c_with (v1.heap.size + 1) N U ((arcsN (arF z.s) z.s.feeds.length ++ arcsN (arB z.s) z.s.brks.length) ++ arcsN (arR z.s z.ss z.d) k) ⟨v2.heap.size, 0, none⟩ 1 [(2 + (z.s.feeds.length : Int) + x.brk, 2 + (z.s.feeds.length : Int) + (z.s.brks.length : Int) + (k : Int), ld)] (by simp) (by simp [arcsN_len]; omega) X3 HS3.out.row (by have := HS3.out.lt; omega) PT)
              rw [HLL.out] at HCW
              clear bX3 PT hr2
              go_wp2_with (fail)
              rw [← hX3]
              clear hX3 r1 c0 c1
              go_at_call 15
              refine HCW.out.mono ?_
              rintro e v4 ⟨g, cap, rfl, ho, hat, hgr⟩
              have hbx := HS3.out.box_in hgr
              have c0 := cell_of (o := 0) hbx rfl
              have c1 := cell_of (o := 1) hbx rfl
              have f0 := frz hbx 0
              have f1 := frz hbx 1
              have HS4 := Lib.hid (HS3.out.next ho hat hgr)
              have HNE := Lib.hid (show O.ownBlock ≠ some g by
                rcases hat with h | h
                · exact hne.out g h
                · intro h2; have := (ownsRow_lt HO3.out h2).2; omega)
              have HO4 := Lib.hid (own_off2 (own_kept HO3.out hgr (fun q hq => fun h2 => hne.out q h2.symm hq)) (b := v1.heap.size) (i := 0) (j := 1) (fun q hq => by have := (ownsRow_lt HO3.out hq).1; omega) (.int .i64 N) (.slice (some ⟨g, 0, none⟩) ((arcsN (arF z.s) z.s.feeds.length ++ arcsN (arB z.s) z.s.brks.length) ++ arcsN (arR z.s z.ss z.d) (k + 1)).length cap))
              clear hbx ho hat hgr
              obtain ⟨ll, hll⟩ : ∃ n, ((arcsN (arF z.s) z.s.feeds.length ++ arcsN (arB z.s) z.s.brks.length) ++ arcsN (arR z.s z.ss z.d) (k + 1)).length = n := ⟨_, rfl⟩
              rw [hll] at HS4 HO4
              rw [hll]
              clear hll
              obtain ⟨oa, on, hsh⟩ := own_shape HO4.out
              subst hsh
              obtain ⟨X4, hX4⟩ : ∃ X, X = (v4.setCell ⟨v1.heap.size, 0, none⟩ (.int .i64 N)).setCell ⟨v1.heap.size, 1, none⟩ (.slice (some ⟨g, 0, none⟩) ll cap) := ⟨_, rfl⟩
              obtain ⟨X5, hX5⟩ : ∃ X, X = X4.alloc (.cells #[.int .i64 (2 + (z.s.feeds.length : Int) + (z.s.brks.length : Int) + (k : Int)), .int .i64 1, .int .i64 ld] 57) := ⟨_, rfl⟩
              have bX5 : Below X4.heap.size X4 X5 := by rw [hX5]; exact (Below.refl _ _).alloc (Nat.le_refl _) _
              rw [← hX4] at HS4 HO4
              have HS5 := Lib.hid (HS4.out.on bX5)
              have HO5 := Lib.hid (own_on HO4.out bX5 (Nat.le_refl _))
              have PT := pt_one X4 (2 + (z.s.feeds.length : Int) + (z.s.brks.length : Int) + (k : Int)) 1 ld
              rw [← hX5] at PT
              have HN5 := Lib.hid (pt_news PT)
              have HSZ := Lib.hid (show X4.heap.size = v4.heap.size by rw [hX4]; simp [World.setCell])
              have HX5 := Lib.hid (show X5.heap.size = X4.heap.size + 1 by rw [hX5, World.size_alloc])
              clear bX5 PT
              have HVB4 := Lib.hid (fun q (hq : (Value.slice oa k on).ownBlock = some q) => ownsRow_lt HO5.out hq)
              go_wp2_with (at_builtin; rw [← hX4, ← hX5]; refine wpList_append_lies _ rfl _ _ 30 rfl (v1.heap.size + 1) 57 i0 (.agg #[.int .i64 0, .int .i64 0, .int .i64 0]) 3 24 Try.underlying30 hi0 hz0 hz1 hz2 rfl (by decide) (.slice oa k on) k _ rfl HO5.out ⟨v4.heap.size, 0, none⟩ 1 1 (v5.cellsA [(2 + (z.s.feeds.length : Int) + (z.s.brks.length : Int) + (k : Int), 1, ld)]) rfl rfl (by have h := HN5.out; rw [HSZ.out] at h; exact h) v5.cellsA_one (by decide) (by unfold maxLen; omega) (by omega) (by have := HS5.out.lt; omega) (v4.heap.size + 1) (by rw [HX5.out, HSZ.out]) ?_; intro g5 cap5 Z hown hgrow hat5 hlt5; have HS6 := Lib.hid (HS5.out.grown hgrow (fun q hq => (HVB4.out q hq).1) (fun q hq h2 => HNE.out (by simp only [Value.ownBlock] at hq h2 ⊢; rw [hq]; exact h2.symm ▸ rfl))); have HO6 := Lib.hid hown; have HAT5 := Lib.hid hat5; clear hown hgrow hat5)
              have HO7 := Lib.hid (show Z.ownsRow (v1.heap.size + 1) 57 3 (.slice (some ⟨g5, 0, none⟩) (k + 1) cap5) (k + 1) (v5.cellsA (arcsN (arO z.s z.ss z.d) (k + 1))) by
                rw [arcsN_succ, cellsA_append, HARO.out]; exact HO6.out)
              have HNE7 := Lib.hid (show ∀ q, (Value.slice (some ⟨g, 0, none⟩) ll cap).ownBlock = some q → (Value.slice (some ⟨g5, 0, none⟩) (k + 1) cap5).ownBlock ≠ some q from fun q hq h2 => by
                simp only [Value.ownBlock, Option.some.injEq] at hq h2
                subst hq
                rcases HAT5.out with h | h
                · exact HNE.out (by rw [← h2]; exact h)
                · have := (HS4.out.own (g := g) rfl).2
                  have := HSZ.out
                  omega)
              exact ⟨⟨k + 1, _, _, by omega, rfl, by go_num, HS6, HO7, HNE7⟩, by simp only [intOf]; omega⟩
            · obtain rfl : k = z.s.racks.length := by omega
              obtain ⟨g0, cap0, hO0, -, -⟩ := hO.out.form (by omega)
              subst hO0
              have c0 := cell_of (o := 0) hS.out.box rfl
              have c1 := cell_of (o := 1) hS.out.box rfl
              have PT := v5.own_ptSl (l := arcsN (arO z.s z.ss z.d) z.s.racks.length) (by rw [arcsN_len]; exact hO.out)
              have HCW := Lib.hid (c_with (v1.heap.size + 1) N U ((arcsN (arF z.s) z.s.feeds.length ++ arcsN (arB z.s) z.s.brks.length) ++ arcsN (arR z.s z.ss z.d) z.s.racks.length) ⟨g0, 0, none⟩ cap0 (arcsN (arO z.s z.ss z.d) z.s.racks.length) (by rw [arcsN_len]; omega) (by simp [arcsN_len]; omega) wr hS.out.row (by have := hS.out.lt; omega) (by rw [arcsN_len]; exact PT))
              rw [arcsN_len (arO z.s z.ss z.d) z.s.racks.length] at HCW
              obtain ⟨LL, hLL⟩ : ∃ l, (arcsN (arF z.s) z.s.feeds.length ++ arcsN (arB z.s) z.s.brks.length) ++ arcsN (arR z.s z.ss z.d) z.s.racks.length ++ arcsN (arO z.s z.ss z.d) z.s.racks.length = l := ⟨_, rfl⟩
              have HLE := Lib.hid (show netLV z true = LL from hLL)
              rw [hLL] at HCW
              clear PT hLL
              go_wp2_with (fail)
              clear c0 c1
              go_at_call 15
              refine HCW.out.mono ?_
              rintro e v9 ⟨g, cap, rfl, ho, hat, hgr⟩
              have b9 : Below v1.heap.size v1 v9 := hS.out.bel.grown hgr hS.out.bel.size (fun q e => by have := (hS.out.own e).1; omega)
              have K9 := below_join HKv1.out b9 hle1
              have q9 := HM0.out v9 K9
              have c0 := cell_of (o := 0) q9 rfl
              have c1 := cell_of (o := 1) q9 rfl
              have f0 := frz q9 0
              have f1 := frz q9 1
              have HQ9 := Lib.hid q9
              have HK9 := Lib.hid K9
              have HO9 := Lib.hid ho
              have hB3 : B + 1 + 1 + 1 < W.heap.size := at_lt (HM0.out W HKW.out)
              have HG9 := Lib.hid (show g ≠ B + 1 + 1 + 1 by
                rcases hat with h | h
                · have := (hS.out.own h).1; omega
                · have := hS.out.lt; omega)
              clear b9 K9 q9 ho hat hgr
              go_wp2_with (fail)
              refine retNet rfl rfl rfl (x0 := .int .i64 N) (x1 := .slice (some ⟨g, 0, none⟩) LL.length cap) (row_store2n HQ9.out _ _) ⟨_, by rw [show netNV z true = N by rw [← HN.out]; show ((2 + nF z.s + nB z.s + nR z.s : Nat) : Int) = _; unfold nF nB nR; omega], ?_, ?_⟩
              · rw [HLE.out]; exact (show ArcO _ _ _ _ _ from own_else (own_else HO9.out HG9.out) HG9.out).pt
              · rw [hBB]; exact ((below_join HB.out HK9.out hle).setCell (p := ⟨B + 1 + 1 + 1, 0, none⟩) (by show B ≤ B + 1 + 1 + 1; omega) _).setCell (p := ⟨B + 1 + 1 + 1, 1, none⟩) (by show B ≤ B + 1 + 1 + 1; omega) _
end Go.Proofs.Ytidpiokkfnhobaa

namespace Go.Proofs.Ytidpiokkfnhobaa
open Go.RowKit
set_option maxRecDepth 100000
set_option linter.unusedVariables false
set_option linter.unusedSimpArgs false

section
variable {w0 X Y : World} {N : Int} {l : List (Int × Int × Int)} {V : Value}
theorem NetSt.drew (h : NetSt w0 N l X V) : NetSt w0 N l X.drew V := h.on (Below.refl _ _).drew
end
end Go.Proofs.Ytidpiokkfnhobaa

namespace Go.Proofs.Ytidpiokkfnhobaa
open Go.RowKit
set_option maxRecDepth 100000
set_option linter.unusedVariables false
set_option linter.unusedSimpArgs false

/-- What the net carries. -/
def carV (z : Sn) (r0 : Bool) : Int := if r0 = true then carryV z.s z.ss z.d else 0
theorem max_ok {z : Sn} (ok : z.Ok) {lf : List v5.Ar} {val : Int} (h : v5.Best (netN z.s) 0 1 (netL z.s z.ss z.d) lf val) : val = carryV z.s z.ss z.d := carry_best ok h
set_option maxHeartbeats 4000000 in
theorem MaxTo (z : Sn) (r0 : Bool) (hr0 : r0 = true ↔ z.Ok) (v : Value) (w : World) (hv : v5.PtSl w v (netLV z r0)) :
    Calls Try.prog 21 #[.agg #[.int .i64 (netNV z r0), v], .int .i64 0, .int .i64 1] w fun e w' => ∃ u n, e = .returned (.tuple #[.int .i64 (carV z r0), u, .int .i64 n]) ∧ Below w.heap.size w w' := by
  cases r0
  · refine (v5.c_MaxE 0 v [] 0 1 w hv 1 (by decide) (by decide)).mono ?_
    rintro e w' ⟨rfl, b⟩
    exact ⟨_, _, rfl, b⟩
  · have ok := hr0.1 rfl
    have hN : 2 ≤ netN z.s := by unfold netN; omega
    refine (v5.c_Max0 (netN z.s) 0 1 v (netL z.s z.ss z.d) (by omega) (by omega) (by decide) w hv (net_ok ok)).mono ?_
    rintro e w' ⟨lf, val, u, rfl, hb, -, b⟩
    have := max_ok ok hb
    subst this
    exact ⟨_, _, rfl, b⟩
set_option maxHeartbeats 8000000 in
theorem c_pwCarried (z : Sn) (r0 : Bool) (hr0 : r0 = true ↔ z.Ok) (w : World) (hz : SnAt w z) (v : Int) (hv : carV z r0 = v) :
    Calls Try.prog 11 #[.agg #[.slice z.p.a1 z.s.feeds.length z.p.c1, .slice z.p.a2 z.s.brks.length z.p.c2, .slice z.p.a3 z.s.loops.length z.p.c3, .slice z.p.a4 z.s.racks.length z.p.c4, .int .i64 z.s.sw, .slice z.p.a5 z.s.links.length z.p.c5, .slice z.p.a6 z.s.hosts.length z.p.c6], .agg #[.slice z.A z.xs.length z.c], .agg #[.slice z.q.a1 z.d.hosts.length z.q.c1, .slice z.q.a2 z.d.reps.length z.q.c2]] w fun e w' => e = .returned (.int .i64 v) ∧ Below w.heap.size w w' := by
  obtain ⟨W1, h1⟩ : ∃ W, W = w.alloc (.cells #[.slice z.p.a1 z.s.feeds.length z.p.c1, .slice z.p.a2 z.s.brks.length z.p.c2, .slice z.p.a3 z.s.loops.length z.p.c3, .slice z.p.a4 z.s.racks.length z.p.c4, .int .i64 z.s.sw, .slice z.p.a5 z.s.links.length z.p.c5, .slice z.p.a6 z.s.hosts.length z.p.c6] 41) := ⟨_, rfl⟩
  obtain ⟨W2, h2⟩ : ∃ W, W = W1.alloc (.cells #[.slice z.A z.xs.length z.c] 45) := ⟨_, rfl⟩
  obtain ⟨W, h3⟩ : ∃ W, W = W2.alloc (.cells #[.slice z.q.a1 z.d.hosts.length z.q.c1, .slice z.q.a2 z.d.reps.length z.q.c2] 25) := ⟨_, rfl⟩
  obtain ⟨B0, X1⟩ := sn_boxes h1 h2 h3
  have z3 : W.heap.size = w.heap.size + 1 + 1 + 1 := sn_size h1 h2 h3
  have HB := Lib.hid B0
  have Z0 := hz.on B0 (Nat.le_refl _)
  have HZ := Lib.hid (fun (X : World) (hX : Below W.heap.size W X) => Z0.on hX (Nat.le_refl _))
  have HF := Lib.hid (fun (X : World) (hX : Below W.heap.size W X) => ((X1.on hX (Nat.le_refl _)).cells : X.cell? ⟨w.heap.size, 0, none⟩ = some (.slice z.p.a1 z.s.feeds.length z.p.c1) ∧ X.cell? ⟨w.heap.size, 1, none⟩ = some (.slice z.p.a2 z.s.brks.length z.p.c2) ∧ X.cell? ⟨w.heap.size, 2, none⟩ = some (.slice z.p.a3 z.s.loops.length z.p.c3) ∧ X.cell? ⟨w.heap.size, 3, none⟩ = some (.slice z.p.a4 z.s.racks.length z.p.c4) ∧ X.cell? ⟨w.heap.size, 4, none⟩ = some (.int .i64 z.s.sw) ∧ X.cell? ⟨w.heap.size, 5, none⟩ = some (.slice z.p.a5 z.s.links.length z.p.c5) ∧ X.cell? ⟨w.heap.size, 6, none⟩ = some (.slice z.p.a6 z.s.hosts.length z.p.c6) ∧ X.cell? ⟨w.heap.size + 1, 0, none⟩ = some (.slice z.A z.xs.length z.c) ∧ X.cell? ⟨w.heap.size + 1 + 1, 0, none⟩ = some (.slice z.q.a1 z.d.hosts.length z.q.c1) ∧ X.cell? ⟨w.heap.size + 1 + 1, 1, none⟩ = some (.slice z.q.a2 z.d.reps.length z.q.c2)))
  have HX := Lib.hid (fun (X : World) (hX : Below W.heap.size W X) => X1.on hX (Nat.le_refl _))
  have HKW := Lib.hid (Below.refl W.heap.size W)
  have hle := HB.out.size
  obtain ⟨n1, n2, n3, n4, n5, n6, n7, n8⟩ := hz.bounds
  have HN := Lib.hid (c_pwNet z r0 hr0 W (hz.on B0 (Nat.le_refl _)))
  have HM := Lib.hid (fun (u : Value) (X : World) (hu : v5.PtSl X u (netLV z r0)) => MaxTo z r0 hr0 u X hu)
  rw [hv] at HM
  obtain ⟨nn, hnn⟩ : ∃ n, netNV z r0 = n := ⟨_, rfl⟩
  have HNN := Lib.hid hnn
  rw [hnn] at HM
  clear hr0 hv hnn
  clear hz B0 X1 z3 Z0
  obtain ⟨f0, f1, f2, f3, f4, f5, f6, g0, g1, g2⟩ := HF.out W HKW.out
  rw [h3, h2, h1] at f0 f1 f2 f3 f4 f5 f6 g0 g1 g2
  generalize hBB : w.heap.size = B at *
  go_enter Try.func11, Try.ntmps11
  go_wp2_with (fail)
  rw [← h1, ← h2, ← h3]
  clear h1 h2 h3 f0 f1 f2 f3 f4 f5 f6 g0 g1 g2
  go_at_call 5
  refine HN.out.mono ?_
  rintro e v1 ⟨u, rfl, pt, bb⟩
  have HKv1 := Lib.hid (below_join HKW.out bb HKW.out.size)
  have HM1 := Lib.hid (HM.out u v1 pt)
  rw [HNN.out]
  clear bb pt
  go_wp2_with (fail)
  go_at_call 21
  refine HM1.out.mono ?_
  rintro e v2 ⟨u2, n2, rfl, bb⟩
  have HKv2 := Lib.hid (below_join HKv1.out bb HKv1.out.size)
  clear bb
  go_wp2_with (fail)
  go_ret
  exact ⟨rfl, below_join HB.out HKv2.out hle⟩
end Go.Proofs.Ytidpiokkfnhobaa

namespace Go.Proofs.Ytidpiokkfnhobaa
open Go.RowKit
set_option maxRecDepth 100000
set_option linter.unusedVariables false
set_option linter.unusedSimpArgs false

/-- The law's example. -/
def exD : SiteD := ⟨[300], [⟨0, 200, 0, 0⟩, ⟨0, 200, 0, 0⟩], [⟨0, 0⟩], [⟨0, 0, 0, 0⟩, ⟨0, 1, 0, 0⟩], 1, [], [⟨0, 4, 100, 50⟩, ⟨1, 4, 100, 50⟩]⟩
def exP (b : Nat) : SP := ⟨some ⟨b + 1 + 1 + 1, 0, none⟩, 1, some ⟨b + 1 + 1 + 1 + 1, 0, none⟩, 2, some ⟨b + 1 + 1 + 1 + 1 + 1, 0, none⟩, 1, some ⟨b + 1 + 1 + 1 + 1 + 1 + 1, 0, none⟩, 2, none, 0, some ⟨b + 1 + 1 + 1 + 1 + 1 + 1 + 1, 0, none⟩, 2⟩
def wxs : List (Svc × SvA) := [(⟨2, 2, 0, 0, 0, [], [], 0⟩, ⟨none, 0, none, 0⟩)]
def exW : WorldD := ⟨[⟨0, 0⟩, ⟨0, 0⟩], [⟨0, 0⟩, ⟨0, 1⟩]⟩
theorem rw_block14 {α : Type} {k : Nat} {F : α → Nat → Int} {l : List α} {w : World} {b : Nat} {T : TypeId} (h : w.heap[b]? = some (.cells (cellsV k (fun x i => .int .i64 (F x i)) l).toArray T (0, 0))) (hl : l.length ≤ maxLen) : Rw k F w (some ⟨b, 0, none⟩) l.length l := rv_int (rv_block h hl)
theorem ret7 {fn : Func} {a : Act} {W : World} {R : Ending → World → Prop} {b i : Nat} {x0 x1 x2 x3 x4 x5 x6 : Value} (hfn : fn.results = #[.cell i 41]) (hp : a.tmps[i]?.getD undef = .pointer (some ⟨b, 0, none⟩)) (hd : a.defers = [])
    (h : W.heap[b]? = some (.cells #[x0, x1, x2, x3, x4, x5, x6] 41 (0, 0))) (hR : R (.returned (.agg #[x0, x1, x2, x3, x4, x5, x6])) W) : bodyPost Try.prog fn R .ret a W := by
  have c0 : W.cell? ⟨b, 0, none⟩ = some x0 := cell_of h rfl; have c1 : W.cell? ⟨b, 1, none⟩ = some x1 := cell_of h rfl; have c2 : W.cell? ⟨b, 2, none⟩ = some x2 := cell_of h rfl; have c3 : W.cell? ⟨b, 3, none⟩ = some x3 := cell_of h rfl; have c4 : W.cell? ⟨b, 4, none⟩ = some x4 := cell_of h rfl; have c5 : W.cell? ⟨b, 5, none⟩ = some x5 := cell_of h rfl; have c6 : W.cell? ⟨b, 6, none⟩ = some x6 := cell_of h rfl
  exact bodyPost_ret (v := .agg #[x0, x1, x2, x3, x4, x5, x6]) (by simp [results, hfn, hp, go_sem, c0, c1, c2, c3, c4, c5, c6]) hd hR
theorem ret1w {fn : Func} {a : Act} {W : World} {R : Ending → World → Prop} {b i : Nat} {x0 : Value} (hfn : fn.results = #[.cell i 45]) (hp : a.tmps[i]?.getD undef = .pointer (some ⟨b, 0, none⟩)) (hd : a.defers = [])
    (h : W.heap[b]? = some (.cells #[x0] 45 (0, 0))) (hR : R (.returned (.agg #[x0])) W) : bodyPost Try.prog fn R .ret a W := by
  have c0 : W.cell? ⟨b, 0, none⟩ = some x0 := cell_of h rfl
  exact bodyPost_ret (v := .agg #[x0]) (by simp [results, hfn, hp, go_sem, c0]) hd hR
theorem ret2w {fn : Func} {a : Act} {W : World} {R : Ending → World → Prop} {b i : Nat} {x0 x1 : Value} (hfn : fn.results = #[.cell i 25]) (hp : a.tmps[i]?.getD undef = .pointer (some ⟨b, 0, none⟩)) (hd : a.defers = [])
    (h : W.heap[b]? = some (.cells #[x0, x1] 25 (0, 0))) (hR : R (.returned (.agg #[x0, x1])) W) : bodyPost Try.prog fn R .ret a W := by
  have c0 : W.cell? ⟨b, 0, none⟩ = some x0 := cell_of h rfl
  have c1 : W.cell? ⟨b, 1, none⟩ = some x1 := cell_of h rfl
  exact bodyPost_ret (v := .agg #[x0, x1]) (by simp [results, hfn, hp, go_sem, c0, c1]) hd hR
set_option maxHeartbeats 16000000 in
theorem c_site (w : World) : Calls Try.prog 6 #[] w fun e w' => e = .returned (siV (exP w.heap.size) exD) ∧ SiAt w' (exP w.heap.size) exD ∧ Below w.heap.size w w' := by
  obtain ⟨E0, h0⟩ : ∃ X, X = w.alloc (.cells #[.slice (some ⟨w.heap.size + 1 + 1 + 1, 0, none⟩) 1 1, .slice (some ⟨w.heap.size + 1 + 1 + 1 + 1, 0, none⟩) 2 2, .slice (some ⟨w.heap.size + 1 + 1 + 1 + 1 + 1, 0, none⟩) 1 1, .slice (some ⟨w.heap.size + 1 + 1 + 1 + 1 + 1 + 1, 0, none⟩) 2 2, .int .i64 1, .slice none 0 0, .slice (some ⟨w.heap.size + 1 + 1 + 1 + 1 + 1 + 1 + 1, 0, none⟩) 2 2] 41) := ⟨_, rfl⟩
  obtain ⟨E1, h1⟩ : ∃ X, X = E0.alloc (.cells #[.int .i64 0, .int .i64 4, .int .i64 100, .int .i64 50] 63) := ⟨_, rfl⟩
  obtain ⟨E2, h2⟩ : ∃ X, X = E1.alloc (.cells #[.int .i64 1, .int .i64 4, .int .i64 100, .int .i64 50] 63) := ⟨_, rfl⟩
  obtain ⟨E3, h3⟩ : ∃ X, X = E2.alloc (.cells #[.int .i64 300] 54) := ⟨_, rfl⟩
  obtain ⟨E4, h4⟩ : ∃ X, X = E3.alloc (.cells #[.int .i64 0, .int .i64 200, .int .i64 0, .int .i64 0, .int .i64 0, .int .i64 200, .int .i64 0, .int .i64 0] 59) := ⟨_, rfl⟩
  obtain ⟨E5, h5⟩ : ∃ X, X = E4.alloc (.cells #[.int .i64 0, .int .i64 0] 65) := ⟨_, rfl⟩
  obtain ⟨E6, h6⟩ : ∃ X, X = E5.alloc (.cells #[.int .i64 0, .int .i64 0, .int .i64 0, .int .i64 0, .int .i64 0, .int .i64 1, .int .i64 0, .int .i64 0] 61) := ⟨_, rfl⟩
  obtain ⟨E7, h7⟩ : ∃ X, X = E6.alloc (.cells #[.int .i64 0, .int .i64 4, .int .i64 100, .int .i64 50, .int .i64 1, .int .i64 4, .int .i64 100, .int .i64 50] 63) := ⟨_, rfl⟩
  have z0 : E0.heap.size = w.heap.size + 1 := by rw [h0, World.size_alloc]
  have z1 : E1.heap.size = w.heap.size + 1 + 1 := by rw [h1, World.size_alloc, z0]
  have z2 : E2.heap.size = w.heap.size + 1 + 1 + 1 := by rw [h2, World.size_alloc, z1]
  have z3 : E3.heap.size = w.heap.size + 1 + 1 + 1 + 1 := by rw [h3, World.size_alloc, z2]
  have z4 : E4.heap.size = w.heap.size + 1 + 1 + 1 + 1 + 1 := by rw [h4, World.size_alloc, z3]
  have z5 : E5.heap.size = w.heap.size + 1 + 1 + 1 + 1 + 1 + 1 := by rw [h5, World.size_alloc, z4]
  have z6 : E6.heap.size = w.heap.size + 1 + 1 + 1 + 1 + 1 + 1 + 1 := by rw [h6, World.size_alloc, z5]
  have z7 : E7.heap.size = w.heap.size + 1 + 1 + 1 + 1 + 1 + 1 + 1 + 1 := by rw [h7, World.size_alloc, z6]
  have g0 : E0.heap[w.heap.size]? = some (.cells #[.slice (some ⟨w.heap.size + 1 + 1 + 1, 0, none⟩) 1 1, .slice (some ⟨w.heap.size + 1 + 1 + 1 + 1, 0, none⟩) 2 2, .slice (some ⟨w.heap.size + 1 + 1 + 1 + 1 + 1, 0, none⟩) 1 1, .slice (some ⟨w.heap.size + 1 + 1 + 1 + 1 + 1 + 1, 0, none⟩) 2 2, .int .i64 1, .slice none 0 0, .slice (some ⟨w.heap.size + 1 + 1 + 1 + 1 + 1 + 1 + 1, 0, none⟩) 2 2] 41 (0, 0)) := by rw [h0]; exact heap_alloc_new _ _
  have G0 : E7.heap[w.heap.size]? = some (.cells #[.slice (some ⟨w.heap.size + 1 + 1 + 1, 0, none⟩) 1 1, .slice (some ⟨w.heap.size + 1 + 1 + 1 + 1, 0, none⟩) 2 2, .slice (some ⟨w.heap.size + 1 + 1 + 1 + 1 + 1, 0, none⟩) 1 1, .slice (some ⟨w.heap.size + 1 + 1 + 1 + 1 + 1 + 1, 0, none⟩) 2 2, .int .i64 1, .slice none 0 0, .slice (some ⟨w.heap.size + 1 + 1 + 1 + 1 + 1 + 1 + 1, 0, none⟩) 2 2] 41 (0, 0)) := by rw [h7]; refine old_heap _ ?_; rw [h6]; refine old_heap _ ?_; rw [h5]; refine old_heap _ ?_; rw [h4]; refine old_heap _ ?_; rw [h3]; refine old_heap _ ?_; rw [h2]; refine old_heap _ ?_; rw [h1]; refine old_heap _ ?_; exact g0
  have g1 : E1.heap[w.heap.size + 1]? = some (.cells #[.int .i64 0, .int .i64 4, .int .i64 100, .int .i64 50] 63 (0, 0)) := by rw [← z0]; rw [h1]; exact heap_alloc_new _ _
  have G1 : E7.heap[w.heap.size + 1]? = some (.cells #[.int .i64 0, .int .i64 4, .int .i64 100, .int .i64 50] 63 (0, 0)) := by rw [h7]; refine old_heap _ ?_; rw [h6]; refine old_heap _ ?_; rw [h5]; refine old_heap _ ?_; rw [h4]; refine old_heap _ ?_; rw [h3]; refine old_heap _ ?_; rw [h2]; refine old_heap _ ?_; exact g1
  have g2 : E2.heap[w.heap.size + 1 + 1]? = some (.cells #[.int .i64 1, .int .i64 4, .int .i64 100, .int .i64 50] 63 (0, 0)) := by rw [← z1]; rw [h2]; exact heap_alloc_new _ _
  have G2 : E7.heap[w.heap.size + 1 + 1]? = some (.cells #[.int .i64 1, .int .i64 4, .int .i64 100, .int .i64 50] 63 (0, 0)) := by rw [h7]; refine old_heap _ ?_; rw [h6]; refine old_heap _ ?_; rw [h5]; refine old_heap _ ?_; rw [h4]; refine old_heap _ ?_; rw [h3]; refine old_heap _ ?_; exact g2
  have g3 : E3.heap[w.heap.size + 1 + 1 + 1]? = some (.cells #[.int .i64 300] 54 (0, 0)) := by rw [← z2]; rw [h3]; exact heap_alloc_new _ _
  have G3 : E7.heap[w.heap.size + 1 + 1 + 1]? = some (.cells #[.int .i64 300] 54 (0, 0)) := by rw [h7]; refine old_heap _ ?_; rw [h6]; refine old_heap _ ?_; rw [h5]; refine old_heap _ ?_; rw [h4]; refine old_heap _ ?_; exact g3
  have g4 : E4.heap[w.heap.size + 1 + 1 + 1 + 1]? = some (.cells #[.int .i64 0, .int .i64 200, .int .i64 0, .int .i64 0, .int .i64 0, .int .i64 200, .int .i64 0, .int .i64 0] 59 (0, 0)) := by rw [← z3]; rw [h4]; exact heap_alloc_new _ _
  have G4 : E7.heap[w.heap.size + 1 + 1 + 1 + 1]? = some (.cells #[.int .i64 0, .int .i64 200, .int .i64 0, .int .i64 0, .int .i64 0, .int .i64 200, .int .i64 0, .int .i64 0] 59 (0, 0)) := by rw [h7]; refine old_heap _ ?_; rw [h6]; refine old_heap _ ?_; rw [h5]; refine old_heap _ ?_; exact g4
  have g5 : E5.heap[w.heap.size + 1 + 1 + 1 + 1 + 1]? = some (.cells #[.int .i64 0, .int .i64 0] 65 (0, 0)) := by rw [← z4]; rw [h5]; exact heap_alloc_new _ _
  have G5 : E7.heap[w.heap.size + 1 + 1 + 1 + 1 + 1]? = some (.cells #[.int .i64 0, .int .i64 0] 65 (0, 0)) := by rw [h7]; refine old_heap _ ?_; rw [h6]; refine old_heap _ ?_; exact g5
  have g6 : E6.heap[w.heap.size + 1 + 1 + 1 + 1 + 1 + 1]? = some (.cells #[.int .i64 0, .int .i64 0, .int .i64 0, .int .i64 0, .int .i64 0, .int .i64 1, .int .i64 0, .int .i64 0] 61 (0, 0)) := by rw [← z5]; rw [h6]; exact heap_alloc_new _ _
  have G6 : E7.heap[w.heap.size + 1 + 1 + 1 + 1 + 1 + 1]? = some (.cells #[.int .i64 0, .int .i64 0, .int .i64 0, .int .i64 0, .int .i64 0, .int .i64 1, .int .i64 0, .int .i64 0] 61 (0, 0)) := by rw [h7]; refine old_heap _ ?_; exact g6
  have g7 : E7.heap[w.heap.size + 1 + 1 + 1 + 1 + 1 + 1 + 1]? = some (.cells #[.int .i64 0, .int .i64 4, .int .i64 100, .int .i64 50, .int .i64 1, .int .i64 4, .int .i64 100, .int .i64 50] 63 (0, 0)) := by rw [← z6]; rw [h7]; exact heap_alloc_new _ _
  have G7 : E7.heap[w.heap.size + 1 + 1 + 1 + 1 + 1 + 1 + 1]? = some (.cells #[.int .i64 0, .int .i64 4, .int .i64 100, .int .i64 50, .int .i64 1, .int .i64 4, .int .i64 100, .int .i64 50] 63 (0, 0)) := by exact g7
  have BN : Below w.heap.size w E7 := by rw [h7]; refine Below.alloc ?_ (by omega) _; rw [h6]; refine Below.alloc ?_ (by omega) _; rw [h5]; refine Below.alloc ?_ (by omega) _; rw [h4]; refine Below.alloc ?_ (by omega) _; rw [h3]; refine Below.alloc ?_ (by omega) _; rw [h2]; refine Below.alloc ?_ (by omega) _; rw [h1]; refine Below.alloc ?_ (by omega) _; rw [h0]; exact (Below.refl _ _).alloc (Nat.le_refl _) _
  have HG := Lib.hid (And.intro G0 (And.intro G1 (And.intro G2 (And.intro G3 (And.intro G4 (And.intro G5 (And.intro G6 (G7))))))))
  have HB := Lib.hid BN
  have HE := Lib.hid h7
  clear BN g0 G0 z0 g1 G1 z1 g2 G2 z2 g3 G3 z3 g4 G4 z4 g5 G5 z5 g6 G6 z6 g7 G7 z7 h7
  subst h6 h5 h4 h3 h2 h1 h0
  go_enter Try.func6, Try.ntmps6
  go_wp2_with (fail)
  rw [← HE.out]
  obtain ⟨G0, G1, G2, G3, G4, G5, G6, G7⟩ := HG.out
  exact ret7 (i := 0) (b := w.heap.size) rfl rfl rfl G0 ⟨rfl, ⟨rw_block14 (α := Int) (k := 1) (F := inF) (l := [300]) G3 (by simp [maxLen]), rw_block14 (α := Brk) (k := 4) (F := brkF) (l := [⟨0, 200, 0, 0⟩, ⟨0, 200, 0, 0⟩]) G4 (by simp [maxLen]), rw_block14 (α := Lp) (k := 2) (F := lpF) (l := [⟨0, 0⟩]) G5 (by simp [maxLen]), rw_block14 (α := Rk) (k := 4) (F := rkF) (l := [⟨0, 0, 0, 0⟩, ⟨0, 1, 0, 0⟩]) G6 (by simp [maxLen]), Rw.nil _ _, rw_block14 (α := Hs) (k := 4) (F := hsF) (l := [⟨0, 4, 100, 50⟩, ⟨1, 4, 100, 50⟩]) G7 (by simp [maxLen])⟩, HB.out⟩
theorem wxs_at {X : World} {b : Nat} (h : X.heap[b]? = some (.cells (cellsV 8 svV wxs).toArray 70 (0, 0))) : WiAt X (some ⟨b, 0, none⟩) 1 wxs := by
  refine ⟨rv_block (l := wxs) h (by simp [wxs, maxLen]), fun x hx => ?_⟩
  rcases List.mem_cons.1 hx with rfl | hx
  · exact ⟨Rv.nil _, Rv.nil _, by decide⟩
  · cases hx
set_option maxHeartbeats 8000000 in
theorem c_wish (w : World) : Calls Try.prog 7 #[] w fun e w' => e = .returned (.agg #[.slice (some ⟨w.heap.size + 1, 0, none⟩) 1 1]) ∧ WiAt w' (some ⟨w.heap.size + 1, 0, none⟩) 1 wxs ∧ Below w.heap.size w w' := by
  obtain ⟨E0, h0⟩ : ∃ X, X = w.alloc (.cells #[.slice (some ⟨w.heap.size + 1, 0, none⟩) 1 1] 45) := ⟨_, rfl⟩
  obtain ⟨E1, h1⟩ : ∃ X, X = E0.alloc (.cells #[.int .i64 2, .int .i64 2, .int .i64 0, .int .u8 0, .int .i64 0, .slice none 0 0, .slice none 0 0, .int .i64 0] 70) := ⟨_, rfl⟩
  have z0 : E0.heap.size = w.heap.size + 1 := by rw [h0, World.size_alloc]
  have z1 : E1.heap.size = w.heap.size + 1 + 1 := by rw [h1, World.size_alloc, z0]
  have g0 : E0.heap[w.heap.size]? = some (.cells #[.slice (some ⟨w.heap.size + 1, 0, none⟩) 1 1] 45 (0, 0)) := by rw [h0]; exact heap_alloc_new _ _
  have G0 : E1.heap[w.heap.size]? = some (.cells #[.slice (some ⟨w.heap.size + 1, 0, none⟩) 1 1] 45 (0, 0)) := by rw [h1]; refine old_heap _ ?_; exact g0
  have g1 : E1.heap[w.heap.size + 1]? = some (.cells #[.int .i64 2, .int .i64 2, .int .i64 0, .int .u8 0, .int .i64 0, .slice none 0 0, .slice none 0 0, .int .i64 0] 70 (0, 0)) := by rw [← z0]; rw [h1]; exact heap_alloc_new _ _
  have G1 : E1.heap[w.heap.size + 1]? = some (.cells #[.int .i64 2, .int .i64 2, .int .i64 0, .int .u8 0, .int .i64 0, .slice none 0 0, .slice none 0 0, .int .i64 0] 70 (0, 0)) := by exact g1
  have BN : Below w.heap.size w E1 := by rw [h1]; refine Below.alloc ?_ (by omega) _; rw [h0]; exact (Below.refl _ _).alloc (Nat.le_refl _) _
  have HG := Lib.hid (And.intro G0 (G1))
  have HB := Lib.hid BN
  have HE := Lib.hid h1
  clear BN g0 G0 z0 g1 G1 z1 h1
  subst h0
  go_enter Try.func7, Try.ntmps7
  go_wp2_with (fail)
  rw [← HE.out]
  obtain ⟨G0, G1⟩ := HG.out
  exact ret1w (i := 0) (b := w.heap.size) rfl rfl rfl G0 ⟨rfl, wxs_at G1, HB.out⟩
theorem made2 : (madeCells (.agg #[.int .u8 0, .int .i64 0] : Value).cells (2 * 2)).toList = cellsV 2 hstV exW.hosts := by kernel_rfl
theorem own_cur2 {w : World} {base n g : Nat} {T : TypeId} {xs : List Value} (h : w.ownsRow base T 2 (.slice (some ⟨g, 0, none⟩) n n) n xs) : w.heap[g]? = some (.cells xs.toArray T (0, 0)) := by
  obtain ⟨k1, ⟨e, -⟩ | ⟨g', cap', cur, e, k3, k4, k5, k6, k7, k8⟩⟩ := h
  · cases e
  · injection e with e1 _ e2
    injection e1 with e1
    injection e1 with e1
    subst e1 e2
    rw [k4]
    have : cur = xs.toArray := by
      apply Array.ext'
      rw [← k8, List.take_of_length_le (by simp; omega)]
    rw [this]
set_option maxHeartbeats 8000000 in
theorem c_example (w : World) : Calls Try.prog 4 #[] w fun e w' => ∃ p, e = .returned (.agg (woA p exW)) ∧ OwnW w.heap.size w' p exW ∧ Below w.heap.size w w' := by
  obtain ⟨i0, hi0, hz0, hz1, hz2⟩ := info_parts hst_info
  obtain ⟨E0, h0⟩ : ∃ X, X = w.alloc (.cells #[.slice none 0 0, .slice none 0 0] 25) := ⟨_, rfl⟩
  have B0 : Below w.heap.size w E0 := by rw [h0]; exact (Below.refl _ _).alloc (Nat.le_refl _) _
  have b0 : E0.heap[w.heap.size]? = some (.cells #[.slice none 0 0, .slice none 0 0] 25 (0, 0)) := by rw [h0]; exact box_new _ _ _
  have HS := Lib.hid (show E0.heap.size = w.heap.size + 1 by rw [h0, World.size_alloc])
  have HB := Lib.hid B0
  have HB0 := Lib.hid b0
  clear B0 b0
  go_enter Try.func4, Try.ntmps4
  go_wp2_with (at_make; rw [← h0]; refine wpList_make_full (P := Try.prog) _ rfl _ _ 22 rfl E0.heap.size 29 i0 (.agg #[.int .u8 0, .int .i64 0]) 2 Try.underlying22 hi0 hz0 hz1 .i64 .i64 _ _ 2 rfl rfl rfl rfl (by rw [hz2]; decide) (by decide) (Nat.le_refl _) ?_; intro w1 ho1 hg1; have HR1 := Lib.hid (own_cur2 ho1); have HK1 := Lib.hid ((Below.refl E0.heap.size E0).grown hg1 (Nat.le_refl _) (fun k hk => by cases hk)); have HKY := Lib.hid (show Below E0.heap.size E0 (w1.alloc (.cells #[.int .i64 0, .int .i64 0, .int .i64 0, .int .i64 1] 51)) from HK1.out.alloc HK1.out.size _); have v0 : (w1.alloc (.cells #[.int .i64 0, .int .i64 0, .int .i64 0, .int .i64 1] 51)).cell? ⟨w.heap.size, 0, none⟩ = some (.slice none 0 0) := cell_of (box_on HB0.out HKY.out (Nat.le_refl _)) rfl; have v1 : (w1.alloc (.cells #[.int .i64 0, .int .i64 0, .int .i64 0, .int .i64 1] 51)).cell? ⟨w.heap.size, 1, none⟩ = some (.slice none 0 0) := cell_of (box_on HB0.out HKY.out (Nat.le_refl _)) rfl; have u0 : (w1.alloc (.cells #[.int .i64 0, .int .i64 0, .int .i64 0, .int .i64 1] 51)).frozen? ⟨w.heap.size, 0, none⟩ = false := frz (box_on HB0.out HKY.out (Nat.le_refl _)) 0; have u1 : (w1.alloc (.cells #[.int .i64 0, .int .i64 0, .int .i64 0, .int .i64 1] 51)).frozen? ⟨w.heap.size, 1, none⟩ = false := frz (box_on HB0.out HKY.out (Nat.le_refl _)) 1; clear ho1 hg1)
  have e1 := HS.out
  have e2 := HK1.out.size
  have hrow : (w1.alloc (.cells #[.int .i64 0, .int .i64 0, .int .i64 0, .int .i64 1] 51)).heap[w.heap.size + 1]? = some (.cells (cellsV 2 hstV exW.hosts).toArray 29 (0, 0)) := by
    have h := HR1.out
    rw [made2, e1] at h
    exact old_heap _ h
  refine ret2w (i := 0) (b := w.heap.size) rfl rfl rfl (row_store2 (box_on HB0.out HKY.out (Nat.le_refl _)) _ _) ⟨⟨some ⟨w.heap.size + 1, 0, none⟩, 2, some ⟨w1.heap.size, 0, none⟩, 2⟩, rfl, ⟨own_block2 (n := 2) (by omega) (set_else (set_else hrow (by omega)) (by omega)) rfl (by decide), own_block2 (n := 2) (by omega) (set_else (set_else (box_new _ _ _) (by omega)) (by omega)) rfl (by decide)⟩, ?_⟩
  exact (((HB.out.trans (HKY.out.mono HB.out.size)).setCell (p := ⟨w.heap.size, 0, none⟩) (Nat.le_refl _) _).setCell (p := ⟨w.heap.size, 1, none⟩) (Nat.le_refl _) _)
theorem exWish : WishOk (svs wxs) := by
  refine ⟨by decide, fun i s h => ?_, by decide⟩
  match i, h with
  | 0, h => obtain rfl : _ = s := Option.some.inj h; decide +kernel
theorem exOk : WorldOk exD (svs wxs) exW := ⟨by decide +kernel, exWish, by decide, by decide +kernel, by decide, by decide +kernel, by decide +kernel⟩
def exZ (p : SP) (A : Option Addr) (c : Nat) (q : WP) : Sn := ⟨p, exD, A, c, wxs, q, exW⟩
theorem exZ_ok (p : SP) (A : Option Addr) (c : Nat) (q : WP) : true = true ↔ (exZ p A c q).Ok := ⟨fun _ => exOk, fun _ => rfl⟩
theorem ex_watts (p : SP) (A : Option Addr) (c : Nat) (q : WP) : pwV (exZ p A c q) true (isHost 0) = 200 := by
  show loadN exD (svs wxs) exW (isHost 0) = 200; decide +kernel
theorem ex_feed (p : SP) (A : Option Addr) (c : Nat) (q : WP) : pwV (exZ p A c q) true (isFeed exD 0) = 400 := by
  show loadN exD (svs wxs) exW (isFeed exD 0) = 400; decide +kernel
theorem ex_car (p : SP) (A : Option Addr) (c : Nat) (q : WP) : carV (exZ p A c q) true = 300 := by
  show carryV exD (svs wxs) exW = 300; decide +kernel
theorem ex_bears (p : SP) (A : Option Addr) (c : Nat) (q : WP) : bearV (exZ p A c q) true 0 = -1 := by
  have h : pwV (exZ p A c q) true (isBrk exD 0) = 200 := by show loadN exD (svs wxs) exW (isBrk exD 0) = 200; decide +kernel
  unfold bearV
  rw [if_pos ⟨rfl, by decide, by show (0 : Int) < (exD.brks.length : Int); decide⟩, show (exZ p A c q).s = exD from rfl, h]
  decide +kernel
theorem c_siteTo (w : World) : Calls Try.prog 6 #[] w fun e w' => ∃ p, e = .returned (siV p exD) ∧ SiAt w' p exD ∧ Below w.heap.size w w' := (c_site w).mono fun e w' h => ⟨_, h.1, h.2.1, h.2.2⟩
theorem c_wishTo (w : World) : Calls Try.prog 7 #[] w fun e w' => ∃ A c, e = .returned (.agg #[.slice A wxs.length c]) ∧ WiAt w' A c wxs ∧ Below w.heap.size w w' := (c_wish w).mono fun e w' h => ⟨_, _, h.1, h.2.1, h.2.2⟩
theorem c_exTo (w : World) : Calls Try.prog 4 #[] w fun e w' => ∃ p, e = .returned (.agg #[.slice p.a1 exW.hosts.length p.c1, .slice p.a2 exW.reps.length p.c2]) ∧ WoAt w' p exW ∧ Below w.heap.size w w' := by
  refine (c_example w).mono ?_
  rintro e w' ⟨p, rfl, h, b⟩
  exact ⟨p, rfl, h.wo (by decide), b⟩
theorem exWatts (p : SP) (A : Option Addr) (c : Nat) (q : WP) (w : World) (h1 : SiAt w p exD) (h2 : WiAt w A c wxs) (h3 : WoAt w q exW) :
    Calls Try.prog 10 #[.agg #[.slice p.a1 exD.feeds.length p.c1, .slice p.a2 exD.brks.length p.c2, .slice p.a3 exD.loops.length p.c3, .slice p.a4 exD.racks.length p.c4, .int .i64 exD.sw, .slice p.a5 exD.links.length p.c5, .slice p.a6 exD.hosts.length p.c6], .agg #[.slice A wxs.length c], .agg #[.slice q.a1 exW.hosts.length q.c1, .slice q.a2 exW.reps.length q.c2], .int .i64 0] w fun e w' => e = .returned (.int .i64 200) ∧ Below w.heap.size w w' := c_pwWatts (exZ p A c q) true (exZ_ok p A c q) 0 w ⟨h1, h2, h3⟩ 200 (ex_watts p A c q)
theorem exFeed (p : SP) (A : Option Addr) (c : Nat) (q : WP) (w : World) (h1 : SiAt w p exD) (h2 : WiAt w A c wxs) (h3 : WoAt w q exW) :
    Calls Try.prog 23 #[.agg #[.slice p.a1 exD.feeds.length p.c1, .slice p.a2 exD.brks.length p.c2, .slice p.a3 exD.loops.length p.c3, .slice p.a4 exD.racks.length p.c4, .int .i64 exD.sw, .slice p.a5 exD.links.length p.c5, .slice p.a6 exD.hosts.length p.c6], .agg #[.slice A wxs.length c], .agg #[.slice q.a1 exW.hosts.length q.c1, .slice q.a2 exW.reps.length q.c2], .int .i64 0] w fun e w' => e = .returned (.int .i64 400) ∧ Below w.heap.size w w' := c_pwOfFeed (exZ p A c q) true (exZ_ok p A c q) 0 w ⟨h1, h2, h3⟩ 400 (ex_feed p A c q)
theorem exCar (p : SP) (A : Option Addr) (c : Nat) (q : WP) (w : World) (h1 : SiAt w p exD) (h2 : WiAt w A c wxs) (h3 : WoAt w q exW) :
    Calls Try.prog 11 #[.agg #[.slice p.a1 exD.feeds.length p.c1, .slice p.a2 exD.brks.length p.c2, .slice p.a3 exD.loops.length p.c3, .slice p.a4 exD.racks.length p.c4, .int .i64 exD.sw, .slice p.a5 exD.links.length p.c5, .slice p.a6 exD.hosts.length p.c6], .agg #[.slice A wxs.length c], .agg #[.slice q.a1 exW.hosts.length q.c1, .slice q.a2 exW.reps.length q.c2]] w fun e w' => e = .returned (.int .i64 300) ∧ Below w.heap.size w w' := c_pwCarried (exZ p A c q) true (exZ_ok p A c q) w ⟨h1, h2, h3⟩ 300 (ex_car p A c q)
theorem exBears (p : SP) (A : Option Addr) (c : Nat) (q : WP) (w : World) (h1 : SiAt w p exD) (h2 : WiAt w A c wxs) (h3 : WoAt w q exW) :
    Calls Try.prog 12 #[.agg #[.slice p.a1 exD.feeds.length p.c1, .slice p.a2 exD.brks.length p.c2, .slice p.a3 exD.loops.length p.c3, .slice p.a4 exD.racks.length p.c4, .int .i64 exD.sw, .slice p.a5 exD.links.length p.c5, .slice p.a6 exD.hosts.length p.c6], .agg #[.slice A wxs.length c], .agg #[.slice q.a1 exW.hosts.length q.c1, .slice q.a2 exW.reps.length q.c2], .int .i64 0] w fun e w' => e = .returned (.int .i64 (-1)) ∧ Below w.heap.size w w' := c_pw_Bears (exZ p A c q) true (exZ_ok p A c q) 0 w ⟨h1, h2, h3⟩ (-1) (ex_bears p A c q)
set_option maxHeartbeats 16000000 in
theorem c_live (w : World) : Calls Try.prog 13 #[] w fun e w' => e = .returned (.bool true) ∧ Below w.heap.size w w' := by
  have HBw := Lib.hid (Below.refl w.heap.size w)
  go_enter Try.func13, Try.ntmps13
  go_wp2_with (fail)
  go_at_call 6
  refine (c_siteTo w).mono ?_
  rintro e v1 ⟨p, rfl, h1, bb⟩
  have HBv1 := Lib.hid (below_join HBw.out bb HBw.out.size)
  have S1v1 := Lib.hid h1; clear h1
  clear bb
  unfold siV
  go_wp2_with (fail)
  go_at_call 7
  refine (c_wishTo v1).mono ?_
  rintro e v2 ⟨A, c, rfl, h1, bb⟩
  have HBv2 := Lib.hid (below_join HBv1.out bb HBv1.out.size)
  have S1v2 := Lib.hid (S1v1.out.on bb (Nat.le_refl _))
  have S2v2 := Lib.hid h1; clear h1
  clear bb
  go_wp2_with (fail)
  go_at_call 4
  refine (c_exTo v2).mono ?_
  rintro e v3 ⟨q, rfl, h1, bb⟩
  have HBv3 := Lib.hid (below_join HBv2.out bb HBv2.out.size)
  have S1v3 := Lib.hid (S1v2.out.on bb (Nat.le_refl _))
  have S2v3 := Lib.hid (S2v2.out.on bb (Nat.le_refl _))
  have S3v3 := Lib.hid h1; clear h1
  clear bb
  go_wp2_with (fail)
  go_at_call 10
  refine (exWatts p A c q v3 S1v3.out S2v3.out S3v3.out).mono ?_
  rintro e v4 ⟨rfl, bb⟩
  have HBv4 := Lib.hid (below_join HBv3.out bb HBv3.out.size)
  have S1v4 := Lib.hid (S1v3.out.on bb (Nat.le_refl _))
  have S2v4 := Lib.hid (S2v3.out.on bb (Nat.le_refl _))
  have S3v4 := Lib.hid (S3v3.out.on bb (Nat.le_refl _))
  clear bb
  go_wp2_with (fail)
  go_at_call 6
  refine (c_siteTo v4).mono ?_
  rintro e v5 ⟨p, rfl, h1, bb⟩
  have HBv5 := Lib.hid (below_join HBv4.out bb HBv4.out.size)
  have S1v5 := Lib.hid h1; clear h1
  clear bb
  unfold siV
  go_wp2_with (fail)
  go_at_call 7
  refine (c_wishTo v5).mono ?_
  rintro e v6 ⟨A, c, rfl, h1, bb⟩
  have HBv6 := Lib.hid (below_join HBv5.out bb HBv5.out.size)
  have S1v6 := Lib.hid (S1v5.out.on bb (Nat.le_refl _))
  have S2v6 := Lib.hid h1; clear h1
  clear bb
  go_wp2_with (fail)
  go_at_call 4
  refine (c_exTo v6).mono ?_
  rintro e v7 ⟨q, rfl, h1, bb⟩
  have HBv7 := Lib.hid (below_join HBv6.out bb HBv6.out.size)
  have S1v7 := Lib.hid (S1v6.out.on bb (Nat.le_refl _))
  have S2v7 := Lib.hid (S2v6.out.on bb (Nat.le_refl _))
  have S3v7 := Lib.hid h1; clear h1
  clear bb
  go_wp2_with (fail)
  go_at_call 23
  refine (exFeed p A c q v7 S1v7.out S2v7.out S3v7.out).mono ?_
  rintro e v8 ⟨rfl, bb⟩
  have HBv8 := Lib.hid (below_join HBv7.out bb HBv7.out.size)
  have S1v8 := Lib.hid (S1v7.out.on bb (Nat.le_refl _))
  have S2v8 := Lib.hid (S2v7.out.on bb (Nat.le_refl _))
  have S3v8 := Lib.hid (S3v7.out.on bb (Nat.le_refl _))
  clear bb
  go_wp2_with (fail)
  go_at_call 6
  refine (c_siteTo v8).mono ?_
  rintro e v9 ⟨p, rfl, h1, bb⟩
  have HBv9 := Lib.hid (below_join HBv8.out bb HBv8.out.size)
  have S1v9 := Lib.hid h1; clear h1
  clear bb
  unfold siV
  go_wp2_with (fail)
  go_at_call 7
  refine (c_wishTo v9).mono ?_
  rintro e v10 ⟨A, c, rfl, h1, bb⟩
  have HBv10 := Lib.hid (below_join HBv9.out bb HBv9.out.size)
  have S1v10 := Lib.hid (S1v9.out.on bb (Nat.le_refl _))
  have S2v10 := Lib.hid h1; clear h1
  clear bb
  go_wp2_with (fail)
  go_at_call 4
  refine (c_exTo v10).mono ?_
  rintro e v11 ⟨q, rfl, h1, bb⟩
  have HBv11 := Lib.hid (below_join HBv10.out bb HBv10.out.size)
  have S1v11 := Lib.hid (S1v10.out.on bb (Nat.le_refl _))
  have S2v11 := Lib.hid (S2v10.out.on bb (Nat.le_refl _))
  have S3v11 := Lib.hid h1; clear h1
  clear bb
  go_wp2_with (fail)
  go_at_call 11
  refine (exCar p A c q v11 S1v11.out S2v11.out S3v11.out).mono ?_
  rintro e v12 ⟨rfl, bb⟩
  have HBv12 := Lib.hid (below_join HBv11.out bb HBv11.out.size)
  have S1v12 := Lib.hid (S1v11.out.on bb (Nat.le_refl _))
  have S2v12 := Lib.hid (S2v11.out.on bb (Nat.le_refl _))
  have S3v12 := Lib.hid (S3v11.out.on bb (Nat.le_refl _))
  clear bb
  go_wp2_with (fail)
  go_at_call 6
  refine (c_siteTo v12).mono ?_
  rintro e v13 ⟨p, rfl, h1, bb⟩
  have HBv13 := Lib.hid (below_join HBv12.out bb HBv12.out.size)
  have S1v13 := Lib.hid h1; clear h1
  clear bb
  unfold siV
  go_wp2_with (fail)
  go_at_call 7
  refine (c_wishTo v13).mono ?_
  rintro e v14 ⟨A, c, rfl, h1, bb⟩
  have HBv14 := Lib.hid (below_join HBv13.out bb HBv13.out.size)
  have S1v14 := Lib.hid (S1v13.out.on bb (Nat.le_refl _))
  have S2v14 := Lib.hid h1; clear h1
  clear bb
  go_wp2_with (fail)
  go_at_call 4
  refine (c_exTo v14).mono ?_
  rintro e v15 ⟨q, rfl, h1, bb⟩
  have HBv15 := Lib.hid (below_join HBv14.out bb HBv14.out.size)
  have S1v15 := Lib.hid (S1v14.out.on bb (Nat.le_refl _))
  have S2v15 := Lib.hid (S2v14.out.on bb (Nat.le_refl _))
  have S3v15 := Lib.hid h1; clear h1
  clear bb
  go_wp2_with (fail)
  go_at_call 12
  refine (exBears p A c q v15 S1v15.out S2v15.out S3v15.out).mono ?_
  rintro e v16 ⟨rfl, bb⟩
  have HBv16 := Lib.hid (below_join HBv15.out bb HBv15.out.size)
  have S1v16 := Lib.hid (S1v15.out.on bb (Nat.le_refl _))
  have S2v16 := Lib.hid (S2v15.out.on bb (Nat.le_refl _))
  have S3v16 := Lib.hid (S3v15.out.on bb (Nat.le_refl _))
  clear bb
  go_wp2_with (fail)
  go_ret
  exact ⟨rfl, HBv16.out⟩
end Go.Proofs.Ytidpiokkfnhobaa
