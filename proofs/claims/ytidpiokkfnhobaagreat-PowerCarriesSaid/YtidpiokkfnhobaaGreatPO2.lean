/-
  DERIVED. Several texts in one.
-/
import Derived.Test.YtidpiokkfnhobaaGreatPO1
import Derived.Test.YtidpiokkfnhobaaGreatPV71
import Derived.Test.YtidpiokkfnhobaaGreatPV54
set_option linter.unusedVariables false
set_option linter.unusedSimpArgs false

namespace Go.Proofs.YtidpiokkfnhobaaGreat
open Go.RowKit
set_option maxRecDepth 100000
set_option linter.unusedVariables false
set_option linter.unusedSimpArgs false

set_option maxHeartbeats 4000000 in
theorem c_pwWatts (z : Sn) (r0 : Bool) (hr0 : r0 = true ↔ z.Ok) (k : Int) (w : World) (hz : SnAt w z) (v : Int) (hv : pwV z r0 (isHost k) = v) :
    Calls Tryz.prog 10 #[.agg #[.slice z.p.a1 z.s.feeds.length z.p.c1, .slice z.p.a2 z.s.brks.length z.p.c2, .slice z.p.a3 z.s.loops.length z.p.c3, .slice z.p.a4 z.s.racks.length z.p.c4, .int .i64 z.s.sw, .slice z.p.a5 z.s.links.length z.p.c5, .slice z.p.a6 z.s.hosts.length z.p.c6], .agg #[.slice z.A z.xs.length z.c], .agg #[.slice z.q.a1 z.d.hosts.length z.q.c1, .slice z.q.a2 z.d.reps.length z.q.c2], .int .i64 k] w fun e w' => e = .returned (.int .i64 v) ∧ Below w.heap.size w w' := by
  obtain ⟨W1, h1⟩ : ∃ W, W = w.alloc (.cells #[.slice z.p.a1 z.s.feeds.length z.p.c1, .slice z.p.a2 z.s.brks.length z.p.c2, .slice z.p.a3 z.s.loops.length z.p.c3, .slice z.p.a4 z.s.racks.length z.p.c4, .int .i64 z.s.sw, .slice z.p.a5 z.s.links.length z.p.c5, .slice z.p.a6 z.s.hosts.length z.p.c6] 29) := ⟨_, rfl⟩
  obtain ⟨W2, h2⟩ : ∃ W, W = W1.alloc (.cells #[.slice z.A z.xs.length z.c] 32) := ⟨_, rfl⟩
  obtain ⟨W3, h3⟩ : ∃ W, W = W2.alloc (.cells #[.slice z.q.a1 z.d.hosts.length z.q.c1, .slice z.q.a2 z.d.reps.length z.q.c2] 36) := ⟨_, rfl⟩
  obtain ⟨B0, X1⟩ := sn_boxes h1 h2 h3
  have z3 : W3.heap.size = w.heap.size + 1 + 1 + 1 := sn_size h1 h2 h3
  obtain ⟨W, h4⟩ : ∃ W, W = W3.alloc (.cells #[.int .i64 k] 3) := ⟨_, rfl⟩
  have B1 : Below w.heap.size w W := by rw [h4]; exact B0.alloc B0.size _
  have M0 : W.heap[w.heap.size + 1 + 1 + 1]? = some (.cells #[.int .i64 k] 3 (0, 0)) := by rw [h4, ← z3]; exact box_new _ _ _
  have z4 : W.heap.size = w.heap.size + 1 + 1 + 1 + 1 := by rw [h4, World.size_alloc, z3]
  have X2 : SnBx W w.heap.size z := by rw [h4]; exact X1.alloc _
  have HB := Lib.hid B1
  have Z0 := hz.on B1 (Nat.le_refl _)
  have HZ := Lib.hid (fun (X : World) (hX : Below W.heap.size W X) => Z0.on hX (Nat.le_refl _))
  have HF := Lib.hid (fun (X : World) (hX : Below W.heap.size W X) => ((X2.on hX (Nat.le_refl _)).cells : X.cell? ⟨w.heap.size, 0, none⟩ = some (.slice z.p.a1 z.s.feeds.length z.p.c1) ∧ X.cell? ⟨w.heap.size, 1, none⟩ = some (.slice z.p.a2 z.s.brks.length z.p.c2) ∧ X.cell? ⟨w.heap.size, 2, none⟩ = some (.slice z.p.a3 z.s.loops.length z.p.c3) ∧ X.cell? ⟨w.heap.size, 3, none⟩ = some (.slice z.p.a4 z.s.racks.length z.p.c4) ∧ X.cell? ⟨w.heap.size, 4, none⟩ = some (.int .i64 z.s.sw) ∧ X.cell? ⟨w.heap.size, 5, none⟩ = some (.slice z.p.a5 z.s.links.length z.p.c5) ∧ X.cell? ⟨w.heap.size, 6, none⟩ = some (.slice z.p.a6 z.s.hosts.length z.p.c6) ∧ X.cell? ⟨w.heap.size + 1, 0, none⟩ = some (.slice z.A z.xs.length z.c) ∧ X.cell? ⟨w.heap.size + 1 + 1, 0, none⟩ = some (.slice z.q.a1 z.d.hosts.length z.q.c1) ∧ X.cell? ⟨w.heap.size + 1 + 1, 1, none⟩ = some (.slice z.q.a2 z.d.reps.length z.q.c2)))
  have HX := Lib.hid (fun (X : World) (hX : Below W.heap.size W X) => X2.on hX (Nat.le_refl _))
  have HM0 := Lib.hid (fun (X : World) (hX : Below W.heap.size W X) => (box_on M0 hX (Nat.le_refl _) : X.heap[w.heap.size + 1 + 1 + 1]? = some (.cells #[.int .i64 k] 3 (0, 0))))
  have HKW := Lib.hid (Below.refl W.heap.size W)
  have hle := HB.out.size
  obtain ⟨n1, n2, n3, n4, n5, n6, n7, n8⟩ := hz.bounds
  have HCL := Lib.hid (fun (X : World) (hX : Below W.heap.size W X) => c_loadHost z r0 hr0 (w.heap.size + 1 + 1 + 1) k X (HZ.out X hX) (cell_of (HM0.out X hX) rfl) (at_lt (HM0.out X hX)) v hv)
  clear hr0 hv
  clear hz B0 X1 z3 Z0 B1 M0 z4 X2
  obtain ⟨f0, f1, f2, f3, f4, f5, f6, g0, g1, g2⟩ := HF.out W HKW.out
  have m00 := cell_of (HM0.out W HKW.out) (o := 0) rfl
  rw [h4, h3, h2, h1] at f0 f1 f2 f3 f4 f5 f6 g0 g1 g2 m00
  generalize hBB : w.heap.size = B at *
  go_enter Tryz.func10, Tryz.ntmps10
  go_wp2_with (fail)
  rw [← h1, ← h2, ← h3, ← h4]
  clear h1 h2 h3 h4 f0 f1 f2 f3 f4 f5 f6 g0 g1 g2 m00
  go_at_call 29
  refine (HCL.out W HKW.out).mono ?_
  rintro e v1 ⟨rfl, bb⟩
  have HKv1 := Lib.hid (below_join HKW.out bb HKW.out.size)
  clear bb
  go_wp2_with (fail)
  go_ret
  exact ⟨rfl, below_join HB.out HKv1.out hle⟩
set_option maxHeartbeats 4000000 in
theorem c_pwOfRack (z : Sn) (r0 : Bool) (hr0 : r0 = true ↔ z.Ok) (k : Int) (w : World) (hz : SnAt w z) (v : Int) (hv : pwV z r0 (isRack z.s k) = v) :
    Calls Tryz.prog 12 #[.agg #[.slice z.p.a1 z.s.feeds.length z.p.c1, .slice z.p.a2 z.s.brks.length z.p.c2, .slice z.p.a3 z.s.loops.length z.p.c3, .slice z.p.a4 z.s.racks.length z.p.c4, .int .i64 z.s.sw, .slice z.p.a5 z.s.links.length z.p.c5, .slice z.p.a6 z.s.hosts.length z.p.c6], .agg #[.slice z.A z.xs.length z.c], .agg #[.slice z.q.a1 z.d.hosts.length z.q.c1, .slice z.q.a2 z.d.reps.length z.q.c2], .int .i64 k] w fun e w' => e = .returned (.int .i64 v) ∧ Below w.heap.size w w' := by
  obtain ⟨W1, h1⟩ : ∃ W, W = w.alloc (.cells #[.slice z.p.a1 z.s.feeds.length z.p.c1, .slice z.p.a2 z.s.brks.length z.p.c2, .slice z.p.a3 z.s.loops.length z.p.c3, .slice z.p.a4 z.s.racks.length z.p.c4, .int .i64 z.s.sw, .slice z.p.a5 z.s.links.length z.p.c5, .slice z.p.a6 z.s.hosts.length z.p.c6] 29) := ⟨_, rfl⟩
  obtain ⟨W2, h2⟩ : ∃ W, W = W1.alloc (.cells #[.slice z.A z.xs.length z.c] 32) := ⟨_, rfl⟩
  obtain ⟨W3, h3⟩ : ∃ W, W = W2.alloc (.cells #[.slice z.q.a1 z.d.hosts.length z.q.c1, .slice z.q.a2 z.d.reps.length z.q.c2] 36) := ⟨_, rfl⟩
  obtain ⟨B0, X1⟩ := sn_boxes h1 h2 h3
  have z3 : W3.heap.size = w.heap.size + 1 + 1 + 1 := sn_size h1 h2 h3
  obtain ⟨W, h4⟩ : ∃ W, W = W3.alloc (.cells #[.int .i64 k] 3) := ⟨_, rfl⟩
  have B1 : Below w.heap.size w W := by rw [h4]; exact B0.alloc B0.size _
  have M0 : W.heap[w.heap.size + 1 + 1 + 1]? = some (.cells #[.int .i64 k] 3 (0, 0)) := by rw [h4, ← z3]; exact box_new _ _ _
  have z4 : W.heap.size = w.heap.size + 1 + 1 + 1 + 1 := by rw [h4, World.size_alloc, z3]
  have X2 : SnBx W w.heap.size z := by rw [h4]; exact X1.alloc _
  have HB := Lib.hid B1
  have Z0 := hz.on B1 (Nat.le_refl _)
  have HZ := Lib.hid (fun (X : World) (hX : Below W.heap.size W X) => Z0.on hX (Nat.le_refl _))
  have HF := Lib.hid (fun (X : World) (hX : Below W.heap.size W X) => ((X2.on hX (Nat.le_refl _)).cells : X.cell? ⟨w.heap.size, 0, none⟩ = some (.slice z.p.a1 z.s.feeds.length z.p.c1) ∧ X.cell? ⟨w.heap.size, 1, none⟩ = some (.slice z.p.a2 z.s.brks.length z.p.c2) ∧ X.cell? ⟨w.heap.size, 2, none⟩ = some (.slice z.p.a3 z.s.loops.length z.p.c3) ∧ X.cell? ⟨w.heap.size, 3, none⟩ = some (.slice z.p.a4 z.s.racks.length z.p.c4) ∧ X.cell? ⟨w.heap.size, 4, none⟩ = some (.int .i64 z.s.sw) ∧ X.cell? ⟨w.heap.size, 5, none⟩ = some (.slice z.p.a5 z.s.links.length z.p.c5) ∧ X.cell? ⟨w.heap.size, 6, none⟩ = some (.slice z.p.a6 z.s.hosts.length z.p.c6) ∧ X.cell? ⟨w.heap.size + 1, 0, none⟩ = some (.slice z.A z.xs.length z.c) ∧ X.cell? ⟨w.heap.size + 1 + 1, 0, none⟩ = some (.slice z.q.a1 z.d.hosts.length z.q.c1) ∧ X.cell? ⟨w.heap.size + 1 + 1, 1, none⟩ = some (.slice z.q.a2 z.d.reps.length z.q.c2)))
  have HX := Lib.hid (fun (X : World) (hX : Below W.heap.size W X) => X2.on hX (Nat.le_refl _))
  have HM0 := Lib.hid (fun (X : World) (hX : Below W.heap.size W X) => (box_on M0 hX (Nat.le_refl _) : X.heap[w.heap.size + 1 + 1 + 1]? = some (.cells #[.int .i64 k] 3 (0, 0))))
  have HKW := Lib.hid (Below.refl W.heap.size W)
  have hle := HB.out.size
  obtain ⟨n1, n2, n3, n4, n5, n6, n7, n8⟩ := hz.bounds
  have HCL := Lib.hid (fun (X : World) (hX : Below W.heap.size W X) => c_loadRack z r0 hr0 w.heap.size (w.heap.size + 1 + 1 + 1) k X (HZ.out X hX) ((HX.out X hX).b1) (cell_of (HM0.out X hX) rfl) (at_lt (HM0.out X hX)) v hv)
  clear hr0 hv
  clear hz B0 X1 z3 Z0 B1 M0 z4 X2
  obtain ⟨f0, f1, f2, f3, f4, f5, f6, g0, g1, g2⟩ := HF.out W HKW.out
  have m00 := cell_of (HM0.out W HKW.out) (o := 0) rfl
  rw [h4, h3, h2, h1] at f0 f1 f2 f3 f4 f5 f6 g0 g1 g2 m00
  generalize hBB : w.heap.size = B at *
  go_enter Tryz.func12, Tryz.ntmps12
  go_wp2_with (fail)
  rw [← h1, ← h2, ← h3, ← h4]
  clear h1 h2 h3 h4 f0 f1 f2 f3 f4 f5 f6 g0 g1 g2 m00
  go_at_call 29
  refine (HCL.out W HKW.out).mono ?_
  rintro e v1 ⟨rfl, bb⟩
  have HKv1 := Lib.hid (below_join HKW.out bb HKW.out.size)
  clear bb
  go_wp2_with (fail)
  go_ret
  exact ⟨rfl, below_join HB.out HKv1.out hle⟩
set_option maxHeartbeats 4000000 in
theorem c_pwOfBreaker (z : Sn) (r0 : Bool) (hr0 : r0 = true ↔ z.Ok) (k : Int) (w : World) (hz : SnAt w z) (v : Int) (hv : pwV z r0 (isBrk z.s k) = v) :
    Calls Tryz.prog 14 #[.agg #[.slice z.p.a1 z.s.feeds.length z.p.c1, .slice z.p.a2 z.s.brks.length z.p.c2, .slice z.p.a3 z.s.loops.length z.p.c3, .slice z.p.a4 z.s.racks.length z.p.c4, .int .i64 z.s.sw, .slice z.p.a5 z.s.links.length z.p.c5, .slice z.p.a6 z.s.hosts.length z.p.c6], .agg #[.slice z.A z.xs.length z.c], .agg #[.slice z.q.a1 z.d.hosts.length z.q.c1, .slice z.q.a2 z.d.reps.length z.q.c2], .int .i64 k] w fun e w' => e = .returned (.int .i64 v) ∧ Below w.heap.size w w' := by
  obtain ⟨W1, h1⟩ : ∃ W, W = w.alloc (.cells #[.slice z.p.a1 z.s.feeds.length z.p.c1, .slice z.p.a2 z.s.brks.length z.p.c2, .slice z.p.a3 z.s.loops.length z.p.c3, .slice z.p.a4 z.s.racks.length z.p.c4, .int .i64 z.s.sw, .slice z.p.a5 z.s.links.length z.p.c5, .slice z.p.a6 z.s.hosts.length z.p.c6] 29) := ⟨_, rfl⟩
  obtain ⟨W2, h2⟩ : ∃ W, W = W1.alloc (.cells #[.slice z.A z.xs.length z.c] 32) := ⟨_, rfl⟩
  obtain ⟨W3, h3⟩ : ∃ W, W = W2.alloc (.cells #[.slice z.q.a1 z.d.hosts.length z.q.c1, .slice z.q.a2 z.d.reps.length z.q.c2] 36) := ⟨_, rfl⟩
  obtain ⟨B0, X1⟩ := sn_boxes h1 h2 h3
  have z3 : W3.heap.size = w.heap.size + 1 + 1 + 1 := sn_size h1 h2 h3
  obtain ⟨W, h4⟩ : ∃ W, W = W3.alloc (.cells #[.int .i64 k] 3) := ⟨_, rfl⟩
  have B1 : Below w.heap.size w W := by rw [h4]; exact B0.alloc B0.size _
  have M0 : W.heap[w.heap.size + 1 + 1 + 1]? = some (.cells #[.int .i64 k] 3 (0, 0)) := by rw [h4, ← z3]; exact box_new _ _ _
  have z4 : W.heap.size = w.heap.size + 1 + 1 + 1 + 1 := by rw [h4, World.size_alloc, z3]
  have X2 : SnBx W w.heap.size z := by rw [h4]; exact X1.alloc _
  have HB := Lib.hid B1
  have Z0 := hz.on B1 (Nat.le_refl _)
  have HZ := Lib.hid (fun (X : World) (hX : Below W.heap.size W X) => Z0.on hX (Nat.le_refl _))
  have HF := Lib.hid (fun (X : World) (hX : Below W.heap.size W X) => ((X2.on hX (Nat.le_refl _)).cells : X.cell? ⟨w.heap.size, 0, none⟩ = some (.slice z.p.a1 z.s.feeds.length z.p.c1) ∧ X.cell? ⟨w.heap.size, 1, none⟩ = some (.slice z.p.a2 z.s.brks.length z.p.c2) ∧ X.cell? ⟨w.heap.size, 2, none⟩ = some (.slice z.p.a3 z.s.loops.length z.p.c3) ∧ X.cell? ⟨w.heap.size, 3, none⟩ = some (.slice z.p.a4 z.s.racks.length z.p.c4) ∧ X.cell? ⟨w.heap.size, 4, none⟩ = some (.int .i64 z.s.sw) ∧ X.cell? ⟨w.heap.size, 5, none⟩ = some (.slice z.p.a5 z.s.links.length z.p.c5) ∧ X.cell? ⟨w.heap.size, 6, none⟩ = some (.slice z.p.a6 z.s.hosts.length z.p.c6) ∧ X.cell? ⟨w.heap.size + 1, 0, none⟩ = some (.slice z.A z.xs.length z.c) ∧ X.cell? ⟨w.heap.size + 1 + 1, 0, none⟩ = some (.slice z.q.a1 z.d.hosts.length z.q.c1) ∧ X.cell? ⟨w.heap.size + 1 + 1, 1, none⟩ = some (.slice z.q.a2 z.d.reps.length z.q.c2)))
  have HX := Lib.hid (fun (X : World) (hX : Below W.heap.size W X) => X2.on hX (Nat.le_refl _))
  have HM0 := Lib.hid (fun (X : World) (hX : Below W.heap.size W X) => (box_on M0 hX (Nat.le_refl _) : X.heap[w.heap.size + 1 + 1 + 1]? = some (.cells #[.int .i64 k] 3 (0, 0))))
  have HKW := Lib.hid (Below.refl W.heap.size W)
  have hle := HB.out.size
  obtain ⟨n1, n2, n3, n4, n5, n6, n7, n8⟩ := hz.bounds
  have HCL := Lib.hid (fun (X : World) (hX : Below W.heap.size W X) => c_loadBrk z r0 hr0 w.heap.size (w.heap.size + 1 + 1 + 1) k X (HZ.out X hX) ((HX.out X hX).b1) (cell_of (HM0.out X hX) rfl) (at_lt (HM0.out X hX)) v hv)
  clear hr0 hv
  clear hz B0 X1 z3 Z0 B1 M0 z4 X2
  obtain ⟨f0, f1, f2, f3, f4, f5, f6, g0, g1, g2⟩ := HF.out W HKW.out
  have m00 := cell_of (HM0.out W HKW.out) (o := 0) rfl
  rw [h4, h3, h2, h1] at f0 f1 f2 f3 f4 f5 f6 g0 g1 g2 m00
  generalize hBB : w.heap.size = B at *
  go_enter Tryz.func14, Tryz.ntmps14
  go_wp2_with (fail)
  rw [← h1, ← h2, ← h3, ← h4]
  clear h1 h2 h3 h4 f0 f1 f2 f3 f4 f5 f6 g0 g1 g2 m00
  go_at_call 29
  refine (HCL.out W HKW.out).mono ?_
  rintro e v1 ⟨rfl, bb⟩
  have HKv1 := Lib.hid (below_join HKW.out bb HKW.out.size)
  clear bb
  go_wp2_with (fail)
  go_ret
  exact ⟨rfl, below_join HB.out HKv1.out hle⟩
set_option maxHeartbeats 4000000 in
theorem c_pwOfFeed (z : Sn) (r0 : Bool) (hr0 : r0 = true ↔ z.Ok) (k : Int) (w : World) (hz : SnAt w z) (v : Int) (hv : pwV z r0 (isFeed z.s k) = v) :
    Calls Tryz.prog 16 #[.agg #[.slice z.p.a1 z.s.feeds.length z.p.c1, .slice z.p.a2 z.s.brks.length z.p.c2, .slice z.p.a3 z.s.loops.length z.p.c3, .slice z.p.a4 z.s.racks.length z.p.c4, .int .i64 z.s.sw, .slice z.p.a5 z.s.links.length z.p.c5, .slice z.p.a6 z.s.hosts.length z.p.c6], .agg #[.slice z.A z.xs.length z.c], .agg #[.slice z.q.a1 z.d.hosts.length z.q.c1, .slice z.q.a2 z.d.reps.length z.q.c2], .int .i64 k] w fun e w' => e = .returned (.int .i64 v) ∧ Below w.heap.size w w' := by
  obtain ⟨W1, h1⟩ : ∃ W, W = w.alloc (.cells #[.slice z.p.a1 z.s.feeds.length z.p.c1, .slice z.p.a2 z.s.brks.length z.p.c2, .slice z.p.a3 z.s.loops.length z.p.c3, .slice z.p.a4 z.s.racks.length z.p.c4, .int .i64 z.s.sw, .slice z.p.a5 z.s.links.length z.p.c5, .slice z.p.a6 z.s.hosts.length z.p.c6] 29) := ⟨_, rfl⟩
  obtain ⟨W2, h2⟩ : ∃ W, W = W1.alloc (.cells #[.slice z.A z.xs.length z.c] 32) := ⟨_, rfl⟩
  obtain ⟨W3, h3⟩ : ∃ W, W = W2.alloc (.cells #[.slice z.q.a1 z.d.hosts.length z.q.c1, .slice z.q.a2 z.d.reps.length z.q.c2] 36) := ⟨_, rfl⟩
  obtain ⟨B0, X1⟩ := sn_boxes h1 h2 h3
  have z3 : W3.heap.size = w.heap.size + 1 + 1 + 1 := sn_size h1 h2 h3
  obtain ⟨W, h4⟩ : ∃ W, W = W3.alloc (.cells #[.int .i64 k] 3) := ⟨_, rfl⟩
  have B1 : Below w.heap.size w W := by rw [h4]; exact B0.alloc B0.size _
  have M0 : W.heap[w.heap.size + 1 + 1 + 1]? = some (.cells #[.int .i64 k] 3 (0, 0)) := by rw [h4, ← z3]; exact box_new _ _ _
  have z4 : W.heap.size = w.heap.size + 1 + 1 + 1 + 1 := by rw [h4, World.size_alloc, z3]
  have X2 : SnBx W w.heap.size z := by rw [h4]; exact X1.alloc _
  have HB := Lib.hid B1
  have Z0 := hz.on B1 (Nat.le_refl _)
  have HZ := Lib.hid (fun (X : World) (hX : Below W.heap.size W X) => Z0.on hX (Nat.le_refl _))
  have HF := Lib.hid (fun (X : World) (hX : Below W.heap.size W X) => ((X2.on hX (Nat.le_refl _)).cells : X.cell? ⟨w.heap.size, 0, none⟩ = some (.slice z.p.a1 z.s.feeds.length z.p.c1) ∧ X.cell? ⟨w.heap.size, 1, none⟩ = some (.slice z.p.a2 z.s.brks.length z.p.c2) ∧ X.cell? ⟨w.heap.size, 2, none⟩ = some (.slice z.p.a3 z.s.loops.length z.p.c3) ∧ X.cell? ⟨w.heap.size, 3, none⟩ = some (.slice z.p.a4 z.s.racks.length z.p.c4) ∧ X.cell? ⟨w.heap.size, 4, none⟩ = some (.int .i64 z.s.sw) ∧ X.cell? ⟨w.heap.size, 5, none⟩ = some (.slice z.p.a5 z.s.links.length z.p.c5) ∧ X.cell? ⟨w.heap.size, 6, none⟩ = some (.slice z.p.a6 z.s.hosts.length z.p.c6) ∧ X.cell? ⟨w.heap.size + 1, 0, none⟩ = some (.slice z.A z.xs.length z.c) ∧ X.cell? ⟨w.heap.size + 1 + 1, 0, none⟩ = some (.slice z.q.a1 z.d.hosts.length z.q.c1) ∧ X.cell? ⟨w.heap.size + 1 + 1, 1, none⟩ = some (.slice z.q.a2 z.d.reps.length z.q.c2)))
  have HX := Lib.hid (fun (X : World) (hX : Below W.heap.size W X) => X2.on hX (Nat.le_refl _))
  have HM0 := Lib.hid (fun (X : World) (hX : Below W.heap.size W X) => (box_on M0 hX (Nat.le_refl _) : X.heap[w.heap.size + 1 + 1 + 1]? = some (.cells #[.int .i64 k] 3 (0, 0))))
  have HKW := Lib.hid (Below.refl W.heap.size W)
  have hle := HB.out.size
  obtain ⟨n1, n2, n3, n4, n5, n6, n7, n8⟩ := hz.bounds
  have HCL := Lib.hid (fun (X : World) (hX : Below W.heap.size W X) => c_loadFeed z r0 hr0 w.heap.size (w.heap.size + 1 + 1 + 1) k X (HZ.out X hX) ((HX.out X hX).b1) (cell_of (HM0.out X hX) rfl) (at_lt (HM0.out X hX)) v hv)
  clear hr0 hv
  clear hz B0 X1 z3 Z0 B1 M0 z4 X2
  obtain ⟨f0, f1, f2, f3, f4, f5, f6, g0, g1, g2⟩ := HF.out W HKW.out
  have m00 := cell_of (HM0.out W HKW.out) (o := 0) rfl
  rw [h4, h3, h2, h1] at f0 f1 f2 f3 f4 f5 f6 g0 g1 g2 m00
  generalize hBB : w.heap.size = B at *
  go_enter Tryz.func16, Tryz.ntmps16
  go_wp2_with (fail)
  rw [← h1, ← h2, ← h3, ← h4]
  clear h1 h2 h3 h4 f0 f1 f2 f3 f4 f5 f6 g0 g1 g2 m00
  go_at_call 29
  refine (HCL.out W HKW.out).mono ?_
  rintro e v1 ⟨rfl, bb⟩
  have HKv1 := Lib.hid (below_join HKW.out bb HKW.out.size)
  clear bb
  go_wp2_with (fail)
  go_ret
  exact ⟨rfl, below_join HB.out HKv1.out hle⟩
end Go.Proofs.YtidpiokkfnhobaaGreat

namespace Go.Proofs.YtidpiokkfnhobaaGreat
open Go.RowKit
set_option maxRecDepth 100000
set_option linter.unusedVariables false
set_option linter.unusedSimpArgs false

set_option maxHeartbeats 16000000 in
theorem d_Watts (z : Sn) (r0 : Bool) (hr0 : r0 = true ↔ z.Ok) (k : Int) (w : World) (hz : SnAt w z) (v : Int) (hv : pwV z r0 (isHost k) = v) :
    Calls Tryz.prog 11 #[.agg #[.slice z.p.a1 z.s.feeds.length z.p.c1, .slice z.p.a2 z.s.brks.length z.p.c2, .slice z.p.a3 z.s.loops.length z.p.c3, .slice z.p.a4 z.s.racks.length z.p.c4, .int .i64 z.s.sw, .slice z.p.a5 z.s.links.length z.p.c5, .slice z.p.a6 z.s.hosts.length z.p.c6], .agg #[.slice z.A z.xs.length z.c], .agg #[.slice z.q.a1 z.d.hosts.length z.q.c1, .slice z.q.a2 z.d.reps.length z.q.c2], .int .i64 k] w fun e w' => e = .returned (.int .i64 v) ∧ Below w.heap.size w w' := by
  obtain ⟨W1, h1⟩ : ∃ W, W = w.alloc (.cells #[.slice z.p.a1 z.s.feeds.length z.p.c1, .slice z.p.a2 z.s.brks.length z.p.c2, .slice z.p.a3 z.s.loops.length z.p.c3, .slice z.p.a4 z.s.racks.length z.p.c4, .int .i64 z.s.sw, .slice z.p.a5 z.s.links.length z.p.c5, .slice z.p.a6 z.s.hosts.length z.p.c6] 29) := ⟨_, rfl⟩
  obtain ⟨W2, h2⟩ : ∃ W, W = W1.alloc (.cells #[.slice z.A z.xs.length z.c] 32) := ⟨_, rfl⟩
  obtain ⟨W, h3⟩ : ∃ W, W = W2.alloc (.cells #[.slice z.q.a1 z.d.hosts.length z.q.c1, .slice z.q.a2 z.d.reps.length z.q.c2] 36) := ⟨_, rfl⟩
  obtain ⟨B0, X1⟩ := sn_boxes h1 h2 h3
  have z3 : W.heap.size = w.heap.size + 1 + 1 + 1 := sn_size h1 h2 h3
  have HB := Lib.hid B0
  have Z0 := hz.on B0 (Nat.le_refl _)
  have HZ := Lib.hid (fun (X : World) (hX : Below W.heap.size W X) => Z0.on hX (Nat.le_refl _))
  have HF := Lib.hid (fun (X : World) (hX : Below W.heap.size W X) => ((X1.on hX (Nat.le_refl _)).cells : X.cell? ⟨w.heap.size, 0, none⟩ = some (.slice z.p.a1 z.s.feeds.length z.p.c1) ∧ X.cell? ⟨w.heap.size, 1, none⟩ = some (.slice z.p.a2 z.s.brks.length z.p.c2) ∧ X.cell? ⟨w.heap.size, 2, none⟩ = some (.slice z.p.a3 z.s.loops.length z.p.c3) ∧ X.cell? ⟨w.heap.size, 3, none⟩ = some (.slice z.p.a4 z.s.racks.length z.p.c4) ∧ X.cell? ⟨w.heap.size, 4, none⟩ = some (.int .i64 z.s.sw) ∧ X.cell? ⟨w.heap.size, 5, none⟩ = some (.slice z.p.a5 z.s.links.length z.p.c5) ∧ X.cell? ⟨w.heap.size, 6, none⟩ = some (.slice z.p.a6 z.s.hosts.length z.p.c6) ∧ X.cell? ⟨w.heap.size + 1, 0, none⟩ = some (.slice z.A z.xs.length z.c) ∧ X.cell? ⟨w.heap.size + 1 + 1, 0, none⟩ = some (.slice z.q.a1 z.d.hosts.length z.q.c1) ∧ X.cell? ⟨w.heap.size + 1 + 1, 1, none⟩ = some (.slice z.q.a2 z.d.reps.length z.q.c2)))
  have HX := Lib.hid (fun (X : World) (hX : Below W.heap.size W X) => X1.on hX (Nat.le_refl _))
  have HKW := Lib.hid (Below.refl W.heap.size W)
  have hle := HB.out.size
  obtain ⟨n1, n2, n3, n4, n5, n6, n7, n8⟩ := hz.bounds
  have HVV := Lib.hid (fun (X : World) (hX : SnAt X z) => c_wvTo z r0 hr0 X hX)
  have HV := Lib.hid hv
  have HR0 := Lib.hid hr0
  clear hr0 hv
  clear hz B0 X1 z3 Z0
  obtain ⟨f0, f1, f2, f3, f4, f5, f6, g0, g1, g2⟩ := HF.out W HKW.out
  rw [h3, h2, h1] at f0 f1 f2 f3 f4 f5 f6 g0 g1 g2
  generalize hBB : w.heap.size = B at *
  go_enter Tryz.func11, Tryz.ntmps11
  go_wp2_with (fail)
  rw [← h1, ← h2, ← h3]
  clear h1 h2 h3 f0 f1 f2 f3 f4 f5 f6 g0 g1 g2
  go_at_call 25
  refine (HVV.out W (HZ.out W HKW.out)).mono ?_
  rintro e v1 ⟨rfl, bb⟩
  have HKv1 := Lib.hid (below_join HKW.out bb HKW.out.size)
  clear bb
  cases r0
  · have HVE := Lib.hid (show (0 : Int) = v from HV.out)
    go_wp2_with (fail)
    go_ret
    exact ⟨(show Ending.returned (.int .i64 0) = .returned (.int .i64 v) by rw [HVE.out]), below_join HB.out HKv1.out hle⟩
  have HOK := Lib.hid (HR0.out.1 rfl)
  have HLV := Lib.hid (show (if 0 ≤ k ∧ k < z.s.hosts.length then watN z.s z.ss z.d k.toNat else 0) = v by rw [← load_host]; exact HV.out)
  obtain ⟨f0, f1, f2, f3, f4, f5, f6, g0, g1, g2⟩ := HF.out v1 HKv1.out
  rcases hk0 : decide (k < 0) with _ | _
  rotate_left
  · have HVE := Lib.hid (show (0 : Int) = v by rw [← HLV.out, if_neg]; have := of_decide_eq_true hk0; omega)
    go_wp2_with (fail)
    go_ret
    exact ⟨(show Ending.returned (.int .i64 0) = .returned (.int .i64 v) by rw [HVE.out]), below_join HB.out HKv1.out hle⟩
  have hk0' := of_decide_eq_false hk0
  rcases hk1 : decide ((z.s.hosts.length : Int) ≤ k) with _ | _
  rotate_left
  · have HVE := Lib.hid (show (0 : Int) = v by rw [← HLV.out, if_neg]; have := of_decide_eq_true hk1; omega)
    have hk1' := of_decide_eq_true hk1
    go_wp2_with (fail)
    go_ret
    exact ⟨(show Ending.returned (.int .i64 0) = .returned (.int .i64 v) by rw [HVE.out]), below_join HB.out HKv1.out hle⟩
  have hk1' := of_decide_eq_false hk1
  obtain ⟨m, rfl⟩ : ∃ m : Nat, k = m := ⟨k.toNat, by omega⟩
  have hlt : m < z.s.hosts.length := by omega
  have HLW := Lib.hid (show watN z.s z.ss z.d m = v by rw [← HLV.out, if_pos (by omega), Int.toNat_natCast])
  obtain ⟨x, y, hx, hy, -, bi, bp⟩ := host_ok HOK.out hlt
  have hdl : m < z.d.hosts.length := by have := HOK.out.2.2.1; omega
  have hki2 : (m : Int) < (z.s.hosts.length : Int) := by omega
  have hki3 : (m : Int) < (z.d.hosts.length : Int) := by omega
  have HXX := Lib.hid hx
  have HYY := Lib.hid hy
  have Z1 := HZ.out v1 HKv1.out
  obtain ⟨pb, po, e6, hpb, -, -, x2, x3⟩ := hs_at Z1 hx
  obtain ⟨qb, qo, e1, hqb, y0⟩ := ho_at Z1 hy
  clear Z1 hx hy hk0 hk1
  rw [e6] at f6
  rw [e1] at g1
  rcases h4 : ((y.phase : Int) == 4) with _ | _
  · obtain ⟨u, hu⟩ : ∃ u, usedD z.ss z.d.reps (m : Int) = u := ⟨_, rfl⟩
    have HU := Lib.hid hu
    have bu := used_bd HOK.out (m : Int)
    rw [show usedD (Sn.ss z) z.d.reps (m : Int) = u from hu] at bu
    obtain ⟨pr, hpr⟩ : ∃ t, x.per * u = t := ⟨_, rfl⟩
    have HPR := Lib.hid hpr
    have bpr : 0 ≤ pr ∧ pr ≤ 24000000 := by
      rw [← hpr]
      have p1 := Int.mul_nonneg bp.1 bu.1
      have p2 : x.per * u ≤ 1000 * u := Int.mul_le_mul_of_nonneg_right bp.2 bu.1
      omega
    have HVE := Lib.hid (show IntKind.i64.wrap (x.idle + IntKind.i64.wrap (x.per * u)) = v by
      rw [← HLW.out, HPR.out, wrap_in (x := pr) (by omega) (by omega), wrap_in (by omega) (by omega)]
      unfold watN
      rw [phAt_eq HYY.out, if_neg (by intro h; rw [h] at h4; simp at h4), hsAt_eq HXX.out, show usedD (Sn.ss z) z.d.reps (m : Int) = u from HU.out, HPR.out])
    have HF2 := Lib.hid (fun (X : World) (hX : Below W.heap.size W X) (h2 : X.cell? ⟨pb, po + m * 4 + 2, none⟩ = some (.int .i64 x.idle)) (h3 : X.cell? ⟨pb, po + m * 4 + 3, none⟩ = some (.int .i64 x.per)) => (⟨by rw [← e6]; exact HF.out X hX, h2, h3⟩ : (X.cell? ⟨B, 0, none⟩ = some (.slice z.p.a1 z.s.feeds.length z.p.c1) ∧ X.cell? ⟨B, 1, none⟩ = some (.slice z.p.a2 z.s.brks.length z.p.c2) ∧ X.cell? ⟨B, 2, none⟩ = some (.slice z.p.a3 z.s.loops.length z.p.c3) ∧ X.cell? ⟨B, 3, none⟩ = some (.slice z.p.a4 z.s.racks.length z.p.c4) ∧ X.cell? ⟨B, 4, none⟩ = some (.int .i64 z.s.sw) ∧ X.cell? ⟨B, 5, none⟩ = some (.slice z.p.a5 z.s.links.length z.p.c5) ∧ X.cell? ⟨B, 6, none⟩ = some (.slice (some ⟨pb, po, none⟩) z.s.hosts.length z.p.c6) ∧ X.cell? ⟨B + 1, 0, none⟩ = some (.slice z.A z.xs.length z.c) ∧ X.cell? ⟨B + 1 + 1, 0, none⟩ = some (.slice z.q.a1 z.d.hosts.length z.q.c1) ∧ X.cell? ⟨B + 1 + 1, 1, none⟩ = some (.slice z.q.a2 z.d.reps.length z.q.c2)) ∧ X.cell? ⟨pb, po + m * 4 + 2, none⟩ = some (.int .i64 x.idle) ∧ X.cell? ⟨pb, po + m * 4 + 3, none⟩ = some (.int .i64 x.per)))
    have HX2 := Lib.hid x2
    have HX3 := Lib.hid x3
    clear hu hpr e1 e6
    go_wp2_with (fail)
    go_region_held3 (fun X => (X.cell? ⟨B, 0, none⟩ = some (.slice z.p.a1 z.s.feeds.length z.p.c1) ∧ X.cell? ⟨B, 1, none⟩ = some (.slice z.p.a2 z.s.brks.length z.p.c2) ∧ X.cell? ⟨B, 2, none⟩ = some (.slice z.p.a3 z.s.loops.length z.p.c3) ∧ X.cell? ⟨B, 3, none⟩ = some (.slice z.p.a4 z.s.racks.length z.p.c4) ∧ X.cell? ⟨B, 4, none⟩ = some (.int .i64 z.s.sw) ∧ X.cell? ⟨B, 5, none⟩ = some (.slice z.p.a5 z.s.links.length z.p.c5) ∧ X.cell? ⟨B, 6, none⟩ = some (.slice (some ⟨pb, po, none⟩) z.s.hosts.length z.p.c6) ∧ X.cell? ⟨B + 1, 0, none⟩ = some (.slice z.A z.xs.length z.c) ∧ X.cell? ⟨B + 1 + 1, 0, none⟩ = some (.slice z.q.a1 z.d.hosts.length z.q.c1) ∧ X.cell? ⟨B + 1 + 1, 1, none⟩ = some (.slice z.q.a2 z.d.reps.length z.q.c2)) ∧ X.cell? ⟨pb, po + m * 4 + 2, none⟩ = some (.int .i64 x.idle) ∧ X.cell? ⟨pb, po + m * 4 + 3, none⟩ = some (.int .i64 x.per))
      (first | exact HF2.out v3 HK3.out Y2.out Y3.out | exact HF2.out v1 HKv1.out HX2.out HX3.out | fail)
      (first
        | (go_at_call 31; (with_reducible refine (c_wrUsedTo z (m : Int) u HU.out v1.drew (HZ.out v1.drew HKv1.out.drew)).mono ?_); rintro e v3 ⟨rfl, bb0⟩; have bb := below_join (Below.refl v1.heap.size v1).drew bb0 (Nat.le_refl _); have HK3 := Lib.hid (below_join HKv1.out bb HKv1.out.size); have Y2 := Lib.hid ((bb.cell (p := ⟨pb, po + m * 4 + 2, none⟩) hpb).trans HX2.out); have Y3 := Lib.hid ((bb.cell (p := ⟨pb, po + m * 4 + 3, none⟩) hpb).trans HX3.out); clear bb bb0)
        | fail)
    go_wp2_with (fail)
    go_ret
    exact ⟨(show Ending.returned (.int .i64 (IntKind.i64.wrap (x.idle + IntKind.i64.wrap (x.per * u)))) = .returned (.int .i64 v) by rw [HVE.out]), below_join HB.out HK3.out hle⟩
  · have HVE := Lib.hid (show (0 : Int) = v by
      rw [← HLW.out]; unfold watN
      rw [phAt_eq HYY.out, if_pos (by have := eq_of_beq h4; omega)])
    go_wp2_with (fail)
    go_ret
    exact ⟨(show Ending.returned (.int .i64 0) = .returned (.int .i64 v) by rw [HVE.out]), below_join HB.out HKv1.out hle⟩
end Go.Proofs.YtidpiokkfnhobaaGreat

namespace Go.Proofs.YtidpiokkfnhobaaGreat
open Go.RowKit
set_option maxRecDepth 100000
set_option linter.unusedVariables false
set_option linter.unusedSimpArgs false

theorem pw_zero (z : Sn) (b : Nat → Bool) : pwV z false b = 0 := rfl
theorem pw_yes (z : Sn) (b : Nat → Bool) : pwV z true b = loadN z.s z.ss z.d b := rfl
theorem pw_bd {z : Sn} {r0 : Bool} (hr0 : r0 = true ↔ z.Ok) (b : Nat → Bool) : 0 ≤ pwV z r0 b ∧ pwV z r0 b ≤ 24160000 := by
  cases r0
  · rw [pw_zero]; omega
  · exact load_bd (hr0.1 rfl) b
def parts (z : Sn) (r0 : Bool) (c : Nat → Bool) (f : Nat → Nat → Bool) (m : Nat) : Int := sumN (fun i => if c i = true then pwV z r0 (f i) else 0) m
theorem parts_bd {z : Sn} {r0 : Bool} (hr0 : r0 = true ↔ z.Ok) (c : Nat → Bool) (f : Nat → Nat → Bool) {m : Nat} (hm : z.Ok → m ≤ 16) : 0 ≤ parts z r0 c f m ∧ parts z r0 c f m ≤ 400000000 := by
  unfold parts
  cases r0
  · rw [sumN_ext (g := fun _ => 0) (fun i _ => by rw [pw_zero]; simp), sumN_zero]; omega
  · have h := sumN_bound (f := fun i => if c i = true then pwV z true (f i) else 0) (m := 24160000) (n := m) (fun i _ => by have := pw_bd hr0 (f i); split <;> omega)
    have := hm (hr0.1 rfl)
    exact ⟨h.1, by omega⟩
theorem parts_yes {z : Sn} {r0 : Bool} {c : Nat → Bool} {f : Nat → Nat → Bool} {m : Nat} (h : c m = true) : parts z r0 c f (m + 1) = parts z r0 c f m + pwV z r0 (f m) := by unfold parts; rw [sumN, if_pos h]
theorem parts_no {z : Sn} {r0 : Bool} {c : Nat → Bool} {f : Nat → Nat → Bool} {m : Nat} (h : c m = false) : parts z r0 c f (m + 1) = parts z r0 c f m := by unfold parts; rw [sumN, h]; simp
def rkB_is (s : SiteD) (k : Int) (i : Nat) : Bool := rkB s i == k
def bkF_is (s : SiteD) (k : Int) (i : Nat) : Bool := bkF s i == k
theorem parts_rack {z : Sn} {r0 : Bool} (hr0 : r0 = true ↔ z.Ok) (k : Int) : parts z r0 (isRack z.s k) (fun i => isHost (i : Int)) z.s.hosts.length = pwV z r0 (isRack z.s k) := by
  unfold parts
  cases r0
  · rw [sumN_ext (g := fun _ => 0) (fun i _ => by rw [pw_zero]; simp), sumN_zero]; rfl
  · rw [pw_yes]
    unfold loadN
    refine sumN_ext fun i hi => ?_
    have e : pwV z true (isHost (i : Int)) = watN z.s z.ss z.d i := by rw [pw_yes, load_host, if_pos (by omega), Int.toNat_natCast]
    rw [e]
theorem parts_brk {z : Sn} {r0 : Bool} (hr0 : r0 = true ↔ z.Ok) (k : Int) : parts z r0 (rkB_is z.s k) (fun i => isRack z.s (i : Int)) z.s.racks.length = pwV z r0 (isBrk z.s k) := by
  unfold parts
  cases r0
  · rw [sumN_ext (g := fun _ => 0) (fun i _ => by rw [pw_zero]; simp), sumN_zero]; rfl
  · rw [pw_yes, ← load_brk (hr0.1 rfl)]
    exact sumN_ext fun i hi => by unfold rkB_is; rw [pw_yes]; simp only [beq_iff_eq]
theorem parts_feed {z : Sn} {r0 : Bool} (hr0 : r0 = true ↔ z.Ok) (k : Int) : parts z r0 (bkF_is z.s k) (fun i => isBrk z.s (i : Int)) z.s.brks.length = pwV z r0 (isFeed z.s k) := by
  unfold parts
  cases r0
  · rw [sumN_ext (g := fun _ => 0) (fun i _ => by rw [pw_zero]; simp), sumN_zero]; rfl
  · rw [pw_yes, ← load_feed (hr0.1 rfl)]
    exact sumN_ext fun i hi => by unfold bkF_is; rw [pw_yes]; simp only [beq_iff_eq]
set_option maxHeartbeats 8000000 in
theorem d_OfRack (z : Sn) (r0 : Bool) (hr0 : r0 = true ↔ z.Ok) (k : Int) (w : World) (hz : SnAt w z) (v : Int) (hv : pwV z r0 (isRack z.s k) = v) :
    Calls Tryz.prog 13 #[.agg #[.slice z.p.a1 z.s.feeds.length z.p.c1, .slice z.p.a2 z.s.brks.length z.p.c2, .slice z.p.a3 z.s.loops.length z.p.c3, .slice z.p.a4 z.s.racks.length z.p.c4, .int .i64 z.s.sw, .slice z.p.a5 z.s.links.length z.p.c5, .slice z.p.a6 z.s.hosts.length z.p.c6], .agg #[.slice z.A z.xs.length z.c], .agg #[.slice z.q.a1 z.d.hosts.length z.q.c1, .slice z.q.a2 z.d.reps.length z.q.c2], .int .i64 k] w fun e w' => e = .returned (.int .i64 v) ∧ Below w.heap.size w w' := by
  obtain ⟨W1, h1⟩ : ∃ W, W = w.alloc (.cells #[.slice z.p.a1 z.s.feeds.length z.p.c1, .slice z.p.a2 z.s.brks.length z.p.c2, .slice z.p.a3 z.s.loops.length z.p.c3, .slice z.p.a4 z.s.racks.length z.p.c4, .int .i64 z.s.sw, .slice z.p.a5 z.s.links.length z.p.c5, .slice z.p.a6 z.s.hosts.length z.p.c6] 29) := ⟨_, rfl⟩
  obtain ⟨W2, h2⟩ : ∃ W, W = W1.alloc (.cells #[.slice z.A z.xs.length z.c] 32) := ⟨_, rfl⟩
  obtain ⟨W, h3⟩ : ∃ W, W = W2.alloc (.cells #[.slice z.q.a1 z.d.hosts.length z.q.c1, .slice z.q.a2 z.d.reps.length z.q.c2] 36) := ⟨_, rfl⟩
  obtain ⟨B0, X1⟩ := sn_boxes h1 h2 h3
  have z3 : W.heap.size = w.heap.size + 1 + 1 + 1 := sn_size h1 h2 h3
  have HB := Lib.hid B0
  have Z0 := hz.on B0 (Nat.le_refl _)
  have HZ := Lib.hid (fun (X : World) (hX : Below W.heap.size W X) => Z0.on hX (Nat.le_refl _))
  have HF := Lib.hid (fun (X : World) (hX : Below W.heap.size W X) => ((X1.on hX (Nat.le_refl _)).cells : X.cell? ⟨w.heap.size, 0, none⟩ = some (.slice z.p.a1 z.s.feeds.length z.p.c1) ∧ X.cell? ⟨w.heap.size, 1, none⟩ = some (.slice z.p.a2 z.s.brks.length z.p.c2) ∧ X.cell? ⟨w.heap.size, 2, none⟩ = some (.slice z.p.a3 z.s.loops.length z.p.c3) ∧ X.cell? ⟨w.heap.size, 3, none⟩ = some (.slice z.p.a4 z.s.racks.length z.p.c4) ∧ X.cell? ⟨w.heap.size, 4, none⟩ = some (.int .i64 z.s.sw) ∧ X.cell? ⟨w.heap.size, 5, none⟩ = some (.slice z.p.a5 z.s.links.length z.p.c5) ∧ X.cell? ⟨w.heap.size, 6, none⟩ = some (.slice z.p.a6 z.s.hosts.length z.p.c6) ∧ X.cell? ⟨w.heap.size + 1, 0, none⟩ = some (.slice z.A z.xs.length z.c) ∧ X.cell? ⟨w.heap.size + 1 + 1, 0, none⟩ = some (.slice z.q.a1 z.d.hosts.length z.q.c1) ∧ X.cell? ⟨w.heap.size + 1 + 1, 1, none⟩ = some (.slice z.q.a2 z.d.reps.length z.q.c2)))
  have HX := Lib.hid (fun (X : World) (hX : Below W.heap.size W X) => X1.on hX (Nat.le_refl _))
  have HKW := Lib.hid (Below.refl W.heap.size W)
  have hle := HB.out.size
  obtain ⟨n1, n2, n3, n4, n5, n6, n7, n8⟩ := hz.bounds
  obtain ⟨cc, hcc⟩ : ∃ g, g = isRack z.s k := ⟨_, rfl⟩
  obtain ⟨ff, hff⟩ : ∃ g : Nat → Nat → Bool, g = fun (i : Nat) => isHost (i : Int) := ⟨_, rfl⟩
  have HCL := Lib.hid (fun (X : World) (hX : SnAt X z) (i : Nat) => (d_Watts z r0 hr0 (i : Int) X hX (pwV z r0 ((fun (i : Nat) => isHost (i : Int)) i)) rfl))
  have HVE := Lib.hid (show parts z r0 (isRack z.s k) (fun (i : Nat) => isHost (i : Int)) z.s.hosts.length = v by rw [parts_rack hr0, hv])
  have HBD := Lib.hid (fun (m : Nat) (hm : m ≤ z.s.hosts.length) => parts_bd (c := cc) (f := ff) hr0 (m := m) (fun ok => by have := (siteOk_iff.1 ok.1).nhosts.2; omega))
  have HBP := Lib.hid (fun (i : Nat) => pw_bd hr0 (ff i))
  have HCX := Lib.hid (fun (i : Nat) x (HX : z.s.hosts[i]? = some x) => (by have HXX := Lib.hid HX; unfold isRack rackAt; rw [HXX.out]; rfl : (isRack z.s k) i = (x.rack == k)))
  rw [← hcc] at HVE HCX
  rw [← hff] at HVE HCL
  clear hr0 hv hcc hff
  clear hz B0 X1 z3 Z0
  obtain ⟨f0, f1, f2, f3, f4, f5, f6, g0, g1, g2⟩ := HF.out W HKW.out
  rw [h3, h2, h1] at f0 f1 f2 f3 f4 f5 f6 g0 g1 g2
  generalize hBB : w.heap.size = B at *
  go_enter Tryz.func13, Tryz.ntmps13
  go_wp2_with (fail)
  rw [← h1, ← h2, ← h3]
  clear h1 h2 h3 f0 f1 f2 f3 f4 f5 f6 g0 g1 g2
  go_loopw [9, 10] (fun sm i wr => ∃ m : Nat, m ≤ z.s.hosts.length ∧ sm = .int .i64 (parts z r0 cc ff m) ∧ i = .int .i64 (m : Int) ∧ Hid (Below W.heap.size W wr)) (fun _ i _ => z.s.hosts.length - (intOf i).toNat)
  case atStart => exact ⟨0, Nat.zero_le _, rfl, rfl, HKW⟩
  case round =>
    obtain ⟨m, hm, rfl, rfl, hK⟩ := hrel
    have hmi : ((m : Nat) : Int).toNat = m := by omega
    have bS := HBD.out m hm
    obtain ⟨S, hS⟩ : ∃ S, parts z r0 cc ff m = S := ⟨_, rfl⟩
    have HS := Lib.hid hS
    rw [hS] at bS
    rw [hS]
    clear hS
    obtain ⟨f0, f1, f2, f3, f4, f5, f6, g0, g1, g2⟩ := HF.out wr hK.out
    by_cases hlt : m < z.s.hosts.length
    · obtain ⟨x, hx⟩ : ∃ x, z.s.hosts[m]? = some x := ⟨_, List.getElem?_eq_getElem hlt⟩
      have HXX := Lib.hid hx
      obtain ⟨pb, po, e6, hpb, x0, -, -, -⟩ := hs_at (HZ.out wr hK.out) hx
      have hmi2 : (m : Int) < (z.s.hosts.length : Int) := by omega
      have HEA := Lib.hid e6
      have f6' := f6
      rw [e6] at f6'
      clear hx e6 f6
      rcases hp : (x.rack == k) with _ | _
      · have HSN := Lib.hid (parts_no (z := z) (r0 := r0) (c := cc) (f := ff) (m := m) (by rw [HCX.out m x HXX.out, hp]))
        go_wp2_with (fail)
        go_roundw
        case rel => exact ⟨m + 1, by omega, by rw [HSN.out, HS.out], by go_num, hK⟩
        case measure => simp only [intOf]; omega
      · have HSY := Lib.hid (parts_yes (z := z) (r0 := r0) (c := cc) (f := ff) (m := m) (by rw [HCX.out m x HXX.out, hp]))
        have bp := HBP.out m
        obtain ⟨t, ht⟩ : ∃ t, pwV z r0 (ff m) = t := ⟨_, rfl⟩
        have HC := Lib.hid (HCL.out wr (HZ.out wr hK.out) m)
        rw [ht] at HC bp
        have HT := Lib.hid ht
        clear ht
        go_wp2_with (fail)
        rw [HEA.out.symm]
        go_at_call 11
        refine HC.out.mono ?_
        rintro e v2 ⟨rfl, bb⟩
        have HK2 := Lib.hid (below_join hK.out bb hK.out.size)
        clear bb
        go_wp2_with (fail)
        go_roundw
        case rel => exact ⟨m + 1, by omega, by rw [HSY.out, HS.out, HT.out], by go_num, HK2⟩
        case measure => simp only [intOf]; omega
    · obtain rfl : m = z.s.hosts.length := by omega
      have HVS := Lib.hid (show S = v by rw [← HVE.out, HS.out])
      go_wp2_with (fail)
      go_ret
      exact ⟨(show Ending.returned (.int .i64 S) = .returned (.int .i64 v) by rw [HVS.out]), below_join HB.out hK.out hle⟩
set_option maxHeartbeats 8000000 in
theorem d_OfBreaker (z : Sn) (r0 : Bool) (hr0 : r0 = true ↔ z.Ok) (k : Int) (w : World) (hz : SnAt w z) (v : Int) (hv : pwV z r0 (isBrk z.s k) = v) :
    Calls Tryz.prog 15 #[.agg #[.slice z.p.a1 z.s.feeds.length z.p.c1, .slice z.p.a2 z.s.brks.length z.p.c2, .slice z.p.a3 z.s.loops.length z.p.c3, .slice z.p.a4 z.s.racks.length z.p.c4, .int .i64 z.s.sw, .slice z.p.a5 z.s.links.length z.p.c5, .slice z.p.a6 z.s.hosts.length z.p.c6], .agg #[.slice z.A z.xs.length z.c], .agg #[.slice z.q.a1 z.d.hosts.length z.q.c1, .slice z.q.a2 z.d.reps.length z.q.c2], .int .i64 k] w fun e w' => e = .returned (.int .i64 v) ∧ Below w.heap.size w w' := by
  obtain ⟨W1, h1⟩ : ∃ W, W = w.alloc (.cells #[.slice z.p.a1 z.s.feeds.length z.p.c1, .slice z.p.a2 z.s.brks.length z.p.c2, .slice z.p.a3 z.s.loops.length z.p.c3, .slice z.p.a4 z.s.racks.length z.p.c4, .int .i64 z.s.sw, .slice z.p.a5 z.s.links.length z.p.c5, .slice z.p.a6 z.s.hosts.length z.p.c6] 29) := ⟨_, rfl⟩
  obtain ⟨W2, h2⟩ : ∃ W, W = W1.alloc (.cells #[.slice z.A z.xs.length z.c] 32) := ⟨_, rfl⟩
  obtain ⟨W, h3⟩ : ∃ W, W = W2.alloc (.cells #[.slice z.q.a1 z.d.hosts.length z.q.c1, .slice z.q.a2 z.d.reps.length z.q.c2] 36) := ⟨_, rfl⟩
  obtain ⟨B0, X1⟩ := sn_boxes h1 h2 h3
  have z3 : W.heap.size = w.heap.size + 1 + 1 + 1 := sn_size h1 h2 h3
  have HB := Lib.hid B0
  have Z0 := hz.on B0 (Nat.le_refl _)
  have HZ := Lib.hid (fun (X : World) (hX : Below W.heap.size W X) => Z0.on hX (Nat.le_refl _))
  have HF := Lib.hid (fun (X : World) (hX : Below W.heap.size W X) => ((X1.on hX (Nat.le_refl _)).cells : X.cell? ⟨w.heap.size, 0, none⟩ = some (.slice z.p.a1 z.s.feeds.length z.p.c1) ∧ X.cell? ⟨w.heap.size, 1, none⟩ = some (.slice z.p.a2 z.s.brks.length z.p.c2) ∧ X.cell? ⟨w.heap.size, 2, none⟩ = some (.slice z.p.a3 z.s.loops.length z.p.c3) ∧ X.cell? ⟨w.heap.size, 3, none⟩ = some (.slice z.p.a4 z.s.racks.length z.p.c4) ∧ X.cell? ⟨w.heap.size, 4, none⟩ = some (.int .i64 z.s.sw) ∧ X.cell? ⟨w.heap.size, 5, none⟩ = some (.slice z.p.a5 z.s.links.length z.p.c5) ∧ X.cell? ⟨w.heap.size, 6, none⟩ = some (.slice z.p.a6 z.s.hosts.length z.p.c6) ∧ X.cell? ⟨w.heap.size + 1, 0, none⟩ = some (.slice z.A z.xs.length z.c) ∧ X.cell? ⟨w.heap.size + 1 + 1, 0, none⟩ = some (.slice z.q.a1 z.d.hosts.length z.q.c1) ∧ X.cell? ⟨w.heap.size + 1 + 1, 1, none⟩ = some (.slice z.q.a2 z.d.reps.length z.q.c2)))
  have HX := Lib.hid (fun (X : World) (hX : Below W.heap.size W X) => X1.on hX (Nat.le_refl _))
  have HKW := Lib.hid (Below.refl W.heap.size W)
  have hle := HB.out.size
  obtain ⟨n1, n2, n3, n4, n5, n6, n7, n8⟩ := hz.bounds
  obtain ⟨cc, hcc⟩ : ∃ g, g = rkB_is z.s k := ⟨_, rfl⟩
  obtain ⟨ff, hff⟩ : ∃ g : Nat → Nat → Bool, g = fun (i : Nat) => isRack z.s (i : Int) := ⟨_, rfl⟩
  have HCL := Lib.hid (fun (X : World) (hX : SnAt X z) (i : Nat) => (d_OfRack z r0 hr0 (i : Int) X hX (pwV z r0 ((fun (i : Nat) => isRack z.s (i : Int)) i)) rfl))
  have HVE := Lib.hid (show parts z r0 (rkB_is z.s k) (fun (i : Nat) => isRack z.s (i : Int)) z.s.racks.length = v by rw [parts_brk hr0, hv])
  have HBD := Lib.hid (fun (m : Nat) (hm : m ≤ z.s.racks.length) => parts_bd (c := cc) (f := ff) hr0 (m := m) (fun ok => by have := (siteOk_iff.1 ok.1).nracks.2; omega))
  have HBP := Lib.hid (fun (i : Nat) => pw_bd hr0 (ff i))
  have HCX := Lib.hid (fun (i : Nat) x (HX : z.s.racks[i]? = some x) => (by have HXX := Lib.hid HX; unfold rkB_is rkB; rw [HXX.out]; rfl : (rkB_is z.s k) i = (x.brk == k)))
  rw [← hcc] at HVE HCX
  rw [← hff] at HVE HCL
  clear hr0 hv hcc hff
  clear hz B0 X1 z3 Z0
  obtain ⟨f0, f1, f2, f3, f4, f5, f6, g0, g1, g2⟩ := HF.out W HKW.out
  rw [h3, h2, h1] at f0 f1 f2 f3 f4 f5 f6 g0 g1 g2
  generalize hBB : w.heap.size = B at *
  go_enter Tryz.func15, Tryz.ntmps15
  go_wp2_with (fail)
  rw [← h1, ← h2, ← h3]
  clear h1 h2 h3 f0 f1 f2 f3 f4 f5 f6 g0 g1 g2
  go_loopw [9, 10] (fun sm i wr => ∃ m : Nat, m ≤ z.s.racks.length ∧ sm = .int .i64 (parts z r0 cc ff m) ∧ i = .int .i64 (m : Int) ∧ Hid (Below W.heap.size W wr)) (fun _ i _ => z.s.racks.length - (intOf i).toNat)
  case atStart => exact ⟨0, Nat.zero_le _, rfl, rfl, HKW⟩
  case round =>
    obtain ⟨m, hm, rfl, rfl, hK⟩ := hrel
    have hmi : ((m : Nat) : Int).toNat = m := by omega
    have bS := HBD.out m hm
    obtain ⟨S, hS⟩ : ∃ S, parts z r0 cc ff m = S := ⟨_, rfl⟩
    have HS := Lib.hid hS
    rw [hS] at bS
    rw [hS]
    clear hS
    obtain ⟨f0, f1, f2, f3, f4, f5, f6, g0, g1, g2⟩ := HF.out wr hK.out
    by_cases hlt : m < z.s.racks.length
    · obtain ⟨x, hx⟩ : ∃ x, z.s.racks[m]? = some x := ⟨_, List.getElem?_eq_getElem hlt⟩
      have HXX := Lib.hid hx
      obtain ⟨pb, po, e6, hpb, x0⟩ := rk_at (HZ.out wr hK.out) hx
      have hmi2 : (m : Int) < (z.s.racks.length : Int) := by omega
      have HEA := Lib.hid e6
      have f3' := f3
      rw [e6] at f3'
      clear hx e6 f3
      rcases hp : (x.brk == k) with _ | _
      · have HSN := Lib.hid (parts_no (z := z) (r0 := r0) (c := cc) (f := ff) (m := m) (by rw [HCX.out m x HXX.out, hp]))
        go_wp2_with (fail)
        go_roundw
        case rel => exact ⟨m + 1, by omega, by rw [HSN.out, HS.out], by go_num, hK⟩
        case measure => simp only [intOf]; omega
      · have HSY := Lib.hid (parts_yes (z := z) (r0 := r0) (c := cc) (f := ff) (m := m) (by rw [HCX.out m x HXX.out, hp]))
        have bp := HBP.out m
        obtain ⟨t, ht⟩ : ∃ t, pwV z r0 (ff m) = t := ⟨_, rfl⟩
        have HC := Lib.hid (HCL.out wr (HZ.out wr hK.out) m)
        rw [ht] at HC bp
        have HT := Lib.hid ht
        clear ht
        go_wp2_with (fail)
        rw [HEA.out.symm]
        go_at_call 13
        refine HC.out.mono ?_
        rintro e v2 ⟨rfl, bb⟩
        have HK2 := Lib.hid (below_join hK.out bb hK.out.size)
        clear bb
        go_wp2_with (fail)
        go_roundw
        case rel => exact ⟨m + 1, by omega, by rw [HSY.out, HS.out, HT.out], by go_num, HK2⟩
        case measure => simp only [intOf]; omega
    · obtain rfl : m = z.s.racks.length := by omega
      have HVS := Lib.hid (show S = v by rw [← HVE.out, HS.out])
      go_wp2_with (fail)
      go_ret
      exact ⟨(show Ending.returned (.int .i64 S) = .returned (.int .i64 v) by rw [HVS.out]), below_join HB.out hK.out hle⟩
set_option maxHeartbeats 8000000 in
theorem d_OfFeed (z : Sn) (r0 : Bool) (hr0 : r0 = true ↔ z.Ok) (k : Int) (w : World) (hz : SnAt w z) (v : Int) (hv : pwV z r0 (isFeed z.s k) = v) :
    Calls Tryz.prog 17 #[.agg #[.slice z.p.a1 z.s.feeds.length z.p.c1, .slice z.p.a2 z.s.brks.length z.p.c2, .slice z.p.a3 z.s.loops.length z.p.c3, .slice z.p.a4 z.s.racks.length z.p.c4, .int .i64 z.s.sw, .slice z.p.a5 z.s.links.length z.p.c5, .slice z.p.a6 z.s.hosts.length z.p.c6], .agg #[.slice z.A z.xs.length z.c], .agg #[.slice z.q.a1 z.d.hosts.length z.q.c1, .slice z.q.a2 z.d.reps.length z.q.c2], .int .i64 k] w fun e w' => e = .returned (.int .i64 v) ∧ Below w.heap.size w w' := by
  obtain ⟨W1, h1⟩ : ∃ W, W = w.alloc (.cells #[.slice z.p.a1 z.s.feeds.length z.p.c1, .slice z.p.a2 z.s.brks.length z.p.c2, .slice z.p.a3 z.s.loops.length z.p.c3, .slice z.p.a4 z.s.racks.length z.p.c4, .int .i64 z.s.sw, .slice z.p.a5 z.s.links.length z.p.c5, .slice z.p.a6 z.s.hosts.length z.p.c6] 29) := ⟨_, rfl⟩
  obtain ⟨W2, h2⟩ : ∃ W, W = W1.alloc (.cells #[.slice z.A z.xs.length z.c] 32) := ⟨_, rfl⟩
  obtain ⟨W, h3⟩ : ∃ W, W = W2.alloc (.cells #[.slice z.q.a1 z.d.hosts.length z.q.c1, .slice z.q.a2 z.d.reps.length z.q.c2] 36) := ⟨_, rfl⟩
  obtain ⟨B0, X1⟩ := sn_boxes h1 h2 h3
  have z3 : W.heap.size = w.heap.size + 1 + 1 + 1 := sn_size h1 h2 h3
  have HB := Lib.hid B0
  have Z0 := hz.on B0 (Nat.le_refl _)
  have HZ := Lib.hid (fun (X : World) (hX : Below W.heap.size W X) => Z0.on hX (Nat.le_refl _))
  have HF := Lib.hid (fun (X : World) (hX : Below W.heap.size W X) => ((X1.on hX (Nat.le_refl _)).cells : X.cell? ⟨w.heap.size, 0, none⟩ = some (.slice z.p.a1 z.s.feeds.length z.p.c1) ∧ X.cell? ⟨w.heap.size, 1, none⟩ = some (.slice z.p.a2 z.s.brks.length z.p.c2) ∧ X.cell? ⟨w.heap.size, 2, none⟩ = some (.slice z.p.a3 z.s.loops.length z.p.c3) ∧ X.cell? ⟨w.heap.size, 3, none⟩ = some (.slice z.p.a4 z.s.racks.length z.p.c4) ∧ X.cell? ⟨w.heap.size, 4, none⟩ = some (.int .i64 z.s.sw) ∧ X.cell? ⟨w.heap.size, 5, none⟩ = some (.slice z.p.a5 z.s.links.length z.p.c5) ∧ X.cell? ⟨w.heap.size, 6, none⟩ = some (.slice z.p.a6 z.s.hosts.length z.p.c6) ∧ X.cell? ⟨w.heap.size + 1, 0, none⟩ = some (.slice z.A z.xs.length z.c) ∧ X.cell? ⟨w.heap.size + 1 + 1, 0, none⟩ = some (.slice z.q.a1 z.d.hosts.length z.q.c1) ∧ X.cell? ⟨w.heap.size + 1 + 1, 1, none⟩ = some (.slice z.q.a2 z.d.reps.length z.q.c2)))
  have HX := Lib.hid (fun (X : World) (hX : Below W.heap.size W X) => X1.on hX (Nat.le_refl _))
  have HKW := Lib.hid (Below.refl W.heap.size W)
  have hle := HB.out.size
  obtain ⟨n1, n2, n3, n4, n5, n6, n7, n8⟩ := hz.bounds
  obtain ⟨cc, hcc⟩ : ∃ g, g = bkF_is z.s k := ⟨_, rfl⟩
  obtain ⟨ff, hff⟩ : ∃ g : Nat → Nat → Bool, g = fun (i : Nat) => isBrk z.s (i : Int) := ⟨_, rfl⟩
  have HCL := Lib.hid (fun (X : World) (hX : SnAt X z) (i : Nat) => (d_OfBreaker z r0 hr0 (i : Int) X hX (pwV z r0 ((fun (i : Nat) => isBrk z.s (i : Int)) i)) rfl))
  have HVE := Lib.hid (show parts z r0 (bkF_is z.s k) (fun (i : Nat) => isBrk z.s (i : Int)) z.s.brks.length = v by rw [parts_feed hr0, hv])
  have HBD := Lib.hid (fun (m : Nat) (hm : m ≤ z.s.brks.length) => parts_bd (c := cc) (f := ff) hr0 (m := m) (fun ok => by have := (siteOk_iff.1 ok.1).nbrks.2; omega))
  have HBP := Lib.hid (fun (i : Nat) => pw_bd hr0 (ff i))
  have HCX := Lib.hid (fun (i : Nat) x (HX : z.s.brks[i]? = some x) => (by have HXX := Lib.hid HX; unfold bkF_is bkF; rw [HXX.out]; rfl : (bkF_is z.s k) i = (x.feed == k)))
  rw [← hcc] at HVE HCX
  rw [← hff] at HVE HCL
  clear hr0 hv hcc hff
  clear hz B0 X1 z3 Z0
  obtain ⟨f0, f1, f2, f3, f4, f5, f6, g0, g1, g2⟩ := HF.out W HKW.out
  rw [h3, h2, h1] at f0 f1 f2 f3 f4 f5 f6 g0 g1 g2
  generalize hBB : w.heap.size = B at *
  go_enter Tryz.func17, Tryz.ntmps17
  go_wp2_with (fail)
  rw [← h1, ← h2, ← h3]
  clear h1 h2 h3 f0 f1 f2 f3 f4 f5 f6 g0 g1 g2
  go_loopw [9, 10] (fun sm i wr => ∃ m : Nat, m ≤ z.s.brks.length ∧ sm = .int .i64 (parts z r0 cc ff m) ∧ i = .int .i64 (m : Int) ∧ Hid (Below W.heap.size W wr)) (fun _ i _ => z.s.brks.length - (intOf i).toNat)
  case atStart => exact ⟨0, Nat.zero_le _, rfl, rfl, HKW⟩
  case round =>
    obtain ⟨m, hm, rfl, rfl, hK⟩ := hrel
    have hmi : ((m : Nat) : Int).toNat = m := by omega
    have bS := HBD.out m hm
    obtain ⟨S, hS⟩ : ∃ S, parts z r0 cc ff m = S := ⟨_, rfl⟩
    have HS := Lib.hid hS
    rw [hS] at bS
    rw [hS]
    clear hS
    obtain ⟨f0, f1, f2, f3, f4, f5, f6, g0, g1, g2⟩ := HF.out wr hK.out
    by_cases hlt : m < z.s.brks.length
    · obtain ⟨x, hx⟩ : ∃ x, z.s.brks[m]? = some x := ⟨_, List.getElem?_eq_getElem hlt⟩
      have HXX := Lib.hid hx
      obtain ⟨pb, po, e6, hpb, x0, -, -, -⟩ := bk_at (HZ.out wr hK.out) hx
      have hmi2 : (m : Int) < (z.s.brks.length : Int) := by omega
      have HEA := Lib.hid e6
      have f1' := f1
      rw [e6] at f1'
      clear hx e6 f1
      rcases hp : (x.feed == k) with _ | _
      · have HSN := Lib.hid (parts_no (z := z) (r0 := r0) (c := cc) (f := ff) (m := m) (by rw [HCX.out m x HXX.out, hp]))
        go_wp2_with (fail)
        go_roundw
        case rel => exact ⟨m + 1, by omega, by rw [HSN.out, HS.out], by go_num, hK⟩
        case measure => simp only [intOf]; omega
      · have HSY := Lib.hid (parts_yes (z := z) (r0 := r0) (c := cc) (f := ff) (m := m) (by rw [HCX.out m x HXX.out, hp]))
        have bp := HBP.out m
        obtain ⟨t, ht⟩ : ∃ t, pwV z r0 (ff m) = t := ⟨_, rfl⟩
        have HC := Lib.hid (HCL.out wr (HZ.out wr hK.out) m)
        rw [ht] at HC bp
        have HT := Lib.hid ht
        clear ht
        go_wp2_with (fail)
        rw [HEA.out.symm]
        go_at_call 15
        refine HC.out.mono ?_
        rintro e v2 ⟨rfl, bb⟩
        have HK2 := Lib.hid (below_join hK.out bb hK.out.size)
        clear bb
        go_wp2_with (fail)
        go_roundw
        case rel => exact ⟨m + 1, by omega, by rw [HSY.out, HS.out, HT.out], by go_num, HK2⟩
        case measure => simp only [intOf]; omega
    · obtain rfl : m = z.s.brks.length := by omega
      have HVS := Lib.hid (show S = v by rw [← HVE.out, HS.out])
      go_wp2_with (fail)
      go_ret
      exact ⟨(show Ending.returned (.int .i64 S) = .returned (.int .i64 v) by rw [HVS.out]), below_join HB.out hK.out hle⟩
end Go.Proofs.YtidpiokkfnhobaaGreat

namespace Go.Proofs.YtidpiokkfnhobaaGreat
open Go.RowKit
set_option maxRecDepth 100000
set_option linter.unusedVariables false
set_option linter.unusedSimpArgs false

def bkAt (s : SiteD) (i : Nat) : Brk := (s.brks[i]?).getD ⟨0, 0, 0, 0⟩
theorem bkAt_eq {s : SiteD} {i : Nat} {x : Brk} (h : s.brks[i]? = some x) : bkAt s i = x := by unfold bkAt; rw [h]; rfl
/-- How long a breaker bears its load. -/
def bearV (z : Sn) (r0 : Bool) (b : Int) : Int := if r0 = true ∧ 0 ≤ b ∧ b < z.s.brks.length then (v7.lastsP (bkAt z.s b.toNat).limit (bkAt z.s b.toNat).slow (max (bkAt z.s b.toNat).fast (bkAt z.s b.toNat).limit) 0 (pwV z r0 (isBrk z.s b))).1 else 0
theorem lastsTo (f L S F q p y r : Int) (hr : v7.lastsP L S F q p = (y, r)) (w : World) :
    Calls Tryz.prog 40 #[.agg #[.int .i64 f, .int .i64 L, .int .i64 S, .int .i64 F], .int .i64 q, .int .i64 p] w fun e w' => e = .returned (.tuple #[.int .i64 y, .int .i64 r]) ∧ Below w.heap.size w w' := v7.c_Lasts f L S F q p y r hr w
theorem rLastsTo (f L S F q p y r : Int) (hr : v7.lastsP L S F q p = (y, r)) (w : World) :
    Calls Tryz.prog 41 #[.agg #[.int .i64 f, .int .i64 L, .int .i64 S, .int .i64 F], .int .i64 q, .int .i64 p] w fun e w' => e = .returned (.tuple #[.int .i64 y, .int .i64 r]) ∧ Below w.heap.size w w' := v7.r_Lasts f L S F q p y r hr w
set_option maxHeartbeats 16000000 in
theorem c_pw_Bears (z : Sn) (r0 : Bool) (hr0 : r0 = true ↔ z.Ok) (k : Int) (w : World) (hz : SnAt w z) (v : Int) (hv : bearV z r0 k = v) :
    Calls Tryz.prog 23 #[.agg #[.slice z.p.a1 z.s.feeds.length z.p.c1, .slice z.p.a2 z.s.brks.length z.p.c2, .slice z.p.a3 z.s.loops.length z.p.c3, .slice z.p.a4 z.s.racks.length z.p.c4, .int .i64 z.s.sw, .slice z.p.a5 z.s.links.length z.p.c5, .slice z.p.a6 z.s.hosts.length z.p.c6], .agg #[.slice z.A z.xs.length z.c], .agg #[.slice z.q.a1 z.d.hosts.length z.q.c1, .slice z.q.a2 z.d.reps.length z.q.c2], .int .i64 k] w fun e w' => e = .returned (.int .i64 v) ∧ Below w.heap.size w w' := by
  obtain ⟨W1, h1⟩ : ∃ W, W = w.alloc (.cells #[.slice z.p.a1 z.s.feeds.length z.p.c1, .slice z.p.a2 z.s.brks.length z.p.c2, .slice z.p.a3 z.s.loops.length z.p.c3, .slice z.p.a4 z.s.racks.length z.p.c4, .int .i64 z.s.sw, .slice z.p.a5 z.s.links.length z.p.c5, .slice z.p.a6 z.s.hosts.length z.p.c6] 29) := ⟨_, rfl⟩
  obtain ⟨W2, h2⟩ : ∃ W, W = W1.alloc (.cells #[.slice z.A z.xs.length z.c] 32) := ⟨_, rfl⟩
  obtain ⟨W, h3⟩ : ∃ W, W = W2.alloc (.cells #[.slice z.q.a1 z.d.hosts.length z.q.c1, .slice z.q.a2 z.d.reps.length z.q.c2] 36) := ⟨_, rfl⟩
  obtain ⟨B0, X1⟩ := sn_boxes h1 h2 h3
  have z3 : W.heap.size = w.heap.size + 1 + 1 + 1 := sn_size h1 h2 h3
  have HB := Lib.hid B0
  have Z0 := hz.on B0 (Nat.le_refl _)
  have HZ := Lib.hid (fun (X : World) (hX : Below W.heap.size W X) => Z0.on hX (Nat.le_refl _))
  have HF := Lib.hid (fun (X : World) (hX : Below W.heap.size W X) => ((X1.on hX (Nat.le_refl _)).cells : X.cell? ⟨w.heap.size, 0, none⟩ = some (.slice z.p.a1 z.s.feeds.length z.p.c1) ∧ X.cell? ⟨w.heap.size, 1, none⟩ = some (.slice z.p.a2 z.s.brks.length z.p.c2) ∧ X.cell? ⟨w.heap.size, 2, none⟩ = some (.slice z.p.a3 z.s.loops.length z.p.c3) ∧ X.cell? ⟨w.heap.size, 3, none⟩ = some (.slice z.p.a4 z.s.racks.length z.p.c4) ∧ X.cell? ⟨w.heap.size, 4, none⟩ = some (.int .i64 z.s.sw) ∧ X.cell? ⟨w.heap.size, 5, none⟩ = some (.slice z.p.a5 z.s.links.length z.p.c5) ∧ X.cell? ⟨w.heap.size, 6, none⟩ = some (.slice z.p.a6 z.s.hosts.length z.p.c6) ∧ X.cell? ⟨w.heap.size + 1, 0, none⟩ = some (.slice z.A z.xs.length z.c) ∧ X.cell? ⟨w.heap.size + 1 + 1, 0, none⟩ = some (.slice z.q.a1 z.d.hosts.length z.q.c1) ∧ X.cell? ⟨w.heap.size + 1 + 1, 1, none⟩ = some (.slice z.q.a2 z.d.reps.length z.q.c2)))
  have HX := Lib.hid (fun (X : World) (hX : Below W.heap.size W X) => X1.on hX (Nat.le_refl _))
  have HKW := Lib.hid (Below.refl W.heap.size W)
  have hle := HB.out.size
  obtain ⟨n1, n2, n3, n4, n5, n6, n7, n8⟩ := hz.bounds
  have HVV := Lib.hid (fun (X : World) (hX : SnAt X z) => c_vTo z r0 hr0 X hX)
  have HV := Lib.hid hv
  have HR0 := Lib.hid hr0
  clear hr0 hv
  clear hz B0 X1 z3 Z0
  obtain ⟨f0, f1, f2, f3, f4, f5, f6, g0, g1, g2⟩ := HF.out W HKW.out
  rw [h3, h2, h1] at f0 f1 f2 f3 f4 f5 f6 g0 g1 g2
  generalize hBB : w.heap.size = B at *
  go_enter Tryz.func23, Tryz.ntmps23
  go_wp2_with (fail)
  rw [← h1, ← h2, ← h3]
  clear h1 h2 h3 f0 f1 f2 f3 f4 f5 f6 g0 g1 g2
  go_at_call 36
  refine (HVV.out W (HZ.out W HKW.out)).mono ?_
  rintro e v1 ⟨rfl, bb⟩
  have HKv1 := Lib.hid (below_join HKW.out bb HKW.out.size)
  clear bb
  cases r0
  · have HVE := Lib.hid (show (0 : Int) = v by rw [← HV.out]; unfold bearV; rw [if_neg]; simp)
    go_wp2_with (fail)
    go_ret
    exact ⟨(show Ending.returned (.int .i64 0) = .returned (.int .i64 v) by rw [HVE.out]), below_join HB.out HKv1.out hle⟩
  obtain ⟨f0, f1, f2, f3, f4, f5, f6, g0, g1, g2⟩ := HF.out v1 HKv1.out
  rcases hk0 : decide (k < 0) with _ | _
  rotate_left
  · have HVE := Lib.hid (show (0 : Int) = v by rw [← HV.out]; unfold bearV; rw [if_neg]; have := of_decide_eq_true hk0; omega)
    go_wp2_with (fail)
    go_ret
    exact ⟨(show Ending.returned (.int .i64 0) = .returned (.int .i64 v) by rw [HVE.out]), below_join HB.out HKv1.out hle⟩
  have hk0' := of_decide_eq_false hk0
  rcases hk1 : decide ((z.s.brks.length : Int) ≤ k) with _ | _
  rotate_left
  · have HVE := Lib.hid (show (0 : Int) = v by rw [← HV.out]; unfold bearV; rw [if_neg]; have := of_decide_eq_true hk1; omega)
    have hk1' := of_decide_eq_true hk1
    go_wp2_with (fail)
    go_ret
    exact ⟨(show Ending.returned (.int .i64 0) = .returned (.int .i64 v) by rw [HVE.out]), below_join HB.out HKv1.out hle⟩
  have hk1' := of_decide_eq_false hk1
  obtain ⟨m, rfl⟩ : ∃ m : Nat, k = m := ⟨k.toNat, by omega⟩
  have hlt : m < z.s.brks.length := by omega
  have hki2 : (m : Int) < (z.s.brks.length : Int) := by omega
  obtain ⟨x, hx⟩ : ∃ x, z.s.brks[m]? = some x := ⟨_, List.getElem?_eq_getElem hlt⟩
  obtain ⟨pb, po, e2, hpb, x0, x1, x2, x3⟩ := bk_at (HZ.out v1 HKv1.out) hx
  obtain ⟨p, hp⟩ : ∃ p, pwV z true (isBrk z.s (m : Int)) = p := ⟨_, rfl⟩
  obtain ⟨mx, hmx⟩ : ∃ t, max x.fast x.limit = t := ⟨_, rfl⟩
  obtain ⟨⟨y, r⟩, hyr⟩ : ∃ yr, v7.lastsP x.limit x.slow mx 0 p = yr := ⟨_, rfl⟩
  have HVE := Lib.hid (show y = v by
    rw [← HV.out]; unfold bearV
    rw [if_pos ⟨rfl, by omega, by omega⟩, Int.toNat_natCast, bkAt_eq hx, hp, hmx, hyr])
  have HP := Lib.hid hp
  have HYR := Lib.hid hyr
  have HF2 := Lib.hid (fun (X : World) (hX : Below W.heap.size W X) => (by rw [← e2]; exact HF.out X hX : X.cell? ⟨B, 0, none⟩ = some (.slice z.p.a1 z.s.feeds.length z.p.c1) ∧ X.cell? ⟨B, 1, none⟩ = some (.slice (some ⟨pb, po, none⟩) z.s.brks.length z.p.c2) ∧ X.cell? ⟨B, 2, none⟩ = some (.slice z.p.a3 z.s.loops.length z.p.c3) ∧ X.cell? ⟨B, 3, none⟩ = some (.slice z.p.a4 z.s.racks.length z.p.c4) ∧ X.cell? ⟨B, 4, none⟩ = some (.int .i64 z.s.sw) ∧ X.cell? ⟨B, 5, none⟩ = some (.slice z.p.a5 z.s.links.length z.p.c5) ∧ X.cell? ⟨B, 6, none⟩ = some (.slice z.p.a6 z.s.hosts.length z.p.c6) ∧ X.cell? ⟨B + 1, 0, none⟩ = some (.slice z.A z.xs.length z.c) ∧ X.cell? ⟨B + 1 + 1, 0, none⟩ = some (.slice z.q.a1 z.d.hosts.length z.q.c1) ∧ X.cell? ⟨B + 1 + 1, 1, none⟩ = some (.slice z.q.a2 z.d.reps.length z.q.c2)))
  obtain ⟨V, hV⟩ : ∃ X, X = v1.alloc (.cells #[.int .i64 x.feed, .int .i64 x.limit, .int .i64 x.slow, .int .i64 mx] 48) := ⟨_, rfl⟩
  have bV : Below v1.heap.size v1 V := by rw [hV]; exact (Below.refl _ _).alloc (Nat.le_refl _) _
  have BV : V.heap[v1.heap.size]? = some (.cells #[.int .i64 x.feed, .int .i64 x.limit, .int .i64 x.slow, .int .i64 mx] 48 (0, 0)) := by rw [hV]; exact box_new _ _ _
  have HKV := Lib.hid (below_join HKv1.out bV HKv1.out.size)
  have HBV := Lib.hid (fun (X : World) (hX : Below V.heap.size V X) => (⟨cell_of (box_on BV hX (Nat.le_refl _)) rfl, cell_of (box_on BV hX (Nat.le_refl _)) rfl, cell_of (box_on BV hX (Nat.le_refl _)) rfl, cell_of (box_on BV hX (Nat.le_refl _)) rfl⟩ : X.cell? ⟨v1.heap.size, 0, none⟩ = some (.int .i64 x.feed) ∧ X.cell? ⟨v1.heap.size, 1, none⟩ = some (.int .i64 x.limit) ∧ X.cell? ⟨v1.heap.size, 2, none⟩ = some (.int .i64 x.slow) ∧ X.cell? ⟨v1.heap.size, 3, none⟩ = some (.int .i64 mx)))
  have HKVV := Lib.hid (Below.refl V.heap.size V)
  have HFV := Lib.hid (fun (X : World) (h1 : Below W.heap.size W X) (h2 : Below V.heap.size V X) => (⟨HF2.out X h1, HBV.out X h2⟩ : (X.cell? ⟨B, 0, none⟩ = some (.slice z.p.a1 z.s.feeds.length z.p.c1) ∧ X.cell? ⟨B, 1, none⟩ = some (.slice (some ⟨pb, po, none⟩) z.s.brks.length z.p.c2) ∧ X.cell? ⟨B, 2, none⟩ = some (.slice z.p.a3 z.s.loops.length z.p.c3) ∧ X.cell? ⟨B, 3, none⟩ = some (.slice z.p.a4 z.s.racks.length z.p.c4) ∧ X.cell? ⟨B, 4, none⟩ = some (.int .i64 z.s.sw) ∧ X.cell? ⟨B, 5, none⟩ = some (.slice z.p.a5 z.s.links.length z.p.c5) ∧ X.cell? ⟨B, 6, none⟩ = some (.slice z.p.a6 z.s.hosts.length z.p.c6) ∧ X.cell? ⟨B + 1, 0, none⟩ = some (.slice z.A z.xs.length z.c) ∧ X.cell? ⟨B + 1 + 1, 0, none⟩ = some (.slice z.q.a1 z.d.hosts.length z.q.c1) ∧ X.cell? ⟨B + 1 + 1, 1, none⟩ = some (.slice z.q.a2 z.d.reps.length z.q.c2)) ∧ X.cell? ⟨v1.heap.size, 0, none⟩ = some (.int .i64 x.feed) ∧ X.cell? ⟨v1.heap.size, 1, none⟩ = some (.int .i64 x.limit) ∧ X.cell? ⟨v1.heap.size, 2, none⟩ = some (.int .i64 x.slow) ∧ X.cell? ⟨v1.heap.size, 3, none⟩ = some (.int .i64 mx)))
  have HOB := Lib.hid (fun (X : World) (hX : Below W.heap.size W X) => c_pwOfBreaker z true HR0.out (m : Int) X (HZ.out X hX) p HP.out)
  rw [e2] at f1 HOB
  clear hk0 hk1 hx hp hyr bV BV e2
  go_wp2_with (fail)
  rw [← hV]
  clear hV hmx x0 x1 x2 x3 f0 f1 f2 f3 f4 f5 f6 g0 g1 g2
  obtain ⟨⟨f0, f1, f2, f3, f4, f5, f6, g0, g1, g2⟩, j0, j1, j2, j3⟩ := HFV.out V HKV.out HKVV.out
  go_region_held3 (fun X => (X.cell? ⟨B, 0, none⟩ = some (.slice z.p.a1 z.s.feeds.length z.p.c1) ∧ X.cell? ⟨B, 1, none⟩ = some (.slice (some ⟨pb, po, none⟩) z.s.brks.length z.p.c2) ∧ X.cell? ⟨B, 2, none⟩ = some (.slice z.p.a3 z.s.loops.length z.p.c3) ∧ X.cell? ⟨B, 3, none⟩ = some (.slice z.p.a4 z.s.racks.length z.p.c4) ∧ X.cell? ⟨B, 4, none⟩ = some (.int .i64 z.s.sw) ∧ X.cell? ⟨B, 5, none⟩ = some (.slice z.p.a5 z.s.links.length z.p.c5) ∧ X.cell? ⟨B, 6, none⟩ = some (.slice z.p.a6 z.s.hosts.length z.p.c6) ∧ X.cell? ⟨B + 1, 0, none⟩ = some (.slice z.A z.xs.length z.c) ∧ X.cell? ⟨B + 1 + 1, 0, none⟩ = some (.slice z.q.a1 z.d.hosts.length z.q.c1) ∧ X.cell? ⟨B + 1 + 1, 1, none⟩ = some (.slice z.q.a2 z.d.reps.length z.q.c2)) ∧ X.cell? ⟨v1.heap.size, 0, none⟩ = some (.int .i64 x.feed) ∧ X.cell? ⟨v1.heap.size, 1, none⟩ = some (.int .i64 x.limit) ∧ X.cell? ⟨v1.heap.size, 2, none⟩ = some (.int .i64 x.slow) ∧ X.cell? ⟨v1.heap.size, 3, none⟩ = some (.int .i64 mx))
    (first | exact HFV.out v4 HK4.out HKK4.out | exact HFV.out v3 HK3.out HKK3.out | exact HFV.out V HKV.out HKVV.out | fail)
    (first
      | (go_at_call 14; (with_reducible refine (HOB.out V.drew HKV.out.drew).mono ?_); rintro e v3 ⟨rfl, bb0⟩; have bb := below_join (Below.refl V.heap.size V).drew bb0 (Nat.le_refl _); have HK3 := Lib.hid (below_join HKV.out bb HKV.out.size); have HKK3 := Lib.hid (below_join HKVV.out bb HKVV.out.size); clear bb bb0)
      | (go_at_call 40; (with_reducible refine (lastsTo x.feed x.limit x.slow mx 0 p y r HYR.out v3).mono ?_); rintro e v4 ⟨rfl, bb⟩; have HK4 := Lib.hid (below_join HK3.out bb HK3.out.size); have HKK4 := Lib.hid (below_join HKK3.out bb HKK3.out.size); clear bb)
      | fail)
  go_wp2_with (fail)
  go_ret
  exact ⟨(show Ending.returned (.int .i64 y) = .returned (.int .i64 v) by rw [HVE.out]), below_join HB.out HK4.out hle⟩
set_option maxHeartbeats 16000000 in
theorem c_pr_Bears (z : Sn) (r0 : Bool) (hr0 : r0 = true ↔ z.Ok) (k : Int) (w : World) (hz : SnAt w z) (v : Int) (hv : bearV z r0 k = v) :
    Calls Tryz.prog 24 #[.agg #[.slice z.p.a1 z.s.feeds.length z.p.c1, .slice z.p.a2 z.s.brks.length z.p.c2, .slice z.p.a3 z.s.loops.length z.p.c3, .slice z.p.a4 z.s.racks.length z.p.c4, .int .i64 z.s.sw, .slice z.p.a5 z.s.links.length z.p.c5, .slice z.p.a6 z.s.hosts.length z.p.c6], .agg #[.slice z.A z.xs.length z.c], .agg #[.slice z.q.a1 z.d.hosts.length z.q.c1, .slice z.q.a2 z.d.reps.length z.q.c2], .int .i64 k] w fun e w' => e = .returned (.int .i64 v) ∧ Below w.heap.size w w' := by
  obtain ⟨W1, h1⟩ : ∃ W, W = w.alloc (.cells #[.slice z.p.a1 z.s.feeds.length z.p.c1, .slice z.p.a2 z.s.brks.length z.p.c2, .slice z.p.a3 z.s.loops.length z.p.c3, .slice z.p.a4 z.s.racks.length z.p.c4, .int .i64 z.s.sw, .slice z.p.a5 z.s.links.length z.p.c5, .slice z.p.a6 z.s.hosts.length z.p.c6] 29) := ⟨_, rfl⟩
  obtain ⟨W2, h2⟩ : ∃ W, W = W1.alloc (.cells #[.slice z.A z.xs.length z.c] 32) := ⟨_, rfl⟩
  obtain ⟨W, h3⟩ : ∃ W, W = W2.alloc (.cells #[.slice z.q.a1 z.d.hosts.length z.q.c1, .slice z.q.a2 z.d.reps.length z.q.c2] 36) := ⟨_, rfl⟩
  obtain ⟨B0, X1⟩ := sn_boxes h1 h2 h3
  have z3 : W.heap.size = w.heap.size + 1 + 1 + 1 := sn_size h1 h2 h3
  have HB := Lib.hid B0
  have Z0 := hz.on B0 (Nat.le_refl _)
  have HZ := Lib.hid (fun (X : World) (hX : Below W.heap.size W X) => Z0.on hX (Nat.le_refl _))
  have HF := Lib.hid (fun (X : World) (hX : Below W.heap.size W X) => ((X1.on hX (Nat.le_refl _)).cells : X.cell? ⟨w.heap.size, 0, none⟩ = some (.slice z.p.a1 z.s.feeds.length z.p.c1) ∧ X.cell? ⟨w.heap.size, 1, none⟩ = some (.slice z.p.a2 z.s.brks.length z.p.c2) ∧ X.cell? ⟨w.heap.size, 2, none⟩ = some (.slice z.p.a3 z.s.loops.length z.p.c3) ∧ X.cell? ⟨w.heap.size, 3, none⟩ = some (.slice z.p.a4 z.s.racks.length z.p.c4) ∧ X.cell? ⟨w.heap.size, 4, none⟩ = some (.int .i64 z.s.sw) ∧ X.cell? ⟨w.heap.size, 5, none⟩ = some (.slice z.p.a5 z.s.links.length z.p.c5) ∧ X.cell? ⟨w.heap.size, 6, none⟩ = some (.slice z.p.a6 z.s.hosts.length z.p.c6) ∧ X.cell? ⟨w.heap.size + 1, 0, none⟩ = some (.slice z.A z.xs.length z.c) ∧ X.cell? ⟨w.heap.size + 1 + 1, 0, none⟩ = some (.slice z.q.a1 z.d.hosts.length z.q.c1) ∧ X.cell? ⟨w.heap.size + 1 + 1, 1, none⟩ = some (.slice z.q.a2 z.d.reps.length z.q.c2)))
  have HX := Lib.hid (fun (X : World) (hX : Below W.heap.size W X) => X1.on hX (Nat.le_refl _))
  have HKW := Lib.hid (Below.refl W.heap.size W)
  have hle := HB.out.size
  obtain ⟨n1, n2, n3, n4, n5, n6, n7, n8⟩ := hz.bounds
  have HVV := Lib.hid (fun (X : World) (hX : SnAt X z) => c_wvTo z r0 hr0 X hX)
  have HV := Lib.hid hv
  have HR0 := Lib.hid hr0
  clear hr0 hv
  clear hz B0 X1 z3 Z0
  obtain ⟨f0, f1, f2, f3, f4, f5, f6, g0, g1, g2⟩ := HF.out W HKW.out
  rw [h3, h2, h1] at f0 f1 f2 f3 f4 f5 f6 g0 g1 g2
  generalize hBB : w.heap.size = B at *
  go_enter Tryz.func24, Tryz.ntmps24
  go_wp2_with (fail)
  rw [← h1, ← h2, ← h3]
  clear h1 h2 h3 f0 f1 f2 f3 f4 f5 f6 g0 g1 g2
  go_at_call 25
  refine (HVV.out W (HZ.out W HKW.out)).mono ?_
  rintro e v1 ⟨rfl, bb⟩
  have HKv1 := Lib.hid (below_join HKW.out bb HKW.out.size)
  clear bb
  cases r0
  · have HVE := Lib.hid (show (0 : Int) = v by rw [← HV.out]; unfold bearV; rw [if_neg]; simp)
    go_wp2_with (fail)
    go_ret
    exact ⟨(show Ending.returned (.int .i64 0) = .returned (.int .i64 v) by rw [HVE.out]), below_join HB.out HKv1.out hle⟩
  obtain ⟨f0, f1, f2, f3, f4, f5, f6, g0, g1, g2⟩ := HF.out v1 HKv1.out
  rcases hk0 : decide (k < 0) with _ | _
  rotate_left
  · have HVE := Lib.hid (show (0 : Int) = v by rw [← HV.out]; unfold bearV; rw [if_neg]; have := of_decide_eq_true hk0; omega)
    go_wp2_with (fail)
    go_ret
    exact ⟨(show Ending.returned (.int .i64 0) = .returned (.int .i64 v) by rw [HVE.out]), below_join HB.out HKv1.out hle⟩
  have hk0' := of_decide_eq_false hk0
  rcases hk1 : decide ((z.s.brks.length : Int) ≤ k) with _ | _
  rotate_left
  · have HVE := Lib.hid (show (0 : Int) = v by rw [← HV.out]; unfold bearV; rw [if_neg]; have := of_decide_eq_true hk1; omega)
    have hk1' := of_decide_eq_true hk1
    go_wp2_with (fail)
    go_ret
    exact ⟨(show Ending.returned (.int .i64 0) = .returned (.int .i64 v) by rw [HVE.out]), below_join HB.out HKv1.out hle⟩
  have hk1' := of_decide_eq_false hk1
  obtain ⟨m, rfl⟩ : ∃ m : Nat, k = m := ⟨k.toNat, by omega⟩
  have hlt : m < z.s.brks.length := by omega
  have hki2 : (m : Int) < (z.s.brks.length : Int) := by omega
  obtain ⟨x, hx⟩ : ∃ x, z.s.brks[m]? = some x := ⟨_, List.getElem?_eq_getElem hlt⟩
  obtain ⟨pb, po, e2, hpb, x0, x1, x2, x3⟩ := bk_at (HZ.out v1 HKv1.out) hx
  obtain ⟨p, hp⟩ : ∃ p, pwV z true (isBrk z.s (m : Int)) = p := ⟨_, rfl⟩
  obtain ⟨mx, hmx⟩ : ∃ t, max x.fast x.limit = t := ⟨_, rfl⟩
  obtain ⟨⟨y, r⟩, hyr⟩ : ∃ yr, v7.lastsP x.limit x.slow mx 0 p = yr := ⟨_, rfl⟩
  have HVE := Lib.hid (show y = v by
    rw [← HV.out]; unfold bearV
    rw [if_pos ⟨rfl, by omega, by omega⟩, Int.toNat_natCast, bkAt_eq hx, hp, hmx, hyr])
  have HP := Lib.hid hp
  have HYR := Lib.hid hyr
  have HF2 := Lib.hid (fun (X : World) (hX : Below W.heap.size W X) => (by rw [← e2]; exact HF.out X hX : X.cell? ⟨B, 0, none⟩ = some (.slice z.p.a1 z.s.feeds.length z.p.c1) ∧ X.cell? ⟨B, 1, none⟩ = some (.slice (some ⟨pb, po, none⟩) z.s.brks.length z.p.c2) ∧ X.cell? ⟨B, 2, none⟩ = some (.slice z.p.a3 z.s.loops.length z.p.c3) ∧ X.cell? ⟨B, 3, none⟩ = some (.slice z.p.a4 z.s.racks.length z.p.c4) ∧ X.cell? ⟨B, 4, none⟩ = some (.int .i64 z.s.sw) ∧ X.cell? ⟨B, 5, none⟩ = some (.slice z.p.a5 z.s.links.length z.p.c5) ∧ X.cell? ⟨B, 6, none⟩ = some (.slice z.p.a6 z.s.hosts.length z.p.c6) ∧ X.cell? ⟨B + 1, 0, none⟩ = some (.slice z.A z.xs.length z.c) ∧ X.cell? ⟨B + 1 + 1, 0, none⟩ = some (.slice z.q.a1 z.d.hosts.length z.q.c1) ∧ X.cell? ⟨B + 1 + 1, 1, none⟩ = some (.slice z.q.a2 z.d.reps.length z.q.c2)))
  obtain ⟨V, hV⟩ : ∃ X, X = v1.alloc (.cells #[.int .i64 x.feed, .int .i64 x.limit, .int .i64 x.slow, .int .i64 mx] 48) := ⟨_, rfl⟩
  have bV : Below v1.heap.size v1 V := by rw [hV]; exact (Below.refl _ _).alloc (Nat.le_refl _) _
  have BV : V.heap[v1.heap.size]? = some (.cells #[.int .i64 x.feed, .int .i64 x.limit, .int .i64 x.slow, .int .i64 mx] 48 (0, 0)) := by rw [hV]; exact box_new _ _ _
  have HKV := Lib.hid (below_join HKv1.out bV HKv1.out.size)
  have HBV := Lib.hid (fun (X : World) (hX : Below V.heap.size V X) => (⟨cell_of (box_on BV hX (Nat.le_refl _)) rfl, cell_of (box_on BV hX (Nat.le_refl _)) rfl, cell_of (box_on BV hX (Nat.le_refl _)) rfl, cell_of (box_on BV hX (Nat.le_refl _)) rfl⟩ : X.cell? ⟨v1.heap.size, 0, none⟩ = some (.int .i64 x.feed) ∧ X.cell? ⟨v1.heap.size, 1, none⟩ = some (.int .i64 x.limit) ∧ X.cell? ⟨v1.heap.size, 2, none⟩ = some (.int .i64 x.slow) ∧ X.cell? ⟨v1.heap.size, 3, none⟩ = some (.int .i64 mx)))
  have HKVV := Lib.hid (Below.refl V.heap.size V)
  have HFV := Lib.hid (fun (X : World) (h1 : Below W.heap.size W X) (h2 : Below V.heap.size V X) => (⟨HF2.out X h1, HBV.out X h2⟩ : (X.cell? ⟨B, 0, none⟩ = some (.slice z.p.a1 z.s.feeds.length z.p.c1) ∧ X.cell? ⟨B, 1, none⟩ = some (.slice (some ⟨pb, po, none⟩) z.s.brks.length z.p.c2) ∧ X.cell? ⟨B, 2, none⟩ = some (.slice z.p.a3 z.s.loops.length z.p.c3) ∧ X.cell? ⟨B, 3, none⟩ = some (.slice z.p.a4 z.s.racks.length z.p.c4) ∧ X.cell? ⟨B, 4, none⟩ = some (.int .i64 z.s.sw) ∧ X.cell? ⟨B, 5, none⟩ = some (.slice z.p.a5 z.s.links.length z.p.c5) ∧ X.cell? ⟨B, 6, none⟩ = some (.slice z.p.a6 z.s.hosts.length z.p.c6) ∧ X.cell? ⟨B + 1, 0, none⟩ = some (.slice z.A z.xs.length z.c) ∧ X.cell? ⟨B + 1 + 1, 0, none⟩ = some (.slice z.q.a1 z.d.hosts.length z.q.c1) ∧ X.cell? ⟨B + 1 + 1, 1, none⟩ = some (.slice z.q.a2 z.d.reps.length z.q.c2)) ∧ X.cell? ⟨v1.heap.size, 0, none⟩ = some (.int .i64 x.feed) ∧ X.cell? ⟨v1.heap.size, 1, none⟩ = some (.int .i64 x.limit) ∧ X.cell? ⟨v1.heap.size, 2, none⟩ = some (.int .i64 x.slow) ∧ X.cell? ⟨v1.heap.size, 3, none⟩ = some (.int .i64 mx)))
  have HOB := Lib.hid (fun (X : World) (hX : Below W.heap.size W X) => d_OfBreaker z true HR0.out (m : Int) X (HZ.out X hX) p HP.out)
  rw [e2] at f1 HOB
  clear hk0 hk1 hx hp hyr bV BV e2
  go_wp2_with (fail)
  rw [← hV]
  clear hV hmx x0 x1 x2 x3 f0 f1 f2 f3 f4 f5 f6 g0 g1 g2
  obtain ⟨⟨f0, f1, f2, f3, f4, f5, f6, g0, g1, g2⟩, j0, j1, j2, j3⟩ := HFV.out V HKV.out HKVV.out
  go_region_held3 (fun X => (X.cell? ⟨B, 0, none⟩ = some (.slice z.p.a1 z.s.feeds.length z.p.c1) ∧ X.cell? ⟨B, 1, none⟩ = some (.slice (some ⟨pb, po, none⟩) z.s.brks.length z.p.c2) ∧ X.cell? ⟨B, 2, none⟩ = some (.slice z.p.a3 z.s.loops.length z.p.c3) ∧ X.cell? ⟨B, 3, none⟩ = some (.slice z.p.a4 z.s.racks.length z.p.c4) ∧ X.cell? ⟨B, 4, none⟩ = some (.int .i64 z.s.sw) ∧ X.cell? ⟨B, 5, none⟩ = some (.slice z.p.a5 z.s.links.length z.p.c5) ∧ X.cell? ⟨B, 6, none⟩ = some (.slice z.p.a6 z.s.hosts.length z.p.c6) ∧ X.cell? ⟨B + 1, 0, none⟩ = some (.slice z.A z.xs.length z.c) ∧ X.cell? ⟨B + 1 + 1, 0, none⟩ = some (.slice z.q.a1 z.d.hosts.length z.q.c1) ∧ X.cell? ⟨B + 1 + 1, 1, none⟩ = some (.slice z.q.a2 z.d.reps.length z.q.c2)) ∧ X.cell? ⟨v1.heap.size, 0, none⟩ = some (.int .i64 x.feed) ∧ X.cell? ⟨v1.heap.size, 1, none⟩ = some (.int .i64 x.limit) ∧ X.cell? ⟨v1.heap.size, 2, none⟩ = some (.int .i64 x.slow) ∧ X.cell? ⟨v1.heap.size, 3, none⟩ = some (.int .i64 mx))
    (first | exact HFV.out v4 HK4.out HKK4.out | exact HFV.out v3 HK3.out HKK3.out | exact HFV.out V HKV.out HKVV.out | fail)
    (first
      | (go_at_call 15; (with_reducible refine (HOB.out V.drew HKV.out.drew).mono ?_); rintro e v3 ⟨rfl, bb0⟩; have bb := below_join (Below.refl V.heap.size V).drew bb0 (Nat.le_refl _); have HK3 := Lib.hid (below_join HKV.out bb HKV.out.size); have HKK3 := Lib.hid (below_join HKVV.out bb HKVV.out.size); clear bb bb0)
      | (go_at_call 41; (with_reducible refine (rLastsTo x.feed x.limit x.slow mx 0 p y r HYR.out v3).mono ?_); rintro e v4 ⟨rfl, bb⟩; have HK4 := Lib.hid (below_join HK3.out bb HK3.out.size); have HKK4 := Lib.hid (below_join HKK3.out bb HKK3.out.size); clear bb)
      | fail)
  go_wp2_with (fail)
  go_ret
  exact ⟨(show Ending.returned (.int .i64 y) = .returned (.int .i64 v) by rw [HVE.out]), below_join HB.out HK4.out hle⟩
end Go.Proofs.YtidpiokkfnhobaaGreat

namespace Go.Proofs.YtidpiokkfnhobaaGreat
open Go.RowKit
set_option maxRecDepth 100000
set_option linter.unusedVariables false
set_option linter.unusedSimpArgs false

theorem retNet {fn : Func} {a : Act} {W : World} {R : Ending → World → Prop} {b i : Nat} {x0 x1 : Value} (hfn : fn.results = #[.cell i 44]) (hp : a.tmps[i]?.getD undef = .pointer (some ⟨b, 0, none⟩)) (hd : a.defers = [])
    (h : W.heap[b]? = some (.cells #[x0, x1] 44 (0, 0))) (hR : R (.returned (.agg #[x0, x1])) W) : bodyPost Tryz.prog fn R .ret a W := by
  have c0 : W.cell? ⟨b, 0, none⟩ = some x0 := cell_of h rfl
  have c1 : W.cell? ⟨b, 1, none⟩ = some x1 := cell_of h rfl
  exact bodyPost_ret (v := .agg #[x0, x1]) (by simp [results, hfn, hp, go_sem, c0, c1]) hd hR
theorem own_else {X : World} {base : Nat} {e : TypeId} {size n g cap b i : Nat} {xs : List Value} {v : Value} (h : X.ownsRow base e size (.slice (some ⟨g, 0, none⟩) n cap) n xs) (hb : g ≠ b) : (X.setCell ⟨b, i, none⟩ v).ownsRow base e size (.slice (some ⟨g, 0, none⟩) n cap) n xs := by
  obtain ⟨k1, ⟨e0, -⟩ | ⟨g', cap', cur, e0, k3, k4, k5⟩⟩ := h
  · cases e0
  · injection e0 with e1 _ e2
    injection e1 with e1
    injection e1 with e1
    subst e1 e2
    exact ⟨k1, .inr ⟨g, cap, cur, rfl, k3, set_else k4 hb, k5⟩⟩
theorem grown_trans {a w w' : World} {row : Option Nat} (h : a.grownBy w row) (k : w.grownBy w' row) : a.grownBy w' row :=
  ⟨k.os.trans h.os, k.tape.trans h.tape, k.output.trans h.output, Nat.le_trans h.size k.size, fun i hi hr => (k.block i (Nat.lt_of_lt_of_le hi h.size) hr).trans (h.block i hi hr)⟩
theorem grown_set {a w : World} {row : Option Nat} (h : a.grownBy w row) {b o : Nat} (v : Value) (hb : a.heap.size ≤ b) : a.grownBy (w.setCell ⟨b, o, none⟩ v) row :=
  ⟨h.os, h.tape, h.output, by simpa [World.setCell] using h.size, fun i hi hr => (Below.heap_setCell _ ⟨b, o, none⟩ v i (by show i ≠ b; omega)).trans (h.block i hi hr)⟩
/-- An own row of arcs: where it lies is said by a letter. -/
def ArcO (w : World) (base g cap : Nat) (l : List (Int × Int × Int)) : Prop := w.ownsRow base 67 3 (.slice (some ⟨g, 0, none⟩) l.length cap) l.length (v5.cellsA l)
theorem ArcO.pt {w : World} {base g cap : Nat} {l : List (Int × Int × Int)} (h : ArcO w base g cap l) : v5.PtSl w (.slice (some ⟨g, 0, none⟩) l.length cap) l := v5.own_ptSl h
/-- A list of arcs in memory, as news of an append. -/
theorem pt_news {w : World} {ad : Addr} {n c : Nat} {l : List (Int × Int × Int)} (h : v5.PtSl w (.slice (some ad) n c) l) : ∀ j u, (v5.cellsA l)[j]? = some u → w.cell? (ad.add j) = some u := by
  intro j u hj
  obtain ⟨p, hp, hu⟩ := v5.cellsA_of hj
  obtain ⟨b, o, c', e, hlt, -, -, y0, y1, y2⟩ := h.at_ hp
  injection e with e _ _
  injection e with e
  subst e
  have e : (⟨b, o, none⟩ : Addr).add j = ⟨b, o + j, none⟩ := by unfold Addr.add; split <;> simp_all
  rw [e]
  rcases hu with ⟨e3, rfl⟩ | ⟨e3, rfl⟩ | ⟨e3, rfl⟩
  · rw [show o + j = o + j / 3 * 3 by omega]; exact y0
  · rw [show o + j = o + j / 3 * 3 + 1 by omega]; exact y1
  · rw [show o + j = o + j / 3 * 3 + 2 by omega]; exact y2
theorem cellsA_append (l m : List (Int × Int × Int)) : v5.cellsA (l ++ m) = v5.cellsA l ++ v5.cellsA m := by simp [v5.cellsA]
/-- What with returns: the row lies where it lay, or in a new block; all else stands. -/
def WithP (w : World) (base : Nat) (v : Value) (N : Int) (l : List (Int × Int × Int)) (e : Ending) (w' : World) : Prop :=
  ∃ g cap, e = .returned (.agg #[.int .i64 N, .slice (some ⟨g, 0, none⟩) l.length cap]) ∧ ArcO w' base g cap l ∧ (v.ownBlock = some g ∨ w.heap.size ≤ g) ∧ w.grownBy w' v.ownBlock
set_option maxHeartbeats 8000000 in
theorem c_with (base : Nat) (N : Int) (v : Value) (l : List (Int × Int × Int)) (ad : Addr) (c : Nat) (m : List (Int × Int × Int)) (hm : 0 < m.length) (hlm : l.length + m.length ≤ 1000) (w : World) (hv : w.ownsRow base 67 3 v l.length (v5.cellsA l)) (hb : base ≤ w.heap.size) (hp : v5.PtSl w (.slice (some ad) m.length c) m) :
    Calls Tryz.prog 37 #[.agg #[.int .i64 N, v], .slice (some ad) m.length c] w (WithP w base v N (l ++ m)) := by
  obtain ⟨W1, h1⟩ : ∃ W, W = w.alloc (.cells #[.int .i64 N, v] 44) := ⟨_, rfl⟩
  obtain ⟨W, h2⟩ : ∃ W, W = W1.alloc (.cells #[.int .i64 0, .slice none 0 0] 44) := ⟨_, rfl⟩
  obtain ⟨B0, b1, b2, hzW⟩ := two_boxes h1 h2
  have hzz : W.heap.size = w.heap.size + 1 + 1 := by rw [h2, World.size_alloc, h1, World.size_alloc]
  have hvW : W.ownsRow base 67 3 v l.length (v5.cellsA l) := own_on hv B0 (Nat.le_refl _)
  have HN := Lib.hid (pt_news (hp.on B0 (Nat.le_refl _)))
  have HV := Lib.hid hvW
  have HG0 := Lib.hid (show w.grownBy W v.ownBlock from ⟨B0.os, B0.tape, B0.output, B0.size, fun k hk _ => B0.block k hk⟩)
  have HVB := Lib.hid (fun g (hg : v.ownBlock = some g) => (ownsRow_lt hv hg).2)
  have HB1 := Lib.hid b1
  have HB2 := Lib.hid b2
  have HZZ := Lib.hid hzz
  have HBB := Lib.hid (show base ≤ W.heap.size by omega)
  obtain ⟨i0, hi0, hz0, hz1, hz2⟩ := info_parts v5.arc_info
  obtain ⟨va, vn, hsh⟩ := own_shape hv
  have x1 : W.cell? ⟨w.heap.size, 1, none⟩ = some v := cell_of b1 rfl
  subst hsh
  clear hv hvW B0 b1 b2 hp hzW hzz
  rw [h2, h1] at x1
  go_enter Tryz.func37, Tryz.ntmps37
  have HM1 := Lib.hid (show v5.cellsA m = v5.cellsA m ∧ (v5.cellsA m).length = m.length * 3 from ⟨rfl, v5.cellsA_len m⟩)
  go_wp2_with (at_builtin; refine wpList_append_lies _ rfl _ _ 42 rfl base 67 i0 (.agg #[.int .i64 0, .int .i64 0, .int .i64 0]) 3 24 Tryz.underlying42 hi0 hz0 hz1 hz2 rfl (by decide) (.slice va l.length vn) l.length _ rfl (by rw [← h1, ← h2]; exact HV.out) ad m.length c (v5.cellsA m) rfl HM1.out.2 (by rw [← h1, ← h2]; exact HN.out) v5.cellsA_one hm (by unfold maxLen; omega) (by omega) (by rw [← h1, ← h2]; exact HBB.out) (w.heap.size + 1 + 1) (by rw [← h1, ← h2]; exact HZZ.out) ?_; intro g cap Z hown hgrow hat hlt; rw [← h1, ← h2] at hgrow; have HO := Lib.hid hown; have HGR := Lib.hid hgrow; have HAT := Lib.hid hat; have Z1 := (hgrow.block w.heap.size (by have := HZZ.out; omega) (fun e => by have := HVB.out _ e.symm; omega)).trans HB1.out; have Z2 := (hgrow.block (w.heap.size + 1) (by have := HZZ.out; omega) (fun e => by have := HVB.out _ e.symm; omega)).trans HB2.out; have c0 := cell_of (o := 0) Z1 rfl; have c1 := cell_of (o := 1) Z1 rfl; have d0 := cell_of (o := 0) Z2 rfl; have d1 := cell_of (o := 1) Z2 rfl; have f1 := frz Z1 1; have f2 := frz Z2 0; have f3 := frz Z2 1; have HZ1 := Lib.hid Z1; have HZ2 := Lib.hid Z2; clear Z1 Z2 hown hgrow hat)
  have hlw := HZZ.out
  have hgne : g ≠ w.heap.size ∧ g ≠ w.heap.size + 1 := by
    rcases HAT.out with h | h
    · have := HVB.out _ h; omega
    · omega
  refine retNet rfl rfl rfl (x0 := .int .i64 N) (x1 := .slice (some ⟨g, 0, none⟩) (l.length + m.length) cap) ?_ ?_
  · have e1 := set_else (b := w.heap.size) (o := 1) (v := .slice (some ⟨g, 0, none⟩) (l.length + m.length) cap) HZ2.out (by omega)
    have e2 := v5.row_set3 e1 (i := 0) (.int .i64 N)
    exact v5.row_set3 e2 (i := 1) (.slice (some ⟨g, 0, none⟩) (l.length + m.length) cap)
  · refine ⟨g, cap, by rw [List.length_append], ?_, ?_, ?_⟩
    · unfold ArcO
      rw [List.length_append, cellsA_append]
      exact own_else (own_else (own_else HO.out (by omega)) (by omega)) (by omega)
    · rcases HAT.out with h | h
      · exact .inl h
      · exact .inr (by omega)
    · exact grown_set (grown_set (grown_set (grown_trans HG0.out HGR.out) _ (Nat.le_refl _)) _ (by omega)) _ (by omega)
end Go.Proofs.YtidpiokkfnhobaaGreat
