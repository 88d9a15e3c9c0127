/-
  DERIVED. Several texts in one.
-/
import Derived.Test.YtbbadnlaelgmlaaGreatPXO5
import Derived.Test.YtbbadnlaelgmlaaGreatPXB1
import Derived.Test.YtbbadnlaelgmlaaGreatPXA3
set_option linter.unusedVariables false
set_option linter.unusedSimpArgs false
open List (setIfInBounds_toArray set_cons_zero set_cons_succ)

namespace Go.Proofs.YtbbadnlaelgmlaaGreat
open Go.RowKit
set_option maxRecDepth 100000
set_option linter.unusedVariables false
set_option linter.unusedSimpArgs false

/-- Lists of at most 60 elements, at most 10 links. -/
def FewI (z : Sn) : Prop := z.s.feeds.length ≤ 60 ∧ z.s.brks.length ≤ 60 ∧ z.s.loops.length ≤ 60 ∧ z.s.racks.length ≤ 60 ∧ z.s.links.length ≤ 10 ∧ z.s.hosts.length ≤ 60 ∧ z.xs.length ≤ 60 ∧ z.d.hosts.length ≤ 60 ∧ z.d.reps.length ≤ 60
set_option maxHeartbeats 16000000 in
theorem c_few (z : Sn) (r : Bool) (hr : r = true ↔ FewI z) (w : World) (hz : SnAt w z) :
    Calls Tryz.prog 10 #[.agg #[.slice z.p.a1 z.s.feeds.length z.p.c1, .slice z.p.a2 z.s.brks.length z.p.c2, .slice z.p.a3 z.s.loops.length z.p.c3, .slice z.p.a4 z.s.racks.length z.p.c4, .int .i64 z.s.sw, .slice z.p.a5 z.s.links.length z.p.c5, .slice z.p.a6 z.s.hosts.length z.p.c6], .agg #[.slice z.A z.xs.length z.c], .agg #[.slice z.q.a1 z.d.hosts.length z.q.c1, .slice z.q.a2 z.d.reps.length z.q.c2]] w fun e w' => e = .returned (.bool r) ∧ Below w.heap.size w w' := by
  have n9 : z.s.links.length ≤ 9223372036854775807 := by
    have a5 := hz.si.links.1; have b5 := hz.si.links.2.1; unfold maxLen at *; omega
  obtain ⟨W1, h1⟩ : ∃ W, W = w.alloc (.cells #[.slice z.p.a1 z.s.feeds.length z.p.c1, .slice z.p.a2 z.s.brks.length z.p.c2, .slice z.p.a3 z.s.loops.length z.p.c3, .slice z.p.a4 z.s.racks.length z.p.c4, .int .i64 z.s.sw, .slice z.p.a5 z.s.links.length z.p.c5, .slice z.p.a6 z.s.hosts.length z.p.c6] 29) := ⟨_, rfl⟩
  obtain ⟨W2, h2⟩ : ∃ W, W = W1.alloc (.cells #[.slice z.A z.xs.length z.c] 32) := ⟨_, rfl⟩
  obtain ⟨W, h3⟩ : ∃ W, W = W2.alloc (.cells #[.slice z.q.a1 z.d.hosts.length z.q.c1, .slice z.q.a2 z.d.reps.length z.q.c2] 36) := ⟨_, rfl⟩
  obtain ⟨B0, X1⟩ := sn_boxes h1 h2 h3
  have z3 : W.heap.size = w.heap.size + 1 + 1 + 1 := sn_size h1 h2 h3
  have HB := Lib.hid B0
  have Z0 := hz.on B0 (Nat.le_refl _)
  have HZ := Lib.hid (fun (X : World) (hX : Below W.heap.size W X) => Z0.on hX (Nat.le_refl _))
  have HF := Lib.hid (fun (X : World) (hX : Below W.heap.size W X) => ((X1.on hX (Nat.le_refl _)).cells : X.cell? ⟨w.heap.size, 0, none⟩ = some (.slice z.p.a1 z.s.feeds.length z.p.c1) ∧ X.cell? ⟨w.heap.size, 1, none⟩ = some (.slice z.p.a2 z.s.brks.length z.p.c2) ∧ X.cell? ⟨w.heap.size, 2, none⟩ = some (.slice z.p.a3 z.s.loops.length z.p.c3) ∧ X.cell? ⟨w.heap.size, 3, none⟩ = some (.slice z.p.a4 z.s.racks.length z.p.c4) ∧ X.cell? ⟨w.heap.size, 4, none⟩ = some (.int .i64 z.s.sw) ∧ X.cell? ⟨w.heap.size, 5, none⟩ = some (.slice z.p.a5 z.s.links.length z.p.c5) ∧ X.cell? ⟨w.heap.size, 6, none⟩ = some (.slice z.p.a6 z.s.hosts.length z.p.c6) ∧ X.cell? ⟨w.heap.size + 1, 0, none⟩ = some (.slice z.A z.xs.length z.c) ∧ X.cell? ⟨w.heap.size + 1 + 1, 0, none⟩ = some (.slice z.q.a1 z.d.hosts.length z.q.c1) ∧ X.cell? ⟨w.heap.size + 1 + 1, 1, none⟩ = some (.slice z.q.a2 z.d.reps.length z.q.c2)))
  have HX := Lib.hid (fun (X : World) (hX : Below W.heap.size W X) => X1.on hX (Nat.le_refl _))
  have HKW := Lib.hid (Below.refl W.heap.size W)
  have hle := HB.out.size
  obtain ⟨n1, n2, n3, n4, n5, n6, n7, n8⟩ := hz.bounds
  have HR := Lib.hid hr
  clear hr
  clear hz B0 X1 z3 Z0
  obtain ⟨f0, f1, f2, f3, f4, f5, f6, g0, g1, g2⟩ := HF.out W HKW.out
  rw [h3, h2, h1] at f0 f1 f2 f3 f4 f5 f6 g0 g1 g2
  generalize hBB : w.heap.size = B at *
  go_enter Tryz.func10, Tryz.ntmps10
  rcases hd0 : decide ((z.s.feeds.length : Int) ≤ 60) with _ | _
  · have HDD := Lib.hid hd0
    obtain rfl : false = r := by
      rcases r with _ | _
      · rfl
      · exact absurd (HR.out.1 rfl) (fun h => by unfold FewI at h; have h2 := of_decide_eq_false HDD.out; omega)
    clear HDD
    go_wp2_with (fail)
    rw [← h1, ← h2, ← h3]
    go_ret
    exact ⟨rfl, HB.out⟩
  rcases hd1 : decide ((z.s.brks.length : Int) ≤ 60) with _ | _
  · have HDD := Lib.hid hd1
    obtain rfl : false = r := by
      rcases r with _ | _
      · rfl
      · exact absurd (HR.out.1 rfl) (fun h => by unfold FewI at h; have h2 := of_decide_eq_false HDD.out; omega)
    clear HDD
    go_wp2_with (fail)
    rw [← h1, ← h2, ← h3]
    go_ret
    exact ⟨rfl, HB.out⟩
  rcases hd2 : decide ((z.s.loops.length : Int) ≤ 60) with _ | _
  · have HDD := Lib.hid hd2
    obtain rfl : false = r := by
      rcases r with _ | _
      · rfl
      · exact absurd (HR.out.1 rfl) (fun h => by unfold FewI at h; have h2 := of_decide_eq_false HDD.out; omega)
    clear HDD
    go_wp2_with (fail)
    rw [← h1, ← h2, ← h3]
    go_ret
    exact ⟨rfl, HB.out⟩
  rcases hd3 : decide ((z.s.racks.length : Int) ≤ 60) with _ | _
  · have HDD := Lib.hid hd3
    obtain rfl : false = r := by
      rcases r with _ | _
      · rfl
      · exact absurd (HR.out.1 rfl) (fun h => by unfold FewI at h; have h2 := of_decide_eq_false HDD.out; omega)
    clear HDD
    go_wp2_with (fail)
    rw [← h1, ← h2, ← h3]
    go_ret
    exact ⟨rfl, HB.out⟩
  rcases hd4 : decide ((z.s.links.length : Int) ≤ 10) with _ | _
  · have HDD := Lib.hid hd4
    obtain rfl : false = r := by
      rcases r with _ | _
      · rfl
      · exact absurd (HR.out.1 rfl) (fun h => by unfold FewI at h; have h2 := of_decide_eq_false HDD.out; omega)
    clear HDD
    go_wp2_with (fail)
    rw [← h1, ← h2, ← h3]
    go_ret
    exact ⟨rfl, HB.out⟩
  rcases hd5 : decide ((z.s.hosts.length : Int) ≤ 60) with _ | _
  · have HDD := Lib.hid hd5
    obtain rfl : false = r := by
      rcases r with _ | _
      · rfl
      · exact absurd (HR.out.1 rfl) (fun h => by unfold FewI at h; have h2 := of_decide_eq_false HDD.out; omega)
    clear HDD
    go_wp2_with (fail)
    rw [← h1, ← h2, ← h3]
    go_ret
    exact ⟨rfl, HB.out⟩
  rcases hd6 : decide ((z.xs.length : Int) ≤ 60) with _ | _
  · have HDD := Lib.hid hd6
    obtain rfl : false = r := by
      rcases r with _ | _
      · rfl
      · exact absurd (HR.out.1 rfl) (fun h => by unfold FewI at h; have h2 := of_decide_eq_false HDD.out; omega)
    clear HDD
    go_wp2_with (fail)
    rw [← h1, ← h2, ← h3]
    go_ret
    exact ⟨rfl, HB.out⟩
  rcases hd7 : decide ((z.d.hosts.length : Int) ≤ 60) with _ | _
  · have HDD := Lib.hid hd7
    obtain rfl : false = r := by
      rcases r with _ | _
      · rfl
      · exact absurd (HR.out.1 rfl) (fun h => by unfold FewI at h; have h2 := of_decide_eq_false HDD.out; omega)
    clear HDD
    go_wp2_with (fail)
    rw [← h1, ← h2, ← h3]
    go_ret
    exact ⟨rfl, HB.out⟩
  rcases hd8 : decide ((z.d.reps.length : Int) ≤ 60) with _ | _
  · have HDD := Lib.hid hd8
    obtain rfl : false = r := by
      rcases r with _ | _
      · rfl
      · exact absurd (HR.out.1 rfl) (fun h => by unfold FewI at h; have h2 := of_decide_eq_false HDD.out; omega)
    clear HDD
    go_wp2_with (fail)
    rw [← h1, ← h2, ← h3]
    go_ret
    exact ⟨rfl, HB.out⟩
  obtain rfl : true = r := by
    refine (HR.out.2 ?_).symm
    unfold FewI
    have l0 := of_decide_eq_true hd0; have l1 := of_decide_eq_true hd1; have l2 := of_decide_eq_true hd2; have l3 := of_decide_eq_true hd3; have l4 := of_decide_eq_true hd4; have l5 := of_decide_eq_true hd5; have l6 := of_decide_eq_true hd6; have l7 := of_decide_eq_true hd7; have l8 := of_decide_eq_true hd8
    omega
  go_wp2_with (fail)
  rw [← h1, ← h2, ← h3]
  go_ret
  exact ⟨rfl, HB.out⟩
/-- The laws' site and wish. -/
def exD : SiteD := ⟨[1000], [⟨0, 500, 0, 0⟩], [⟨1000, 0⟩], [⟨0, 0, 0, 0⟩, ⟨2, 0, 0, 0⟩], 1, [], [⟨0, 4, 0, 0⟩, ⟨0, 4, 0, 0⟩, ⟨1, 4, 0, 0⟩]⟩
def exP (b : Nat) : SP := ⟨some ⟨b + 1, 0, none⟩, 1, some ⟨b + 1 + 1, 0, none⟩, 1, some ⟨b + 1 + 1 + 1, 0, none⟩, 1, some ⟨b + 1 + 1 + 1 + 1, 0, none⟩, 2, none, 0, some ⟨b + 1 + 1 + 1 + 1 + 1, 0, none⟩, 3⟩
def exS : List Svc := [⟨3, 2, 1, 2, 1, [], [], 0⟩, ⟨2, 1, 0, 0, 0, [0], [], 0⟩]
def wxs (b : Nat) : List (Svc × SvA) := [(⟨3, 2, 1, 2, 1, [], [], 0⟩, ⟨none, 0, none, 0⟩), (⟨2, 1, 0, 0, 0, [0], [], 0⟩, ⟨some ⟨b, 0, none⟩, 1, none, 0⟩)]
theorem rw_block14 {α : Type} {k : Nat} {F : α → Nat → Int} {l : List α} {w : World} {b : Nat} {T : TypeId} (h : w.heap[b]? = some (.cells (cellsV k (fun x i => .int .i64 (F x i)) l).toArray T (0, 0))) (hl : l.length ≤ maxLen) : Rw k F w (some ⟨b, 0, none⟩) l.length l := rv_int (rv_block h hl)
theorem ret7 {fn : Func} {a : Act} {W : World} {R : Ending → World → Prop} {b i : Nat} {x0 x1 x2 x3 x4 x5 x6 : Value} (hfn : fn.results = #[.cell i 29]) (hp : a.tmps[i]?.getD undef = .pointer (some ⟨b, 0, none⟩)) (hd : a.defers = [])
    (h : W.heap[b]? = some (.cells #[x0, x1, x2, x3, x4, x5, x6] 29 (0, 0))) (hR : R (.returned (.agg #[x0, x1, x2, x3, x4, x5, x6])) W) : bodyPost Tryz.prog fn R .ret a W := by
  have c0 : W.cell? ⟨b, 0, none⟩ = some x0 := cell_of h rfl; have c1 : W.cell? ⟨b, 1, none⟩ = some x1 := cell_of h rfl; have c2 : W.cell? ⟨b, 2, none⟩ = some x2 := cell_of h rfl; have c3 : W.cell? ⟨b, 3, none⟩ = some x3 := cell_of h rfl; have c4 : W.cell? ⟨b, 4, none⟩ = some x4 := cell_of h rfl; have c5 : W.cell? ⟨b, 5, none⟩ = some x5 := cell_of h rfl; have c6 : W.cell? ⟨b, 6, none⟩ = some x6 := cell_of h rfl
  exact bodyPost_ret (v := .agg #[x0, x1, x2, x3, x4, x5, x6]) (by simp [results, hfn, hp, go_sem, c0, c1, c2, c3, c4, c5, c6]) hd hR
theorem ret1w {fn : Func} {a : Act} {W : World} {R : Ending → World → Prop} {b i : Nat} {x0 : Value} (hfn : fn.results = #[.cell i 32]) (hp : a.tmps[i]?.getD undef = .pointer (some ⟨b, 0, none⟩)) (hd : a.defers = [])
    (h : W.heap[b]? = some (.cells #[x0] 32 (0, 0))) (hR : R (.returned (.agg #[x0])) W) : bodyPost Tryz.prog fn R .ret a W := by
  have c0 : W.cell? ⟨b, 0, none⟩ = some x0 := cell_of h rfl
  exact bodyPost_ret (v := .agg #[x0]) (by simp [results, hfn, hp, go_sem, c0]) hd hR
theorem ret2w {fn : Func} {a : Act} {W : World} {R : Ending → World → Prop} {b i : Nat} {x0 x1 : Value} (hfn : fn.results = #[.cell i 36]) (hp : a.tmps[i]?.getD undef = .pointer (some ⟨b, 0, none⟩)) (hd : a.defers = [])
    (h : W.heap[b]? = some (.cells #[x0, x1] 36 (0, 0))) (hR : R (.returned (.agg #[x0, x1])) W) : bodyPost Tryz.prog fn R .ret a W := by
  have c0 : W.cell? ⟨b, 0, none⟩ = some x0 := cell_of h rfl
  have c1 : W.cell? ⟨b, 1, none⟩ = some x1 := cell_of h rfl
  exact bodyPost_ret (v := .agg #[x0, x1]) (by simp [results, hfn, hp, go_sem, c0, c1]) hd hR
set_option maxHeartbeats 16000000 in
theorem c_site (w : World) : Calls Tryz.prog 25 #[] w fun e w' => e = .returned (siV (exP w.heap.size) exD) ∧ SiAt w' (exP w.heap.size) exD ∧ Below w.heap.size w w' := by
  obtain ⟨E0, h0⟩ : ∃ X, X = w.alloc (.cells #[.slice (some ⟨w.heap.size + 1, 0, none⟩) 1 1, .slice (some ⟨w.heap.size + 1 + 1, 0, none⟩) 1 1, .slice (some ⟨w.heap.size + 1 + 1 + 1, 0, none⟩) 1 1, .slice (some ⟨w.heap.size + 1 + 1 + 1 + 1, 0, none⟩) 2 2, .int .i64 1, .slice none 0 0, .slice (some ⟨w.heap.size + 1 + 1 + 1 + 1 + 1, 0, none⟩) 3 3] 29) := ⟨_, rfl⟩
  obtain ⟨E1, h1⟩ : ∃ X, X = E0.alloc (.cells #[.int .i64 1000] 81) := ⟨_, rfl⟩
  obtain ⟨E2, h2⟩ : ∃ X, X = E1.alloc (.cells #[.int .i64 0, .int .i64 500, .int .i64 0, .int .i64 0] 83) := ⟨_, rfl⟩
  obtain ⟨E3, h3⟩ : ∃ X, X = E2.alloc (.cells #[.int .i64 1000, .int .i64 0] 85) := ⟨_, rfl⟩
  obtain ⟨E4, h4⟩ : ∃ X, X = E3.alloc (.cells #[.int .i64 0, .int .i64 0, .int .i64 0, .int .i64 0, .int .i64 2, .int .i64 0, .int .i64 0, .int .i64 0] 87) := ⟨_, rfl⟩
  obtain ⟨E5, h5⟩ : ∃ X, X = E4.alloc (.cells #[.int .i64 0, .int .i64 4, .int .i64 0, .int .i64 0, .int .i64 0, .int .i64 4, .int .i64 0, .int .i64 0, .int .i64 1, .int .i64 4, .int .i64 0, .int .i64 0] 89) := ⟨_, rfl⟩
  have z0 : E0.heap.size = w.heap.size + 1 := by rw [h0, World.size_alloc]
  have z1 : E1.heap.size = w.heap.size + 1 + 1 := by rw [h1, World.size_alloc, z0]
  have z2 : E2.heap.size = w.heap.size + 1 + 1 + 1 := by rw [h2, World.size_alloc, z1]
  have z3 : E3.heap.size = w.heap.size + 1 + 1 + 1 + 1 := by rw [h3, World.size_alloc, z2]
  have z4 : E4.heap.size = w.heap.size + 1 + 1 + 1 + 1 + 1 := by rw [h4, World.size_alloc, z3]
  have z5 : E5.heap.size = w.heap.size + 1 + 1 + 1 + 1 + 1 + 1 := by rw [h5, World.size_alloc, z4]
  have g0 : E0.heap[w.heap.size]? = some (.cells #[.slice (some ⟨w.heap.size + 1, 0, none⟩) 1 1, .slice (some ⟨w.heap.size + 1 + 1, 0, none⟩) 1 1, .slice (some ⟨w.heap.size + 1 + 1 + 1, 0, none⟩) 1 1, .slice (some ⟨w.heap.size + 1 + 1 + 1 + 1, 0, none⟩) 2 2, .int .i64 1, .slice none 0 0, .slice (some ⟨w.heap.size + 1 + 1 + 1 + 1 + 1, 0, none⟩) 3 3] 29 (0, 0)) := by rw [h0]; exact heap_alloc_new _ _
  have G0 : E5.heap[w.heap.size]? = some (.cells #[.slice (some ⟨w.heap.size + 1, 0, none⟩) 1 1, .slice (some ⟨w.heap.size + 1 + 1, 0, none⟩) 1 1, .slice (some ⟨w.heap.size + 1 + 1 + 1, 0, none⟩) 1 1, .slice (some ⟨w.heap.size + 1 + 1 + 1 + 1, 0, none⟩) 2 2, .int .i64 1, .slice none 0 0, .slice (some ⟨w.heap.size + 1 + 1 + 1 + 1 + 1, 0, none⟩) 3 3] 29 (0, 0)) := by rw [h5]; refine old_heap _ ?_; rw [h4]; refine old_heap _ ?_; rw [h3]; refine old_heap _ ?_; rw [h2]; refine old_heap _ ?_; rw [h1]; refine old_heap _ ?_; exact g0
  have g1 : E1.heap[w.heap.size + 1]? = some (.cells #[.int .i64 1000] 81 (0, 0)) := by rw [← z0]; rw [h1]; exact heap_alloc_new _ _
  have G1 : E5.heap[w.heap.size + 1]? = some (.cells #[.int .i64 1000] 81 (0, 0)) := by rw [h5]; refine old_heap _ ?_; rw [h4]; refine old_heap _ ?_; rw [h3]; refine old_heap _ ?_; rw [h2]; refine old_heap _ ?_; exact g1
  have g2 : E2.heap[w.heap.size + 1 + 1]? = some (.cells #[.int .i64 0, .int .i64 500, .int .i64 0, .int .i64 0] 83 (0, 0)) := by rw [← z1]; rw [h2]; exact heap_alloc_new _ _
  have G2 : E5.heap[w.heap.size + 1 + 1]? = some (.cells #[.int .i64 0, .int .i64 500, .int .i64 0, .int .i64 0] 83 (0, 0)) := by rw [h5]; refine old_heap _ ?_; rw [h4]; refine old_heap _ ?_; rw [h3]; refine old_heap _ ?_; exact g2
  have g3 : E3.heap[w.heap.size + 1 + 1 + 1]? = some (.cells #[.int .i64 1000, .int .i64 0] 85 (0, 0)) := by rw [← z2]; rw [h3]; exact heap_alloc_new _ _
  have G3 : E5.heap[w.heap.size + 1 + 1 + 1]? = some (.cells #[.int .i64 1000, .int .i64 0] 85 (0, 0)) := by rw [h5]; refine old_heap _ ?_; rw [h4]; refine old_heap _ ?_; exact g3
  have g4 : E4.heap[w.heap.size + 1 + 1 + 1 + 1]? = some (.cells #[.int .i64 0, .int .i64 0, .int .i64 0, .int .i64 0, .int .i64 2, .int .i64 0, .int .i64 0, .int .i64 0] 87 (0, 0)) := by rw [← z3]; rw [h4]; exact heap_alloc_new _ _
  have G4 : E5.heap[w.heap.size + 1 + 1 + 1 + 1]? = some (.cells #[.int .i64 0, .int .i64 0, .int .i64 0, .int .i64 0, .int .i64 2, .int .i64 0, .int .i64 0, .int .i64 0] 87 (0, 0)) := by rw [h5]; refine old_heap _ ?_; exact g4
  have g5 : E5.heap[w.heap.size + 1 + 1 + 1 + 1 + 1]? = some (.cells #[.int .i64 0, .int .i64 4, .int .i64 0, .int .i64 0, .int .i64 0, .int .i64 4, .int .i64 0, .int .i64 0, .int .i64 1, .int .i64 4, .int .i64 0, .int .i64 0] 89 (0, 0)) := by rw [← z4]; rw [h5]; exact heap_alloc_new _ _
  have G5 : E5.heap[w.heap.size + 1 + 1 + 1 + 1 + 1]? = some (.cells #[.int .i64 0, .int .i64 4, .int .i64 0, .int .i64 0, .int .i64 0, .int .i64 4, .int .i64 0, .int .i64 0, .int .i64 1, .int .i64 4, .int .i64 0, .int .i64 0] 89 (0, 0)) := by exact g5
  have BN : Below w.heap.size w E5 := by rw [h5]; refine Below.alloc ?_ (by omega) _; rw [h4]; refine Below.alloc ?_ (by omega) _; rw [h3]; refine Below.alloc ?_ (by omega) _; rw [h2]; refine Below.alloc ?_ (by omega) _; rw [h1]; refine Below.alloc ?_ (by omega) _; rw [h0]; exact (Below.refl _ _).alloc (Nat.le_refl _) _
  have HG := Lib.hid (And.intro G0 (And.intro G1 (And.intro G2 (And.intro G3 (And.intro G4 (G5))))))
  have HB := Lib.hid BN
  have HE := Lib.hid h5
  clear BN g0 G0 z0 g1 G1 z1 g2 G2 z2 g3 G3 z3 g4 G4 z4 g5 G5 z5 h5
  subst h4 h3 h2 h1 h0
  go_enter Tryz.func25, Tryz.ntmps25
  go_wp2_with (fail)
  rw [← HE.out]
  obtain ⟨G0, G1, G2, G3, G4, G5⟩ := HG.out
  exact ret7 (i := 0) (b := w.heap.size) rfl rfl rfl G0 ⟨rfl, ⟨rw_block14 (α := Int) (k := 1) (F := inF) (l := [1000]) G1 (by simp [maxLen]), rw_block14 (α := Brk) (k := 4) (F := brkF) (l := [⟨0, 500, 0, 0⟩]) G2 (by simp [maxLen]), rw_block14 (α := Lp) (k := 2) (F := lpF) (l := [⟨1000, 0⟩]) G3 (by simp [maxLen]), rw_block14 (α := Rk) (k := 4) (F := rkF) (l := [⟨0, 0, 0, 0⟩, ⟨2, 0, 0, 0⟩]) G4 (by simp [maxLen]), Rw.nil _ _, rw_block14 (α := Hs) (k := 4) (F := hsF) (l := [⟨0, 4, 0, 0⟩, ⟨0, 4, 0, 0⟩, ⟨1, 4, 0, 0⟩]) G5 (by simp [maxLen])⟩, HB.out⟩
theorem wxs_at {X : World} {b b1 : Nat} (h : X.heap[b]? = some (.cells (cellsV 8 svV (wxs b1)).toArray 94 (0, 0))) (h1 : X.heap[b1]? = some (.cells #[.int .i64 0] 3 (0, 0))) : WiAt X (some ⟨b, 0, none⟩) 2 (wxs b1) := by
  refine ⟨rv_block (l := wxs b1) h (by simp [wxs, maxLen]), fun x hx => ?_⟩
  rcases List.mem_cons.1 hx with rfl | hx
  · exact ⟨Rv.nil _, Rv.nil _, by decide⟩
  rcases List.mem_cons.1 hx with rfl | hx
  · exact ⟨rv_block (k := 1) (F := inV) (l := [0]) h1 (by simp [maxLen]), Rv.nil _, (by show (0 : Nat) < 256; omega)⟩
  · cases hx
set_option maxHeartbeats 8000000 in
theorem c_wish (w : World) : Calls Tryz.prog 26 #[] w fun e w' => e = .returned (.agg #[.slice (some ⟨w.heap.size + 1 + 1, 0, none⟩) 2 2]) ∧ WiAt w' (some ⟨w.heap.size + 1 + 1, 0, none⟩) 2 (wxs (w.heap.size + 1)) ∧ Below w.heap.size w w' := by
  obtain ⟨E0, h0⟩ : ∃ X, X = w.alloc (.cells #[.slice (some ⟨w.heap.size + 1 + 1, 0, none⟩) 2 2] 32) := ⟨_, rfl⟩
  obtain ⟨E1, h1⟩ : ∃ X, X = E0.alloc (.cells #[.int .i64 0] 3) := ⟨_, rfl⟩
  obtain ⟨E2, h2⟩ : ∃ X, X = E1.alloc (.cells #[.int .i64 3, .int .i64 2, .int .i64 1, .int .u8 2, .int .i64 1, .slice none 0 0, .slice none 0 0, .int .i64 0, .int .i64 2, .int .i64 1, .int .i64 0, .int .u8 0, .int .i64 0, .slice (some ⟨w.heap.size + 1, 0, none⟩) 1 1, .slice none 0 0, .int .i64 0] 94) := ⟨_, rfl⟩
  have z0 : E0.heap.size = w.heap.size + 1 := by rw [h0, World.size_alloc]
  have z1 : E1.heap.size = w.heap.size + 1 + 1 := by rw [h1, World.size_alloc, z0]
  have z2 : E2.heap.size = w.heap.size + 1 + 1 + 1 := by rw [h2, World.size_alloc, z1]
  have g0 : E0.heap[w.heap.size]? = some (.cells #[.slice (some ⟨w.heap.size + 1 + 1, 0, none⟩) 2 2] 32 (0, 0)) := by rw [h0]; exact heap_alloc_new _ _
  have G0 : E2.heap[w.heap.size]? = some (.cells #[.slice (some ⟨w.heap.size + 1 + 1, 0, none⟩) 2 2] 32 (0, 0)) := by rw [h2]; refine old_heap _ ?_; rw [h1]; refine old_heap _ ?_; exact g0
  have g1 : E1.heap[w.heap.size + 1]? = some (.cells #[.int .i64 0] 3 (0, 0)) := by rw [← z0]; rw [h1]; exact heap_alloc_new _ _
  have G1 : E2.heap[w.heap.size + 1]? = some (.cells #[.int .i64 0] 3 (0, 0)) := by rw [h2]; refine old_heap _ ?_; exact g1
  have g2 : E2.heap[w.heap.size + 1 + 1]? = some (.cells #[.int .i64 3, .int .i64 2, .int .i64 1, .int .u8 2, .int .i64 1, .slice none 0 0, .slice none 0 0, .int .i64 0, .int .i64 2, .int .i64 1, .int .i64 0, .int .u8 0, .int .i64 0, .slice (some ⟨w.heap.size + 1, 0, none⟩) 1 1, .slice none 0 0, .int .i64 0] 94 (0, 0)) := by rw [← z1]; rw [h2]; exact heap_alloc_new _ _
  have G2 : E2.heap[w.heap.size + 1 + 1]? = some (.cells #[.int .i64 3, .int .i64 2, .int .i64 1, .int .u8 2, .int .i64 1, .slice none 0 0, .slice none 0 0, .int .i64 0, .int .i64 2, .int .i64 1, .int .i64 0, .int .u8 0, .int .i64 0, .slice (some ⟨w.heap.size + 1, 0, none⟩) 1 1, .slice none 0 0, .int .i64 0] 94 (0, 0)) := by exact g2
  have BN : Below w.heap.size w E2 := by rw [h2]; refine Below.alloc ?_ (by omega) _; rw [h1]; refine Below.alloc ?_ (by omega) _; rw [h0]; exact (Below.refl _ _).alloc (Nat.le_refl _) _
  have HG := Lib.hid (And.intro G0 (And.intro G1 (G2)))
  have HB := Lib.hid BN
  have HE := Lib.hid h2
  clear BN g0 G0 z0 g1 G1 z1 g2 G2 z2 h2
  subst h1 h0
  go_enter Tryz.func26, Tryz.ntmps26
  go_wp2_with (fail)
  rw [← HE.out]
  obtain ⟨G0, G1, G2⟩ := HG.out
  exact ret1w (i := 0) (b := w.heap.size) rfl rfl rfl G0 ⟨rfl, wxs_at G2 G1, HB.out⟩
def hz3 : List Hst := [⟨0, 0⟩, ⟨0, 0⟩, ⟨0, 0⟩]
theorem made3 : (madeCells (.agg #[.int .u8 0, .int .i64 0] : Value).cells (3 * 2)).toList = cellsV 2 hstV hz3 := by kernel_rfl
theorem own_cur2 {w : World} {base n g : Nat} {T : TypeId} {xs : List Value} (h : w.ownsRow base T 2 (.slice (some ⟨g, 0, none⟩) n n) n xs) : w.heap[g]? = some (.cells xs.toArray T (0, 0)) := by
  obtain ⟨k1, ⟨e, -⟩ | ⟨g', cap', cur, e, k3, k4, k5, k6, k7, k8⟩⟩ := h
  · cases e
  · injection e with e1 _ e2
    injection e1 with e1
    injection e1 with e1
    subst e1 e2
    rw [k4]
    have : cur = xs.toArray := by
      apply Array.ext'
      rw [← k8, List.take_of_length_le (by simp; omega)]
    rw [this]
set_option maxHeartbeats 8000000 in
theorem c_world (A : Option Addr) (c : Nat) (l : List Rep) (w : World) (h : Rv 2 repV w A c l) : Calls Tryz.prog 24 #[.slice A l.length c] w fun e w' => ∃ q, e = .returned (.agg #[.slice q.a1 3 q.c1, .slice q.a2 l.length q.c2]) ∧ WoAt w' q ⟨hz3, l⟩ ∧ Below w.heap.size w w' := by
  obtain ⟨i0, hi0, hz0, hz1, hz2⟩ := info_parts hst_info
  obtain ⟨E0, h0⟩ : ∃ X, X = w.alloc (.cells #[.slice none 0 0, .slice none 0 0] 36) := ⟨_, rfl⟩
  have B0 : Below w.heap.size w E0 := by rw [h0]; exact (Below.refl _ _).alloc (Nat.le_refl _) _
  have b0 : E0.heap[w.heap.size]? = some (.cells #[.slice none 0 0, .slice none 0 0] 36 (0, 0)) := by rw [h0]; exact box_new _ _ _
  have HS := Lib.hid (show E0.heap.size = w.heap.size + 1 by rw [h0, World.size_alloc])
  have HB := Lib.hid B0
  have HB0 := Lib.hid b0
  have HH := Lib.hid h
  clear B0 b0 h
  go_enter Tryz.func24, Tryz.ntmps24
  go_wp2_with (at_make; rw [← h0]; refine wpList_make_full (P := Tryz.prog) _ rfl _ _ 33 rfl E0.heap.size 58 i0 (.agg #[.int .u8 0, .int .i64 0]) 2 Tryz.underlying33 hi0 hz0 hz1 .i64 .i64 _ _ 3 rfl rfl rfl rfl (by rw [hz2]; decide) (by decide) (Nat.le_refl _) ?_; intro w1 ho1 hg1; have HR1 := Lib.hid (own_cur2 ho1); have HKY := Lib.hid ((Below.refl E0.heap.size E0).grown hg1 (Nat.le_refl _) (fun k hk => by cases hk)); have v0 : w1.cell? ⟨w.heap.size, 0, none⟩ = some (.slice none 0 0) := cell_of (box_on HB0.out HKY.out (Nat.le_refl _)) rfl; have v1 : w1.cell? ⟨w.heap.size, 1, none⟩ = some (.slice none 0 0) := cell_of (box_on HB0.out HKY.out (Nat.le_refl _)) rfl; have u0 : w1.frozen? ⟨w.heap.size, 0, none⟩ = false := frz0 (box_on HB0.out HKY.out (Nat.le_refl _)) 0; have u1 : w1.frozen? ⟨w.heap.size, 1, none⟩ = false := frz0 (box_on HB0.out HKY.out (Nat.le_refl _)) 1; clear ho1 hg1)
  have e1 := HS.out
  have e2 := HKY.out.size
  have hrow : w1.heap[w.heap.size + 1]? = some (.cells (cellsV 2 hstV hz3).toArray 58 (0, 0)) := by
    have h := HR1.out
    rw [made3, e1] at h
    exact h
  have hbe : Below w.heap.size w ((w1.setCell ⟨w.heap.size, 0, none⟩ (.slice (some ⟨w.heap.size + 1, 0, none⟩) 3 3)).setCell ⟨w.heap.size, 1, none⟩ (.slice A l.length c)) := ((HB.out.trans (HKY.out.mono HB.out.size)).setCell (p := ⟨w.heap.size, 0, none⟩) (Nat.le_refl _) _).setCell (p := ⟨w.heap.size, 1, none⟩) (Nat.le_refl _) _
  refine ret2w (i := 2) (b := w.heap.size) rfl rfl rfl (row_store2 (box_on HB0.out HKY.out (Nat.le_refl _)) _ _) ⟨⟨some ⟨w.heap.size + 1, 0, none⟩, 3, A, c⟩, by first | rfl | (rw [e1]; rfl), ⟨?_, HH.out.on ?_ (Nat.le_refl _), (show ∀ h ∈ hz3, h.phase < 256 by decide)⟩, ?_⟩
  · try rw [e1]
    exact rv_block (l := hz3) (set_else (set_else hrow (by omega)) (by omega)) (by simp [hz3, maxLen])
  · try rw [e1]
    exact hbe
  · try rw [e1]
    exact hbe
theorem c_siteTo (w : World) : Calls Tryz.prog 25 #[] w fun e w' => ∃ p, e = .returned (.agg #[.slice p.a1 1 p.c1, .slice p.a2 1 p.c2, .slice p.a3 1 p.c3, .slice p.a4 2 p.c4, .int .i64 1, .slice p.a5 0 p.c5, .slice p.a6 3 p.c6]) ∧ SiAt w' p exD ∧ Below w.heap.size w w' := (c_site w).mono fun e w' h => ⟨_, h.1, h.2.1, h.2.2⟩
theorem c_wishTo (w : World) : Calls Tryz.prog 26 #[] w fun e w' => ∃ A c b, e = .returned (.agg #[.slice A 2 c]) ∧ WiAt w' A c (wxs b) ∧ Below w.heap.size w w' := (c_wish w).mono fun e w' h => ⟨_, _, _, h.1, h.2.1, h.2.2⟩
end Go.Proofs.YtbbadnlaelgmlaaGreat

namespace Go.Proofs.YtbbadnlaelgmlaaGreat
set_option linter.unusedVariables false
set_option linter.unusedSimpArgs false
set_option maxRecDepth 100000

theorem exWish : WishOk exS := by
  refine ⟨by decide, fun i s h => ?_, by decide⟩
  match i, h with
  | 0, h => obtain rfl : _ = s := Option.some.inj h; decide +kernel
  | 1, h => obtain rfl : _ = s := Option.some.inj h; decide +kernel
def W0 : WorldD := ⟨hz3, []⟩
def W1 : WorldD := ⟨hz3, [⟨0, 0⟩, ⟨0, 2⟩]⟩
def W2 : WorldD := ⟨hz3, [⟨0, 0⟩, ⟨0, 1⟩, ⟨1, 0⟩]⟩
def W3 : WorldD := ⟨[⟨3, 0⟩, ⟨0, 0⟩, ⟨0, 0⟩], [⟨0, 0⟩]⟩
theorem ok1 : WorldOk exD exS W1 := ⟨by decide +kernel, exWish, by decide, by decide +kernel, by decide, by decide +kernel, by decide +kernel⟩
theorem ok2 : WorldOk exD exS W2 := ⟨by decide +kernel, exWish, by decide, by decide +kernel, by decide, by decide +kernel, by decide +kernel⟩
theorem br1 : bnV exD exS W1 true = [] := by decide +kernel
theorem br2 : bnV exD exS W2 true = [⟨1, 0, 0⟩, ⟨4, 0, 0⟩, ⟨5, 1, 0⟩] := by decide +kernel
end Go.Proofs.YtbbadnlaelgmlaaGreat

namespace Go.Proofs.YtbbadnlaelgmlaaGreat
open Go.RowKit
set_option maxRecDepth 100000
set_option linter.unusedVariables false
set_option linter.unusedSimpArgs false

theorem c_worldN (A : Option Addr) (c : Nat) (l : List Rep) (n : Nat) (hn : l.length = n) (w : World) (h : Rv 2 repV w A c l) : Calls Tryz.prog 24 #[.slice A n c] w fun e w' => ∃ q, e = .returned (.agg #[.slice q.a1 3 q.c1, .slice q.a2 n q.c2]) ∧ WoAt w' q ⟨hz3, l⟩ ∧ Below w.heap.size w w' := by
  subst hn; exact c_world A c l w h
set_option maxHeartbeats 64000000 in
theorem c_live (w : World) : Calls Tryz.prog 11 #[] w fun e w' => e = .returned (.bool true) ∧ Below w.heap.size w w' := by
  obtain ⟨E1, h1⟩ : ∃ X, X = w.alloc (.cells #[.int .i64 0, .int .i64 0, .int .i64 0, .int .i64 1, .int .i64 1, .int .i64 0] 53) := ⟨_, rfl⟩
  have B1 : Below w.heap.size w E1 := by rw [h1]; exact (Below.refl _ _).alloc (Nat.le_refl _) _
  have RV1 := Lib.hid (rv_block (k := 2) (F := repV) (l := W2.reps) (w := E1) (b := w.heap.size) (T := 53) (by rw [h1]; exact box_new _ _ _) (by simp [W2, maxLen]))
  have HB1 := Lib.hid B1
  clear B1
  go_enter Tryz.func11, Tryz.ntmps11
  go_wp2_with (fail)
  rw [← h1]
  clear h1
  go_at_call 24
  refine (c_worldN (some ⟨w.heap.size, 0, none⟩) 3 W2.reps 3 rfl E1 RV1.out).mono ?_
  rintro e v1 ⟨q2, rfl, hw2, bb⟩
  have HBv := Lib.hid (below_join HB1.out bb HB1.out.size)
  obtain ⟨V, hV⟩ : ∃ X, X = v1.alloc (.cells #[.slice q2.a1 3 q2.c1, .slice q2.a2 3 q2.c2] 36) := ⟨_, rfl⟩
  have bV : Below v1.heap.size v1 V := by rw [hV]; exact (Below.refl _ _).alloc (Nat.le_refl _) _
  have HB := Lib.hid (below_join HBv.out bV HBv.out.size)
  have HW0 := hw2.on bV (Nat.le_refl _)
  have hbx : V.heap[v1.heap.size]? = some (.cells #[.slice q2.a1 3 q2.c1, .slice q2.a2 3 q2.c2] 36 (0, 0)) := by rw [hV]; exact box_new _ _ _
  have HW := Lib.hid (fun (X : World) (hX : Below V.heap.size V X) => (HW0.on hX (Nat.le_refl _) : WoAt X q2 W2))
  have HS := Lib.hid (fun (X : World) (hX : Below V.heap.size V X) => (⟨cell_of (box_on hbx hX (Nat.le_refl _)) rfl, cell_of (box_on hbx hX (Nat.le_refl _)) rfl⟩ : X.cell? ⟨v1.heap.size, 0, none⟩ = some (.slice q2.a1 3 q2.c1) ∧ X.cell? ⟨v1.heap.size, 1, none⟩ = some (.slice q2.a2 3 q2.c2)))
  clear bb hw2 bV HW0 hbx HB1 HBv RV1
  go_wp2_with (fail)
  rw [← hV]
  clear hV
  generalize hgb : v1.heap.size = gb at *
  clear hgb
  refine wp_region_held_drew (S := fun X => X.cell? ⟨gb, 0, none⟩ = some (.slice q2.a1 3 q2.c1) ∧ X.cell? ⟨gb, 1, none⟩ = some (.slice q2.a2 3 q2.c2)) (by kernel_rfl) (HS.out _ (Below.refl _ _).drew) (fun hHeld => ?_)
  have HKX0 := Lib.hid (show Below V.heap.size V V.drew from (Below.refl _ _).drew)
  generalize hX0 : V.drew = X0 at *
  clear hX0
  refine takeH (i := 2) 9 (v := ?_) rfl rfl (by kernel_rfl) (by kernel_rfl) (by kernel_rfl) (fun _ _ _ h => h) (by rfl) ?_ hHeld ?_
  rotate_left
  · intro X hX; first | (go_simp; done) | (go_simp; with_reducible rfl)
  try simp only [Act.put, setIfInBounds_toArray, set_cons_zero, set_cons_succ]
  refine takeH (i := 3) 10 (v := ?_) rfl rfl (by kernel_rfl) (by kernel_rfl) (by kernel_rfl) (fun _ _ _ h => h) (by rfl) ?_ hHeld ?_
  rotate_left
  · intro X hX; first | (go_simp; done) | (go_simp; with_reducible rfl)
  try simp only [Act.put, setIfInBounds_toArray, set_cons_zero, set_cons_succ]
  refine wpAnyH_ready (rs := [0, 4]) (by kernel_rfl) (by simp) ?_
  refine .cons rfl (fun K hK => ?_) (.cons rfl (fun K hK => ?_) .nil)
  · go_simp
    go_at_call 25
    refine (c_siteTo X0).mono ?_
    rintro e X1 ⟨p, rfl, h1, bb⟩
    have HKX1 := Lib.hid (below_join HKX0.out bb HKX0.out.size)
    have S1X1 := Lib.hid h1
    clear h1
    clear bb
    try dsimp only
    clear hHeld
    refine hK.out _ _ (HS.out _ HKX1.out) (fun hHeld => ?_)
    clear hK K
    try simp only [Act.put, setIfInBounds_toArray, set_cons_zero, set_cons_succ]
    refine wpAnyH_ready (rs := [1, 4]) (by kernel_rfl) (by simp) ?_
    refine .cons rfl (fun K hK => ?_) (.cons rfl (fun K hK => ?_) .nil)
    · go_simp
      go_at_call 26
      refine (c_wishTo X1).mono ?_
      rintro e X2 ⟨A, c, b, rfl, h1, bb⟩
      have HKX2 := Lib.hid (below_join HKX1.out bb HKX1.out.size)
      have S1X2 := Lib.hid (S1X1.out.on bb (Nat.le_refl _))
      have S2X2 := Lib.hid h1
      clear h1
      clear bb
      try dsimp only
      clear hHeld
      refine hK.out _ _ (HS.out _ HKX2.out) (fun hHeld => ?_)
      clear hK K
      try simp only [Act.put, setIfInBounds_toArray, set_cons_zero, set_cons_succ]
      refine wpAnyH_ready (rs := [4]) (by kernel_rfl) (by simp) ?_
      refine .cons rfl (fun K hK => ?_) .nil
      go_simp
      obtain ⟨X3, hX3⟩ : ∃ Y, Y = X2.alloc (.cells #[.int .i64 0, .int .i64 0, .int .i64 0, .int .i64 2] 53) := ⟨_, rfl⟩
      have bb : Below X2.heap.size X2 X3 := by rw [hX3]; exact (Below.refl _ _).alloc (Nat.le_refl _) _
      have HKX3 := Lib.hid (below_join HKX2.out bb HKX2.out.size)
      have S1X3 := Lib.hid (S1X2.out.on bb (Nat.le_refl _))
      have S2X3 := Lib.hid (S2X2.out.on bb (Nat.le_refl _))
      have hbx : X3.heap[X2.heap.size]? = some (.cells #[.int .i64 0, .int .i64 0, .int .i64 0, .int .i64 2] 53 (0, 0)) := by rw [hX3]; exact box_new _ _ _
      have RVX3 := Lib.hid (rv_block (k := 2) (F := repV) (l := W1.reps) hbx (by simp [W1, maxLen]))
      obtain ⟨gs, hgs⟩ : ∃ gs, X2.heap.size = gs := ⟨_, rfl⟩
      rw [hgs] at RVX3 ⊢
      clear hgs
      rw [← hX3]
      clear bb hX3 hbx
      try dsimp only
      clear hHeld
      refine hK.out _ _ (HS.out _ HKX3.out) (fun hHeld => ?_)
      clear hK K
      try simp only [Act.put, setIfInBounds_toArray, set_cons_zero, set_cons_succ]
      refine wpAnyH_ready (rs := [5]) (by kernel_rfl) (by simp) ?_
      refine .cons rfl (fun K hK => ?_) .nil
      go_simp
      go_at_call 24
      refine (c_worldN (some ⟨gs, 0, none⟩) 2 W1.reps 2 rfl X3 RVX3.out).mono ?_
      rintro e X4 ⟨q, rfl, h1, bb⟩
      have HKX4 := Lib.hid (below_join HKX3.out bb HKX3.out.size)
      have S1X4 := Lib.hid (S1X3.out.on bb (Nat.le_refl _))
      have S2X4 := Lib.hid (S2X3.out.on bb (Nat.le_refl _))
      have RVX4 := Lib.hid (RVX3.out.on bb (Nat.le_refl _))
      have WQX4 := Lib.hid h1
      clear h1
      clear bb
      try dsimp only
      clear hHeld
      refine hK.out _ _ (HS.out _ HKX4.out) (fun hHeld => ?_)
      clear hK K
      try simp only [Act.put, setIfInBounds_toArray, set_cons_zero, set_cons_succ]
      refine wpAnyH_ready (rs := [6]) (by kernel_rfl) (by simp) ?_
      refine .cons rfl (fun K hK => ?_) .nil
      go_simp
      go_at_call 15
      refine (c_ivHolds ⟨p, exD, A, c, wxs b, q, W1⟩ true ⟨fun _ => ok1, fun _ => rfl⟩ [] br1 true rfl X4 ⟨S1X4.out, S2X4.out, WQX4.out⟩).mono ?_
      rintro e X5 ⟨rfl, bb⟩
      have HKX5 := Lib.hid (below_join HKX4.out bb HKX4.out.size)
      clear bb
      try dsimp only
      clear hHeld
      refine hK.out _ _ (HS.out _ HKX5.out) (fun hHeld => ?_)
      clear hK K
      try simp only [Act.put, setIfInBounds_toArray, set_cons_zero, set_cons_succ]
      refine takeH (i := 7) 14 (v := ?_) rfl rfl (by kernel_rfl) (by kernel_rfl) (by kernel_rfl) (fun _ _ _ h => h) (by rfl) ?_ hHeld ?_
      rotate_left
      · intro X hX; first | (go_simp; done) | (go_simp; with_reducible rfl)
      try simp only [Act.put, setIfInBounds_toArray, set_cons_zero, set_cons_succ]
      refine takeH (i := 10) 17 (v := ?_) rfl rfl (by kernel_rfl) (by kernel_rfl) (by kernel_rfl) (fun _ _ _ h => h) (by rfl) ?_ hHeld ?_
      rotate_left
      · intro X hX; obtain ⟨hq0, hq1⟩ := hX; first | (go_simp; done) | (go_simp; with_reducible rfl)
      try simp only [Act.put, setIfInBounds_toArray, set_cons_zero, set_cons_succ]
      refine takeH (i := 12) 19 (v := ?_) rfl rfl (by kernel_rfl) (by kernel_rfl) (by kernel_rfl) (fun _ _ _ h => h) (by rfl) ?_ hHeld ?_
      rotate_left
      · intro X hX; first | (go_simp; done) | (go_simp; with_reducible rfl)
      try simp only [Act.put, setIfInBounds_toArray, set_cons_zero, set_cons_succ]
      refine takeH (i := 13) 20 (v := ?_) rfl rfl (by kernel_rfl) (by kernel_rfl) (by kernel_rfl) (fun _ _ _ h => h) (by rfl) ?_ hHeld ?_
      rotate_left
      · intro X hX; first | (go_simp; done) | (go_simp; with_reducible rfl)
      try simp only [Act.put, setIfInBounds_toArray, set_cons_zero, set_cons_succ]
      refine takeH (i := 14) 21 (v := ?_) rfl rfl (by kernel_rfl) (by kernel_rfl) (by kernel_rfl) (fun _ _ _ h => h) (by rfl) ?_ hHeld ?_
      rotate_left
      · intro X hX; first | (go_simp; done) | (go_simp; with_reducible rfl)
      try simp only [Act.put, setIfInBounds_toArray, set_cons_zero, set_cons_succ]
      refine wpAnyH_ready (rs := [8, 15]) (by kernel_rfl) (by simp) ?_
      refine .cons rfl (fun K hK => ?_) (.cons rfl (fun K hK => ?_) .nil)
      · go_simp
        go_at_call 25
        refine (c_siteTo X5).mono ?_
        rintro e X6 ⟨p2, rfl, h1, bb⟩
        have HKX6 := Lib.hid (below_join HKX5.out bb HKX5.out.size)
        have T1X6 := Lib.hid h1
        clear h1
        clear bb
        try dsimp only
        clear hHeld
        refine hK.out _ _ (HS.out _ HKX6.out) (fun hHeld => ?_)
        clear hK K
        try simp only [Act.put, setIfInBounds_toArray, set_cons_zero, set_cons_succ]
        refine wpAnyH_ready (rs := [9, 15]) (by kernel_rfl) (by simp) ?_
        refine .cons rfl (fun K hK => ?_) (.cons rfl (fun K hK => ?_) .nil)
        · go_simp
          go_at_call 26
          refine (c_wishTo X6).mono ?_
          rintro e X7 ⟨A2, c2, b2, rfl, h1, bb⟩
          have HKX7 := Lib.hid (below_join HKX6.out bb HKX6.out.size)
          have T1X7 := Lib.hid (T1X6.out.on bb (Nat.le_refl _))
          have T2X7 := Lib.hid h1
          clear h1
          clear bb
          try dsimp only
          clear hHeld
          refine hK.out _ _ (HS.out _ HKX7.out) (fun hHeld => ?_)
          clear hK K
          try simp only [Act.put, setIfInBounds_toArray, set_cons_zero, set_cons_succ]
          refine wpAnyH_ready (rs := [11, 15]) (by kernel_rfl) (by simp) ?_
          refine .cons rfl (fun K hK => ?_) (.cons rfl (fun K hK => ?_) .nil)
          · go_simp
            go_at_call 13
            refine (c_Broken ⟨p2, exD, A2, c2, wxs b2, q2, W2⟩ true ⟨fun _ => ok2, fun _ => rfl⟩ [⟨1, 0, 0⟩, ⟨4, 0, 0⟩, ⟨5, 1, 0⟩] br2 X7 ⟨T1X7.out, T2X7.out, HW.out _ HKX7.out⟩).mono ?_
            rintro e X8 ⟨A9, c9, rfl, h1, bb⟩
            have HKX8 := Lib.hid (below_join HKX7.out bb HKX7.out.size)
            have R8X8 := Lib.hid h1
            clear h1
            clear bb
            try dsimp only
            clear hHeld
            refine hK.out _ _ (HS.out _ HKX8.out) (fun hHeld => ?_)
            clear hK K
            try simp only [Act.put, setIfInBounds_toArray, set_cons_zero, set_cons_succ]
            refine wpAnyH_ready (rs := [15]) (by kernel_rfl) (by simp) ?_
            refine .cons rfl (fun K hK => ?_) .nil
            go_simp
            obtain ⟨X9, hX9⟩ : ∃ Y, Y = X8.alloc (.cells #[.int .u8 1, .int .i64 0, .int .i64 0, .int .u8 4, .int .i64 0, .int .i64 0, .int .u8 5, .int .i64 1, .int .i64 0] 44) := ⟨_, rfl⟩
            have bb : Below X8.heap.size X8 X9 := by rw [hX9]; exact (Below.refl _ _).alloc (Nat.le_refl _) _
            have HKX9 := Lib.hid (below_join HKX8.out bb HKX8.out.size)
            have R8X9 := Lib.hid (R8X8.out.on bb (Nat.le_refl _))
            have hbx : X9.heap[X8.heap.size]? = some (.cells #[.int .u8 1, .int .i64 0, .int .i64 0, .int .u8 4, .int .i64 0, .int .i64 0, .int .u8 5, .int .i64 1, .int .i64 0] 44 (0, 0)) := by rw [hX9]; exact box_new _ _ _
            have RTX9 := Lib.hid (rv_block (k := 3) (F := bnF) (l := [⟨1, 0, 0⟩, ⟨4, 0, 0⟩, ⟨5, 1, 0⟩]) hbx (by simp [maxLen]))
            obtain ⟨gt, hgt⟩ : ∃ gt, X8.heap.size = gt := ⟨_, rfl⟩
            rw [hgt] at RTX9 ⊢
            clear hgt
            rw [← hX9]
            clear bb hX9 hbx
            try dsimp only
            clear hHeld
            refine hK.out _ _ (HS.out _ HKX9.out) (fun hHeld => ?_)
            clear hK K
            try simp only [Act.put, setIfInBounds_toArray, set_cons_zero, set_cons_succ]
            refine wpAnyH_ready (rs := [16]) (by kernel_rfl) (by simp) ?_
            refine .cons rfl (fun K hK => ?_) .nil
            go_simp
            go_at_call 12
            refine (c_irSame A9 c9 [⟨1, 0, 0⟩, ⟨4, 0, 0⟩, ⟨5, 1, 0⟩] (some ⟨gt, 0, none⟩) 3 [⟨1, 0, 0⟩, ⟨4, 0, 0⟩, ⟨5, 1, 0⟩] true (by decide) X9 R8X9.out RTX9.out).mono ?_
            rintro e X10 ⟨rfl, bb⟩
            have HKX10 := Lib.hid (below_join HKX9.out bb HKX9.out.size)
            clear bb
            try dsimp only
            clear hHeld
            refine hK.out _ _ (HS.out _ HKX10.out) (fun hHeld => ?_)
            clear hK K
            try simp only [Act.put, setIfInBounds_toArray, set_cons_zero, set_cons_succ]
            refine takeH (i := 17) 24 (v := ?_) rfl rfl (by kernel_rfl) (by kernel_rfl) (by kernel_rfl) (fun _ _ _ h => h) (by rfl) ?_ hHeld ?_
            rotate_left
            · intro X hX; first | (go_simp; done) | (go_simp; with_reducible rfl)
            try simp only [Act.put, setIfInBounds_toArray, set_cons_zero, set_cons_succ]
            refine takeH (i := 18) 0 (v := ?_) rfl rfl (by kernel_rfl) (by kernel_rfl) (by kernel_rfl) (fun _ _ _ h => h) (by rfl) ?_ hHeld ?_
            rotate_left
            · intro X hX; first | (go_simp; done) | (go_simp; with_reducible rfl)
            try simp only [Act.put, setIfInBounds_toArray, set_cons_zero, set_cons_succ]
            refine wpAnyH_done (by kernel_rfl) ?_ _
            go_wp2_with (fail)
            go_ret
            exact ⟨rfl, below_join HB.out HKX10.out HB.out.size⟩
          · go_simp
            obtain ⟨X11, hX11⟩ : ∃ Y, Y = X7.alloc (.cells #[.int .u8 1, .int .i64 0, .int .i64 0, .int .u8 4, .int .i64 0, .int .i64 0, .int .u8 5, .int .i64 1, .int .i64 0] 44) := ⟨_, rfl⟩
            have bb : Below X7.heap.size X7 X11 := by rw [hX11]; exact (Below.refl _ _).alloc (Nat.le_refl _) _
            have HKX11 := Lib.hid (below_join HKX7.out bb HKX7.out.size)
            have T1X11 := Lib.hid (T1X7.out.on bb (Nat.le_refl _))
            have T2X11 := Lib.hid (T2X7.out.on bb (Nat.le_refl _))
            have hbx : X11.heap[X7.heap.size]? = some (.cells #[.int .u8 1, .int .i64 0, .int .i64 0, .int .u8 4, .int .i64 0, .int .i64 0, .int .u8 5, .int .i64 1, .int .i64 0] 44 (0, 0)) := by rw [hX11]; exact box_new _ _ _
            have RTX11 := Lib.hid (rv_block (k := 3) (F := bnF) (l := [⟨1, 0, 0⟩, ⟨4, 0, 0⟩, ⟨5, 1, 0⟩]) hbx (by simp [maxLen]))
            obtain ⟨gt, hgt⟩ : ∃ gt, X7.heap.size = gt := ⟨_, rfl⟩
            rw [hgt] at RTX11 ⊢
            clear hgt
            rw [← hX11]
            clear bb hX11 hbx
            try dsimp only
            clear hHeld
            refine hK.out _ _ (HS.out _ HKX11.out) (fun hHeld => ?_)
            clear hK K
            try simp only [Act.put, setIfInBounds_toArray, set_cons_zero, set_cons_succ]
            refine wpAnyH_ready (rs := [11]) (by kernel_rfl) (by simp) ?_
            refine .cons rfl (fun K hK => ?_) .nil
            go_simp
            go_at_call 13
            refine (c_Broken ⟨p2, exD, A2, c2, wxs b2, q2, W2⟩ true ⟨fun _ => ok2, fun _ => rfl⟩ [⟨1, 0, 0⟩, ⟨4, 0, 0⟩, ⟨5, 1, 0⟩] br2 X11 ⟨T1X11.out, T2X11.out, HW.out _ HKX11.out⟩).mono ?_
            rintro e X12 ⟨A9, c9, rfl, h1, bb⟩
            have HKX12 := Lib.hid (below_join HKX11.out bb HKX11.out.size)
            have RTX12 := Lib.hid (RTX11.out.on bb (Nat.le_refl _))
            have R8X12 := Lib.hid h1
            clear h1
            clear bb
            try dsimp only
            clear hHeld
            refine hK.out _ _ (HS.out _ HKX12.out) (fun hHeld => ?_)
            clear hK K
            try simp only [Act.put, setIfInBounds_toArray, set_cons_zero, set_cons_succ]
            refine wpAnyH_ready (rs := [16]) (by kernel_rfl) (by simp) ?_
            refine .cons rfl (fun K hK => ?_) .nil
            go_simp
            go_at_call 12
            refine (c_irSame A9 c9 [⟨1, 0, 0⟩, ⟨4, 0, 0⟩, ⟨5, 1, 0⟩] (some ⟨gt, 0, none⟩) 3 [⟨1, 0, 0⟩, ⟨4, 0, 0⟩, ⟨5, 1, 0⟩] true (by decide) X12 R8X12.out RTX12.out).mono ?_
            rintro e X13 ⟨rfl, bb⟩
            have HKX13 := Lib.hid (below_join HKX12.out bb HKX12.out.size)
            clear bb
            try dsimp only
            clear hHeld
            refine hK.out _ _ (HS.out _ HKX13.out) (fun hHeld => ?_)
            clear hK K
            try simp only [Act.put, setIfInBounds_toArray, set_cons_zero, set_cons_succ]
            refine takeH (i := 17) 24 (v := ?_) rfl rfl (by kernel_rfl) (by kernel_rfl) (by kernel_rfl) (fun _ _ _ h => h) (by rfl) ?_ hHeld ?_
            rotate_left
            · intro X hX; first | (go_simp; done) | (go_simp; with_reducible rfl)
            try simp only [Act.put, setIfInBounds_toArray, set_cons_zero, set_cons_succ]
            refine takeH (i := 18) 0 (v := ?_) rfl rfl (by kernel_rfl) (by kernel_rfl) (by kernel_rfl) (fun _ _ _ h => h) (by rfl) ?_ hHeld ?_
            rotate_left
            · intro X hX; first | (go_simp; done) | (go_simp; with_reducible rfl)
            try simp only [Act.put, setIfInBounds_toArray, set_cons_zero, set_cons_succ]
            refine wpAnyH_done (by kernel_rfl) ?_ _
            go_wp2_with (fail)
            go_ret
            exact ⟨rfl, below_join HB.out HKX13.out HB.out.size⟩
        · go_simp
          obtain ⟨X14, hX14⟩ : ∃ Y, Y = X6.alloc (.cells #[.int .u8 1, .int .i64 0, .int .i64 0, .int .u8 4, .int .i64 0, .int .i64 0, .int .u8 5, .int .i64 1, .int .i64 0] 44) := ⟨_, rfl⟩
          have bb : Below X6.heap.size X6 X14 := by rw [hX14]; exact (Below.refl _ _).alloc (Nat.le_refl _) _
          have HKX14 := Lib.hid (below_join HKX6.out bb HKX6.out.size)
          have T1X14 := Lib.hid (T1X6.out.on bb (Nat.le_refl _))
          have hbx : X14.heap[X6.heap.size]? = some (.cells #[.int .u8 1, .int .i64 0, .int .i64 0, .int .u8 4, .int .i64 0, .int .i64 0, .int .u8 5, .int .i64 1, .int .i64 0] 44 (0, 0)) := by rw [hX14]; exact box_new _ _ _
          have RTX14 := Lib.hid (rv_block (k := 3) (F := bnF) (l := [⟨1, 0, 0⟩, ⟨4, 0, 0⟩, ⟨5, 1, 0⟩]) hbx (by simp [maxLen]))
          obtain ⟨gt, hgt⟩ : ∃ gt, X6.heap.size = gt := ⟨_, rfl⟩
          rw [hgt] at RTX14 ⊢
          clear hgt
          rw [← hX14]
          clear bb hX14 hbx
          try dsimp only
          clear hHeld
          refine hK.out _ _ (HS.out _ HKX14.out) (fun hHeld => ?_)
          clear hK K
          try simp only [Act.put, setIfInBounds_toArray, set_cons_zero, set_cons_succ]
          refine wpAnyH_ready (rs := [9]) (by kernel_rfl) (by simp) ?_
          refine .cons rfl (fun K hK => ?_) .nil
          go_simp
          go_at_call 26
          refine (c_wishTo X14).mono ?_
          rintro e X15 ⟨A2, c2, b2, rfl, h1, bb⟩
          have HKX15 := Lib.hid (below_join HKX14.out bb HKX14.out.size)
          have T1X15 := Lib.hid (T1X14.out.on bb (Nat.le_refl _))
          have RTX15 := Lib.hid (RTX14.out.on bb (Nat.le_refl _))
          have T2X15 := Lib.hid h1
          clear h1
          clear bb
          try dsimp only
          clear hHeld
          refine hK.out _ _ (HS.out _ HKX15.out) (fun hHeld => ?_)
          clear hK K
          try simp only [Act.put, setIfInBounds_toArray, set_cons_zero, set_cons_succ]
          refine wpAnyH_ready (rs := [11]) (by kernel_rfl) (by simp) ?_
          refine .cons rfl (fun K hK => ?_) .nil
          go_simp
          go_at_call 13
          refine (c_Broken ⟨p2, exD, A2, c2, wxs b2, q2, W2⟩ true ⟨fun _ => ok2, fun _ => rfl⟩ [⟨1, 0, 0⟩, ⟨4, 0, 0⟩, ⟨5, 1, 0⟩] br2 X15 ⟨T1X15.out, T2X15.out, HW.out _ HKX15.out⟩).mono ?_
          rintro e X16 ⟨A9, c9, rfl, h1, bb⟩
          have HKX16 := Lib.hid (below_join HKX15.out bb HKX15.out.size)
          have RTX16 := Lib.hid (RTX15.out.on bb (Nat.le_refl _))
          have R8X16 := Lib.hid h1
          clear h1
          clear bb
          try dsimp only
          clear hHeld
          refine hK.out _ _ (HS.out _ HKX16.out) (fun hHeld => ?_)
          clear hK K
          try simp only [Act.put, setIfInBounds_toArray, set_cons_zero, set_cons_succ]
          refine wpAnyH_ready (rs := [16]) (by kernel_rfl) (by simp) ?_
          refine .cons rfl (fun K hK => ?_) .nil
          go_simp
          go_at_call 12
          refine (c_irSame A9 c9 [⟨1, 0, 0⟩, ⟨4, 0, 0⟩, ⟨5, 1, 0⟩] (some ⟨gt, 0, none⟩) 3 [⟨1, 0, 0⟩, ⟨4, 0, 0⟩, ⟨5, 1, 0⟩] true (by decide) X16 R8X16.out RTX16.out).mono ?_
          rintro e X17 ⟨rfl, bb⟩
          have HKX17 := Lib.hid (below_join HKX16.out bb HKX16.out.size)
          clear bb
          try dsimp only
          clear hHeld
          refine hK.out _ _ (HS.out _ HKX17.out) (fun hHeld => ?_)
          clear hK K
          try simp only [Act.put, setIfInBounds_toArray, set_cons_zero, set_cons_succ]
          refine takeH (i := 17) 24 (v := ?_) rfl rfl (by kernel_rfl) (by kernel_rfl) (by kernel_rfl) (fun _ _ _ h => h) (by rfl) ?_ hHeld ?_
          rotate_left
          · intro X hX; first | (go_simp; done) | (go_simp; with_reducible rfl)
          try simp only [Act.put, setIfInBounds_toArray, set_cons_zero, set_cons_succ]
          refine takeH (i := 18) 0 (v := ?_) rfl rfl (by kernel_rfl) (by kernel_rfl) (by kernel_rfl) (fun _ _ _ h => h) (by rfl) ?_ hHeld ?_
          rotate_left
          · intro X hX; first | (go_simp; done) | (go_simp; with_reducible rfl)
          try simp only [Act.put, setIfInBounds_toArray, set_cons_zero, set_cons_succ]
          refine wpAnyH_done (by kernel_rfl) ?_ _
          go_wp2_with (fail)
          go_ret
          exact ⟨rfl, below_join HB.out HKX17.out HB.out.size⟩
      · go_simp
        obtain ⟨X18, hX18⟩ : ∃ Y, Y = X5.alloc (.cells #[.int .u8 1, .int .i64 0, .int .i64 0, .int .u8 4, .int .i64 0, .int .i64 0, .int .u8 5, .int .i64 1, .int .i64 0] 44) := ⟨_, rfl⟩
        have bb : Below X5.heap.size X5 X18 := by rw [hX18]; exact (Below.refl _ _).alloc (Nat.le_refl _) _
        have HKX18 := Lib.hid (below_join HKX5.out bb HKX5.out.size)
        have hbx : X18.heap[X5.heap.size]? = some (.cells #[.int .u8 1, .int .i64 0, .int .i64 0, .int .u8 4, .int .i64 0, .int .i64 0, .int .u8 5, .int .i64 1, .int .i64 0] 44 (0, 0)) := by rw [hX18]; exact box_new _ _ _
        have RTX18 := Lib.hid (rv_block (k := 3) (F := bnF) (l := [⟨1, 0, 0⟩, ⟨4, 0, 0⟩, ⟨5, 1, 0⟩]) hbx (by simp [maxLen]))
        obtain ⟨gt, hgt⟩ : ∃ gt, X5.heap.size = gt := ⟨_, rfl⟩
        rw [hgt] at RTX18 ⊢
        clear hgt
        rw [← hX18]
        clear bb hX18 hbx
        try dsimp only
        clear hHeld
        refine hK.out _ _ (HS.out _ HKX18.out) (fun hHeld => ?_)
        clear hK K
        try simp only [Act.put, setIfInBounds_toArray, set_cons_zero, set_cons_succ]
        refine wpAnyH_ready (rs := [8]) (by kernel_rfl) (by simp) ?_
        refine .cons rfl (fun K hK => ?_) .nil
        go_simp
        go_at_call 25
        refine (c_siteTo X18).mono ?_
        rintro e X19 ⟨p2, rfl, h1, bb⟩
        have HKX19 := Lib.hid (below_join HKX18.out bb HKX18.out.size)
        have RTX19 := Lib.hid (RTX18.out.on bb (Nat.le_refl _))
        have T1X19 := Lib.hid h1
        clear h1
        clear bb
        try dsimp only
        clear hHeld
        refine hK.out _ _ (HS.out _ HKX19.out) (fun hHeld => ?_)
        clear hK K
        try simp only [Act.put, setIfInBounds_toArray, set_cons_zero, set_cons_succ]
        refine wpAnyH_ready (rs := [9]) (by kernel_rfl) (by simp) ?_
        refine .cons rfl (fun K hK => ?_) .nil
        go_simp
        go_at_call 26
        refine (c_wishTo X19).mono ?_
        rintro e X20 ⟨A2, c2, b2, rfl, h1, bb⟩
        have HKX20 := Lib.hid (below_join HKX19.out bb HKX19.out.size)
        have RTX20 := Lib.hid (RTX19.out.on bb (Nat.le_refl _))
        have T1X20 := Lib.hid (T1X19.out.on bb (Nat.le_refl _))
        have T2X20 := Lib.hid h1
        clear h1
        clear bb
        try dsimp only
        clear hHeld
        refine hK.out _ _ (HS.out _ HKX20.out) (fun hHeld => ?_)
        clear hK K
        try simp only [Act.put, setIfInBounds_toArray, set_cons_zero, set_cons_succ]
        refine wpAnyH_ready (rs := [11]) (by kernel_rfl) (by simp) ?_
        refine .cons rfl (fun K hK => ?_) .nil
        go_simp
        go_at_call 13
        refine (c_Broken ⟨p2, exD, A2, c2, wxs b2, q2, W2⟩ true ⟨fun _ => ok2, fun _ => rfl⟩ [⟨1, 0, 0⟩, ⟨4, 0, 0⟩, ⟨5, 1, 0⟩] br2 X20 ⟨T1X20.out, T2X20.out, HW.out _ HKX20.out⟩).mono ?_
        rintro e X21 ⟨A9, c9, rfl, h1, bb⟩
        have HKX21 := Lib.hid (below_join HKX20.out bb HKX20.out.size)
        have RTX21 := Lib.hid (RTX20.out.on bb (Nat.le_refl _))
        have R8X21 := Lib.hid h1
        clear h1
        clear bb
        try dsimp only
        clear hHeld
        refine hK.out _ _ (HS.out _ HKX21.out) (fun hHeld => ?_)
        clear hK K
        try simp only [Act.put, setIfInBounds_toArray, set_cons_zero, set_cons_succ]
        refine wpAnyH_ready (rs := [16]) (by kernel_rfl) (by simp) ?_
        refine .cons rfl (fun K hK => ?_) .nil
        go_simp
        go_at_call 12
        refine (c_irSame A9 c9 [⟨1, 0, 0⟩, ⟨4, 0, 0⟩, ⟨5, 1, 0⟩] (some ⟨gt, 0, none⟩) 3 [⟨1, 0, 0⟩, ⟨4, 0, 0⟩, ⟨5, 1, 0⟩] true (by decide) X21 R8X21.out RTX21.out).mono ?_
        rintro e X22 ⟨rfl, bb⟩
        have HKX22 := Lib.hid (below_join HKX21.out bb HKX21.out.size)
        clear bb
        try dsimp only
        clear hHeld
        refine hK.out _ _ (HS.out _ HKX22.out) (fun hHeld => ?_)
        clear hK K
        try simp only [Act.put, setIfInBounds_toArray, set_cons_zero, set_cons_succ]
        refine takeH (i := 17) 24 (v := ?_) rfl rfl (by kernel_rfl) (by kernel_rfl) (by kernel_rfl) (fun _ _ _ h => h) (by rfl) ?_ hHeld ?_
        rotate_left
        · intro X hX; first | (go_simp; done) | (go_simp; with_reducible rfl)
        try simp only [Act.put, setIfInBounds_toArray, set_cons_zero, set_cons_succ]
        refine takeH (i := 18) 0 (v := ?_) rfl rfl (by kernel_rfl) (by kernel_rfl) (by kernel_rfl) (fun _ _ _ h => h) (by rfl) ?_ hHeld ?_
        rotate_left
        · intro X hX; first | (go_simp; done) | (go_simp; with_reducible rfl)
        try simp only [Act.put, setIfInBounds_toArray, set_cons_zero, set_cons_succ]
        refine wpAnyH_done (by kernel_rfl) ?_ _
        go_wp2_with (fail)
        go_ret
        exact ⟨rfl, below_join HB.out HKX22.out HB.out.size⟩
    · go_simp
      obtain ⟨X23, hX23⟩ : ∃ Y, Y = X1.alloc (.cells #[.int .i64 0, .int .i64 0, .int .i64 0, .int .i64 2] 53) := ⟨_, rfl⟩
      have bb : Below X1.heap.size X1 X23 := by rw [hX23]; exact (Below.refl _ _).alloc (Nat.le_refl _) _
      have HKX23 := Lib.hid (below_join HKX1.out bb HKX1.out.size)
      have S1X23 := Lib.hid (S1X1.out.on bb (Nat.le_refl _))
      have hbx : X23.heap[X1.heap.size]? = some (.cells #[.int .i64 0, .int .i64 0, .int .i64 0, .int .i64 2] 53 (0, 0)) := by rw [hX23]; exact box_new _ _ _
      have RVX23 := Lib.hid (rv_block (k := 2) (F := repV) (l := W1.reps) hbx (by simp [W1, maxLen]))
      obtain ⟨gs, hgs⟩ : ∃ gs, X1.heap.size = gs := ⟨_, rfl⟩
      rw [hgs] at RVX23 ⊢
      clear hgs
      rw [← hX23]
      clear bb hX23 hbx
      try dsimp only
      clear hHeld
      refine hK.out _ _ (HS.out _ HKX23.out) (fun hHeld => ?_)
      clear hK K
      try simp only [Act.put, setIfInBounds_toArray, set_cons_zero, set_cons_succ]
      refine wpAnyH_ready (rs := [1]) (by kernel_rfl) (by simp) ?_
      refine .cons rfl (fun K hK => ?_) .nil
      go_simp
      go_at_call 26
      refine (c_wishTo X23).mono ?_
      rintro e X24 ⟨A, c, b, rfl, h1, bb⟩
      have HKX24 := Lib.hid (below_join HKX23.out bb HKX23.out.size)
      have S1X24 := Lib.hid (S1X23.out.on bb (Nat.le_refl _))
      have RVX24 := Lib.hid (RVX23.out.on bb (Nat.le_refl _))
      have S2X24 := Lib.hid h1
      clear h1
      clear bb
      try dsimp only
      clear hHeld
      refine hK.out _ _ (HS.out _ HKX24.out) (fun hHeld => ?_)
      clear hK K
      try simp only [Act.put, setIfInBounds_toArray, set_cons_zero, set_cons_succ]
      refine wpAnyH_ready (rs := [5]) (by kernel_rfl) (by simp) ?_
      refine .cons rfl (fun K hK => ?_) .nil
      go_simp
      go_at_call 24
      refine (c_worldN (some ⟨gs, 0, none⟩) 2 W1.reps 2 rfl X24 RVX24.out).mono ?_
      rintro e X25 ⟨q, rfl, h1, bb⟩
      have HKX25 := Lib.hid (below_join HKX24.out bb HKX24.out.size)
      have S1X25 := Lib.hid (S1X24.out.on bb (Nat.le_refl _))
      have RVX25 := Lib.hid (RVX24.out.on bb (Nat.le_refl _))
      have S2X25 := Lib.hid (S2X24.out.on bb (Nat.le_refl _))
      have WQX25 := Lib.hid h1
      clear h1
      clear bb
      try dsimp only
      clear hHeld
      refine hK.out _ _ (HS.out _ HKX25.out) (fun hHeld => ?_)
      clear hK K
      try simp only [Act.put, setIfInBounds_toArray, set_cons_zero, set_cons_succ]
      refine wpAnyH_ready (rs := [6]) (by kernel_rfl) (by simp) ?_
      refine .cons rfl (fun K hK => ?_) .nil
      go_simp
      go_at_call 15
      refine (c_ivHolds ⟨p, exD, A, c, wxs b, q, W1⟩ true ⟨fun _ => ok1, fun _ => rfl⟩ [] br1 true rfl X25 ⟨S1X25.out, S2X25.out, WQX25.out⟩).mono ?_
      rintro e X26 ⟨rfl, bb⟩
      have HKX26 := Lib.hid (below_join HKX25.out bb HKX25.out.size)
      clear bb
      try dsimp only
      clear hHeld
      refine hK.out _ _ (HS.out _ HKX26.out) (fun hHeld => ?_)
      clear hK K
      try simp only [Act.put, setIfInBounds_toArray, set_cons_zero, set_cons_succ]
      refine takeH (i := 7) 14 (v := ?_) rfl rfl (by kernel_rfl) (by kernel_rfl) (by kernel_rfl) (fun _ _ _ h => h) (by rfl) ?_ hHeld ?_
      rotate_left
      · intro X hX; first | (go_simp; done) | (go_simp; with_reducible rfl)
      try simp only [Act.put, setIfInBounds_toArray, set_cons_zero, set_cons_succ]
      refine takeH (i := 10) 17 (v := ?_) rfl rfl (by kernel_rfl) (by kernel_rfl) (by kernel_rfl) (fun _ _ _ h => h) (by rfl) ?_ hHeld ?_
      rotate_left
      · intro X hX; obtain ⟨hq0, hq1⟩ := hX; first | (go_simp; done) | (go_simp; with_reducible rfl)
      try simp only [Act.put, setIfInBounds_toArray, set_cons_zero, set_cons_succ]
      refine takeH (i := 12) 19 (v := ?_) rfl rfl (by kernel_rfl) (by kernel_rfl) (by kernel_rfl) (fun _ _ _ h => h) (by rfl) ?_ hHeld ?_
      rotate_left
      · intro X hX; first | (go_simp; done) | (go_simp; with_reducible rfl)
      try simp only [Act.put, setIfInBounds_toArray, set_cons_zero, set_cons_succ]
      refine takeH (i := 13) 20 (v := ?_) rfl rfl (by kernel_rfl) (by kernel_rfl) (by kernel_rfl) (fun _ _ _ h => h) (by rfl) ?_ hHeld ?_
      rotate_left
      · intro X hX; first | (go_simp; done) | (go_simp; with_reducible rfl)
      try simp only [Act.put, setIfInBounds_toArray, set_cons_zero, set_cons_succ]
      refine takeH (i := 14) 21 (v := ?_) rfl rfl (by kernel_rfl) (by kernel_rfl) (by kernel_rfl) (fun _ _ _ h => h) (by rfl) ?_ hHeld ?_
      rotate_left
      · intro X hX; first | (go_simp; done) | (go_simp; with_reducible rfl)
      try simp only [Act.put, setIfInBounds_toArray, set_cons_zero, set_cons_succ]
      refine wpAnyH_ready (rs := [8, 15]) (by kernel_rfl) (by simp) ?_
      refine .cons rfl (fun K hK => ?_) (.cons rfl (fun K hK => ?_) .nil)
      · go_simp
        go_at_call 25
        refine (c_siteTo X26).mono ?_
        rintro e X27 ⟨p2, rfl, h1, bb⟩
        have HKX27 := Lib.hid (below_join HKX26.out bb HKX26.out.size)
        have T1X27 := Lib.hid h1
        clear h1
        clear bb
        try dsimp only
        clear hHeld
        refine hK.out _ _ (HS.out _ HKX27.out) (fun hHeld => ?_)
        clear hK K
        try simp only [Act.put, setIfInBounds_toArray, set_cons_zero, set_cons_succ]
        refine wpAnyH_ready (rs := [9, 15]) (by kernel_rfl) (by simp) ?_
        refine .cons rfl (fun K hK => ?_) (.cons rfl (fun K hK => ?_) .nil)
        · go_simp
          go_at_call 26
          refine (c_wishTo X27).mono ?_
          rintro e X28 ⟨A2, c2, b2, rfl, h1, bb⟩
          have HKX28 := Lib.hid (below_join HKX27.out bb HKX27.out.size)
          have T1X28 := Lib.hid (T1X27.out.on bb (Nat.le_refl _))
          have T2X28 := Lib.hid h1
          clear h1
          clear bb
          try dsimp only
          clear hHeld
          refine hK.out _ _ (HS.out _ HKX28.out) (fun hHeld => ?_)
          clear hK K
          try simp only [Act.put, setIfInBounds_toArray, set_cons_zero, set_cons_succ]
          refine wpAnyH_ready (rs := [11, 15]) (by kernel_rfl) (by simp) ?_
          refine .cons rfl (fun K hK => ?_) (.cons rfl (fun K hK => ?_) .nil)
          · go_simp
            go_at_call 13
            refine (c_Broken ⟨p2, exD, A2, c2, wxs b2, q2, W2⟩ true ⟨fun _ => ok2, fun _ => rfl⟩ [⟨1, 0, 0⟩, ⟨4, 0, 0⟩, ⟨5, 1, 0⟩] br2 X28 ⟨T1X28.out, T2X28.out, HW.out _ HKX28.out⟩).mono ?_
            rintro e X29 ⟨A9, c9, rfl, h1, bb⟩
            have HKX29 := Lib.hid (below_join HKX28.out bb HKX28.out.size)
            have R8X29 := Lib.hid h1
            clear h1
            clear bb
            try dsimp only
            clear hHeld
            refine hK.out _ _ (HS.out _ HKX29.out) (fun hHeld => ?_)
            clear hK K
            try simp only [Act.put, setIfInBounds_toArray, set_cons_zero, set_cons_succ]
            refine wpAnyH_ready (rs := [15]) (by kernel_rfl) (by simp) ?_
            refine .cons rfl (fun K hK => ?_) .nil
            go_simp
            obtain ⟨X30, hX30⟩ : ∃ Y, Y = X29.alloc (.cells #[.int .u8 1, .int .i64 0, .int .i64 0, .int .u8 4, .int .i64 0, .int .i64 0, .int .u8 5, .int .i64 1, .int .i64 0] 44) := ⟨_, rfl⟩
            have bb : Below X29.heap.size X29 X30 := by rw [hX30]; exact (Below.refl _ _).alloc (Nat.le_refl _) _
            have HKX30 := Lib.hid (below_join HKX29.out bb HKX29.out.size)
            have R8X30 := Lib.hid (R8X29.out.on bb (Nat.le_refl _))
            have hbx : X30.heap[X29.heap.size]? = some (.cells #[.int .u8 1, .int .i64 0, .int .i64 0, .int .u8 4, .int .i64 0, .int .i64 0, .int .u8 5, .int .i64 1, .int .i64 0] 44 (0, 0)) := by rw [hX30]; exact box_new _ _ _
            have RTX30 := Lib.hid (rv_block (k := 3) (F := bnF) (l := [⟨1, 0, 0⟩, ⟨4, 0, 0⟩, ⟨5, 1, 0⟩]) hbx (by simp [maxLen]))
            obtain ⟨gt, hgt⟩ : ∃ gt, X29.heap.size = gt := ⟨_, rfl⟩
            rw [hgt] at RTX30 ⊢
            clear hgt
            rw [← hX30]
            clear bb hX30 hbx
            try dsimp only
            clear hHeld
            refine hK.out _ _ (HS.out _ HKX30.out) (fun hHeld => ?_)
            clear hK K
            try simp only [Act.put, setIfInBounds_toArray, set_cons_zero, set_cons_succ]
            refine wpAnyH_ready (rs := [16]) (by kernel_rfl) (by simp) ?_
            refine .cons rfl (fun K hK => ?_) .nil
            go_simp
            go_at_call 12
            refine (c_irSame A9 c9 [⟨1, 0, 0⟩, ⟨4, 0, 0⟩, ⟨5, 1, 0⟩] (some ⟨gt, 0, none⟩) 3 [⟨1, 0, 0⟩, ⟨4, 0, 0⟩, ⟨5, 1, 0⟩] true (by decide) X30 R8X30.out RTX30.out).mono ?_
            rintro e X31 ⟨rfl, bb⟩
            have HKX31 := Lib.hid (below_join HKX30.out bb HKX30.out.size)
            clear bb
            try dsimp only
            clear hHeld
            refine hK.out _ _ (HS.out _ HKX31.out) (fun hHeld => ?_)
            clear hK K
            try simp only [Act.put, setIfInBounds_toArray, set_cons_zero, set_cons_succ]
            refine takeH (i := 17) 24 (v := ?_) rfl rfl (by kernel_rfl) (by kernel_rfl) (by kernel_rfl) (fun _ _ _ h => h) (by rfl) ?_ hHeld ?_
            rotate_left
            · intro X hX; first | (go_simp; done) | (go_simp; with_reducible rfl)
            try simp only [Act.put, setIfInBounds_toArray, set_cons_zero, set_cons_succ]
            refine takeH (i := 18) 0 (v := ?_) rfl rfl (by kernel_rfl) (by kernel_rfl) (by kernel_rfl) (fun _ _ _ h => h) (by rfl) ?_ hHeld ?_
            rotate_left
            · intro X hX; first | (go_simp; done) | (go_simp; with_reducible rfl)
            try simp only [Act.put, setIfInBounds_toArray, set_cons_zero, set_cons_succ]
            refine wpAnyH_done (by kernel_rfl) ?_ _
            go_wp2_with (fail)
            go_ret
            exact ⟨rfl, below_join HB.out HKX31.out HB.out.size⟩
          · go_simp
            obtain ⟨X32, hX32⟩ : ∃ Y, Y = X28.alloc (.cells #[.int .u8 1, .int .i64 0, .int .i64 0, .int .u8 4, .int .i64 0, .int .i64 0, .int .u8 5, .int .i64 1, .int .i64 0] 44) := ⟨_, rfl⟩
            have bb : Below X28.heap.size X28 X32 := by rw [hX32]; exact (Below.refl _ _).alloc (Nat.le_refl _) _
            have HKX32 := Lib.hid (below_join HKX28.out bb HKX28.out.size)
            have T1X32 := Lib.hid (T1X28.out.on bb (Nat.le_refl _))
            have T2X32 := Lib.hid (T2X28.out.on bb (Nat.le_refl _))
            have hbx : X32.heap[X28.heap.size]? = some (.cells #[.int .u8 1, .int .i64 0, .int .i64 0, .int .u8 4, .int .i64 0, .int .i64 0, .int .u8 5, .int .i64 1, .int .i64 0] 44 (0, 0)) := by rw [hX32]; exact box_new _ _ _
            have RTX32 := Lib.hid (rv_block (k := 3) (F := bnF) (l := [⟨1, 0, 0⟩, ⟨4, 0, 0⟩, ⟨5, 1, 0⟩]) hbx (by simp [maxLen]))
            obtain ⟨gt, hgt⟩ : ∃ gt, X28.heap.size = gt := ⟨_, rfl⟩
            rw [hgt] at RTX32 ⊢
            clear hgt
            rw [← hX32]
            clear bb hX32 hbx
            try dsimp only
            clear hHeld
            refine hK.out _ _ (HS.out _ HKX32.out) (fun hHeld => ?_)
            clear hK K
            try simp only [Act.put, setIfInBounds_toArray, set_cons_zero, set_cons_succ]
            refine wpAnyH_ready (rs := [11]) (by kernel_rfl) (by simp) ?_
            refine .cons rfl (fun K hK => ?_) .nil
            go_simp
            go_at_call 13
            refine (c_Broken ⟨p2, exD, A2, c2, wxs b2, q2, W2⟩ true ⟨fun _ => ok2, fun _ => rfl⟩ [⟨1, 0, 0⟩, ⟨4, 0, 0⟩, ⟨5, 1, 0⟩] br2 X32 ⟨T1X32.out, T2X32.out, HW.out _ HKX32.out⟩).mono ?_
            rintro e X33 ⟨A9, c9, rfl, h1, bb⟩
            have HKX33 := Lib.hid (below_join HKX32.out bb HKX32.out.size)
            have RTX33 := Lib.hid (RTX32.out.on bb (Nat.le_refl _))
            have R8X33 := Lib.hid h1
            clear h1
            clear bb
            try dsimp only
            clear hHeld
            refine hK.out _ _ (HS.out _ HKX33.out) (fun hHeld => ?_)
            clear hK K
            try simp only [Act.put, setIfInBounds_toArray, set_cons_zero, set_cons_succ]
            refine wpAnyH_ready (rs := [16]) (by kernel_rfl) (by simp) ?_
            refine .cons rfl (fun K hK => ?_) .nil
            go_simp
            go_at_call 12
            refine (c_irSame A9 c9 [⟨1, 0, 0⟩, ⟨4, 0, 0⟩, ⟨5, 1, 0⟩] (some ⟨gt, 0, none⟩) 3 [⟨1, 0, 0⟩, ⟨4, 0, 0⟩, ⟨5, 1, 0⟩] true (by decide) X33 R8X33.out RTX33.out).mono ?_
            rintro e X34 ⟨rfl, bb⟩
            have HKX34 := Lib.hid (below_join HKX33.out bb HKX33.out.size)
            clear bb
            try dsimp only
            clear hHeld
            refine hK.out _ _ (HS.out _ HKX34.out) (fun hHeld => ?_)
            clear hK K
            try simp only [Act.put, setIfInBounds_toArray, set_cons_zero, set_cons_succ]
            refine takeH (i := 17) 24 (v := ?_) rfl rfl (by kernel_rfl) (by kernel_rfl) (by kernel_rfl) (fun _ _ _ h => h) (by rfl) ?_ hHeld ?_
            rotate_left
            · intro X hX; first | (go_simp; done) | (go_simp; with_reducible rfl)
            try simp only [Act.put, setIfInBounds_toArray, set_cons_zero, set_cons_succ]
            refine takeH (i := 18) 0 (v := ?_) rfl rfl (by kernel_rfl) (by kernel_rfl) (by kernel_rfl) (fun _ _ _ h => h) (by rfl) ?_ hHeld ?_
            rotate_left
            · intro X hX; first | (go_simp; done) | (go_simp; with_reducible rfl)
            try simp only [Act.put, setIfInBounds_toArray, set_cons_zero, set_cons_succ]
            refine wpAnyH_done (by kernel_rfl) ?_ _
            go_wp2_with (fail)
            go_ret
            exact ⟨rfl, below_join HB.out HKX34.out HB.out.size⟩
        · go_simp
          obtain ⟨X35, hX35⟩ : ∃ Y, Y = X27.alloc (.cells #[.int .u8 1, .int .i64 0, .int .i64 0, .int .u8 4, .int .i64 0, .int .i64 0, .int .u8 5, .int .i64 1, .int .i64 0] 44) := ⟨_, rfl⟩
          have bb : Below X27.heap.size X27 X35 := by rw [hX35]; exact (Below.refl _ _).alloc (Nat.le_refl _) _
          have HKX35 := Lib.hid (below_join HKX27.out bb HKX27.out.size)
          have T1X35 := Lib.hid (T1X27.out.on bb (Nat.le_refl _))
          have hbx : X35.heap[X27.heap.size]? = some (.cells #[.int .u8 1, .int .i64 0, .int .i64 0, .int .u8 4, .int .i64 0, .int .i64 0, .int .u8 5, .int .i64 1, .int .i64 0] 44 (0, 0)) := by rw [hX35]; exact box_new _ _ _
          have RTX35 := Lib.hid (rv_block (k := 3) (F := bnF) (l := [⟨1, 0, 0⟩, ⟨4, 0, 0⟩, ⟨5, 1, 0⟩]) hbx (by simp [maxLen]))
          obtain ⟨gt, hgt⟩ : ∃ gt, X27.heap.size = gt := ⟨_, rfl⟩
          rw [hgt] at RTX35 ⊢
          clear hgt
          rw [← hX35]
          clear bb hX35 hbx
          try dsimp only
          clear hHeld
          refine hK.out _ _ (HS.out _ HKX35.out) (fun hHeld => ?_)
          clear hK K
          try simp only [Act.put, setIfInBounds_toArray, set_cons_zero, set_cons_succ]
          refine wpAnyH_ready (rs := [9]) (by kernel_rfl) (by simp) ?_
          refine .cons rfl (fun K hK => ?_) .nil
          go_simp
          go_at_call 26
          refine (c_wishTo X35).mono ?_
          rintro e X36 ⟨A2, c2, b2, rfl, h1, bb⟩
          have HKX36 := Lib.hid (below_join HKX35.out bb HKX35.out.size)
          have T1X36 := Lib.hid (T1X35.out.on bb (Nat.le_refl _))
          have RTX36 := Lib.hid (RTX35.out.on bb (Nat.le_refl _))
          have T2X36 := Lib.hid h1
          clear h1
          clear bb
          try dsimp only
          clear hHeld
          refine hK.out _ _ (HS.out _ HKX36.out) (fun hHeld => ?_)
          clear hK K
          try simp only [Act.put, setIfInBounds_toArray, set_cons_zero, set_cons_succ]
          refine wpAnyH_ready (rs := [11]) (by kernel_rfl) (by simp) ?_
          refine .cons rfl (fun K hK => ?_) .nil
          go_simp
          go_at_call 13
          refine (c_Broken ⟨p2, exD, A2, c2, wxs b2, q2, W2⟩ true ⟨fun _ => ok2, fun _ => rfl⟩ [⟨1, 0, 0⟩, ⟨4, 0, 0⟩, ⟨5, 1, 0⟩] br2 X36 ⟨T1X36.out, T2X36.out, HW.out _ HKX36.out⟩).mono ?_
          rintro e X37 ⟨A9, c9, rfl, h1, bb⟩
          have HKX37 := Lib.hid (below_join HKX36.out bb HKX36.out.size)
          have RTX37 := Lib.hid (RTX36.out.on bb (Nat.le_refl _))
          have R8X37 := Lib.hid h1
          clear h1
          clear bb
          try dsimp only
          clear hHeld
          refine hK.out _ _ (HS.out _ HKX37.out) (fun hHeld => ?_)
          clear hK K
          try simp only [Act.put, setIfInBounds_toArray, set_cons_zero, set_cons_succ]
          refine wpAnyH_ready (rs := [16]) (by kernel_rfl) (by simp) ?_
          refine .cons rfl (fun K hK => ?_) .nil
          go_simp
          go_at_call 12
          refine (c_irSame A9 c9 [⟨1, 0, 0⟩, ⟨4, 0, 0⟩, ⟨5, 1, 0⟩] (some ⟨gt, 0, none⟩) 3 [⟨1, 0, 0⟩, ⟨4, 0, 0⟩, ⟨5, 1, 0⟩] true (by decide) X37 R8X37.out RTX37.out).mono ?_
          rintro e X38 ⟨rfl, bb⟩
          have HKX38 := Lib.hid (below_join HKX37.out bb HKX37.out.size)
          clear bb
          try dsimp only
          clear hHeld
          refine hK.out _ _ (HS.out _ HKX38.out) (fun hHeld => ?_)
          clear hK K
          try simp only [Act.put, setIfInBounds_toArray, set_cons_zero, set_cons_succ]
          refine takeH (i := 17) 24 (v := ?_) rfl rfl (by kernel_rfl) (by kernel_rfl) (by kernel_rfl) (fun _ _ _ h => h) (by rfl) ?_ hHeld ?_
          rotate_left
          · intro X hX; first | (go_simp; done) | (go_simp; with_reducible rfl)
          try simp only [Act.put, setIfInBounds_toArray, set_cons_zero, set_cons_succ]
          refine takeH (i := 18) 0 (v := ?_) rfl rfl (by kernel_rfl) (by kernel_rfl) (by kernel_rfl) (fun _ _ _ h => h) (by rfl) ?_ hHeld ?_
          rotate_left
          · intro X hX; first | (go_simp; done) | (go_simp; with_reducible rfl)
          try simp only [Act.put, setIfInBounds_toArray, set_cons_zero, set_cons_succ]
          refine wpAnyH_done (by kernel_rfl) ?_ _
          go_wp2_with (fail)
          go_ret
          exact ⟨rfl, below_join HB.out HKX38.out HB.out.size⟩
      · go_simp
        obtain ⟨X39, hX39⟩ : ∃ Y, Y = X26.alloc (.cells #[.int .u8 1, .int .i64 0, .int .i64 0, .int .u8 4, .int .i64 0, .int .i64 0, .int .u8 5, .int .i64 1, .int .i64 0] 44) := ⟨_, rfl⟩
        have bb : Below X26.heap.size X26 X39 := by rw [hX39]; exact (Below.refl _ _).alloc (Nat.le_refl _) _
        have HKX39 := Lib.hid (below_join HKX26.out bb HKX26.out.size)
        have hbx : X39.heap[X26.heap.size]? = some (.cells #[.int .u8 1, .int .i64 0, .int .i64 0, .int .u8 4, .int .i64 0, .int .i64 0, .int .u8 5, .int .i64 1, .int .i64 0] 44 (0, 0)) := by rw [hX39]; exact box_new _ _ _
        have RTX39 := Lib.hid (rv_block (k := 3) (F := bnF) (l := [⟨1, 0, 0⟩, ⟨4, 0, 0⟩, ⟨5, 1, 0⟩]) hbx (by simp [maxLen]))
        obtain ⟨gt, hgt⟩ : ∃ gt, X26.heap.size = gt := ⟨_, rfl⟩
        rw [hgt] at RTX39 ⊢
        clear hgt
        rw [← hX39]
        clear bb hX39 hbx
        try dsimp only
        clear hHeld
        refine hK.out _ _ (HS.out _ HKX39.out) (fun hHeld => ?_)
        clear hK K
        try simp only [Act.put, setIfInBounds_toArray, set_cons_zero, set_cons_succ]
        refine wpAnyH_ready (rs := [8]) (by kernel_rfl) (by simp) ?_
        refine .cons rfl (fun K hK => ?_) .nil
        go_simp
        go_at_call 25
        refine (c_siteTo X39).mono ?_
        rintro e X40 ⟨p2, rfl, h1, bb⟩
        have HKX40 := Lib.hid (below_join HKX39.out bb HKX39.out.size)
        have RTX40 := Lib.hid (RTX39.out.on bb (Nat.le_refl _))
        have T1X40 := Lib.hid h1
        clear h1
        clear bb
        try dsimp only
        clear hHeld
        refine hK.out _ _ (HS.out _ HKX40.out) (fun hHeld => ?_)
        clear hK K
        try simp only [Act.put, setIfInBounds_toArray, set_cons_zero, set_cons_succ]
        refine wpAnyH_ready (rs := [9]) (by kernel_rfl) (by simp) ?_
        refine .cons rfl (fun K hK => ?_) .nil
        go_simp
        go_at_call 26
        refine (c_wishTo X40).mono ?_
        rintro e X41 ⟨A2, c2, b2, rfl, h1, bb⟩
        have HKX41 := Lib.hid (below_join HKX40.out bb HKX40.out.size)
        have RTX41 := Lib.hid (RTX40.out.on bb (Nat.le_refl _))
        have T1X41 := Lib.hid (T1X40.out.on bb (Nat.le_refl _))
        have T2X41 := Lib.hid h1
        clear h1
        clear bb
        try dsimp only
        clear hHeld
        refine hK.out _ _ (HS.out _ HKX41.out) (fun hHeld => ?_)
        clear hK K
        try simp only [Act.put, setIfInBounds_toArray, set_cons_zero, set_cons_succ]
        refine wpAnyH_ready (rs := [11]) (by kernel_rfl) (by simp) ?_
        refine .cons rfl (fun K hK => ?_) .nil
        go_simp
        go_at_call 13
        refine (c_Broken ⟨p2, exD, A2, c2, wxs b2, q2, W2⟩ true ⟨fun _ => ok2, fun _ => rfl⟩ [⟨1, 0, 0⟩, ⟨4, 0, 0⟩, ⟨5, 1, 0⟩] br2 X41 ⟨T1X41.out, T2X41.out, HW.out _ HKX41.out⟩).mono ?_
        rintro e X42 ⟨A9, c9, rfl, h1, bb⟩
        have HKX42 := Lib.hid (below_join HKX41.out bb HKX41.out.size)
        have RTX42 := Lib.hid (RTX41.out.on bb (Nat.le_refl _))
        have R8X42 := Lib.hid h1
        clear h1
        clear bb
        try dsimp only
        clear hHeld
        refine hK.out _ _ (HS.out _ HKX42.out) (fun hHeld => ?_)
        clear hK K
        try simp only [Act.put, setIfInBounds_toArray, set_cons_zero, set_cons_succ]
        refine wpAnyH_ready (rs := [16]) (by kernel_rfl) (by simp) ?_
        refine .cons rfl (fun K hK => ?_) .nil
        go_simp
        go_at_call 12
        refine (c_irSame A9 c9 [⟨1, 0, 0⟩, ⟨4, 0, 0⟩, ⟨5, 1, 0⟩] (some ⟨gt, 0, none⟩) 3 [⟨1, 0, 0⟩, ⟨4, 0, 0⟩, ⟨5, 1, 0⟩] true (by decide) X42 R8X42.out RTX42.out).mono ?_
        rintro e X43 ⟨rfl, bb⟩
        have HKX43 := Lib.hid (below_join HKX42.out bb HKX42.out.size)
        clear bb
        try dsimp only
        clear hHeld
        refine hK.out _ _ (HS.out _ HKX43.out) (fun hHeld => ?_)
        clear hK K
        try simp only [Act.put, setIfInBounds_toArray, set_cons_zero, set_cons_succ]
        refine takeH (i := 17) 24 (v := ?_) rfl rfl (by kernel_rfl) (by kernel_rfl) (by kernel_rfl) (fun _ _ _ h => h) (by rfl) ?_ hHeld ?_
        rotate_left
        · intro X hX; first | (go_simp; done) | (go_simp; with_reducible rfl)
        try simp only [Act.put, setIfInBounds_toArray, set_cons_zero, set_cons_succ]
        refine takeH (i := 18) 0 (v := ?_) rfl rfl (by kernel_rfl) (by kernel_rfl) (by kernel_rfl) (fun _ _ _ h => h) (by rfl) ?_ hHeld ?_
        rotate_left
        · intro X hX; first | (go_simp; done) | (go_simp; with_reducible rfl)
        try simp only [Act.put, setIfInBounds_toArray, set_cons_zero, set_cons_succ]
        refine wpAnyH_done (by kernel_rfl) ?_ _
        go_wp2_with (fail)
        go_ret
        exact ⟨rfl, below_join HB.out HKX43.out HB.out.size⟩
  · go_simp
    obtain ⟨X44, hX44⟩ : ∃ Y, Y = X0.alloc (.cells #[.int .i64 0, .int .i64 0, .int .i64 0, .int .i64 2] 53) := ⟨_, rfl⟩
    have bb : Below X0.heap.size X0 X44 := by rw [hX44]; exact (Below.refl _ _).alloc (Nat.le_refl _) _
    have HKX44 := Lib.hid (below_join HKX0.out bb HKX0.out.size)
    have hbx : X44.heap[X0.heap.size]? = some (.cells #[.int .i64 0, .int .i64 0, .int .i64 0, .int .i64 2] 53 (0, 0)) := by rw [hX44]; exact box_new _ _ _
    have RVX44 := Lib.hid (rv_block (k := 2) (F := repV) (l := W1.reps) hbx (by simp [W1, maxLen]))
    obtain ⟨gs, hgs⟩ : ∃ gs, X0.heap.size = gs := ⟨_, rfl⟩
    rw [hgs] at RVX44 ⊢
    clear hgs
    rw [← hX44]
    clear bb hX44 hbx
    try dsimp only
    clear hHeld
    refine hK.out _ _ (HS.out _ HKX44.out) (fun hHeld => ?_)
    clear hK K
    try simp only [Act.put, setIfInBounds_toArray, set_cons_zero, set_cons_succ]
    refine wpAnyH_ready (rs := [0]) (by kernel_rfl) (by simp) ?_
    refine .cons rfl (fun K hK => ?_) .nil
    go_simp
    go_at_call 25
    refine (c_siteTo X44).mono ?_
    rintro e X45 ⟨p, rfl, h1, bb⟩
    have HKX45 := Lib.hid (below_join HKX44.out bb HKX44.out.size)
    have RVX45 := Lib.hid (RVX44.out.on bb (Nat.le_refl _))
    have S1X45 := Lib.hid h1
    clear h1
    clear bb
    try dsimp only
    clear hHeld
    refine hK.out _ _ (HS.out _ HKX45.out) (fun hHeld => ?_)
    clear hK K
    try simp only [Act.put, setIfInBounds_toArray, set_cons_zero, set_cons_succ]
    refine wpAnyH_ready (rs := [1]) (by kernel_rfl) (by simp) ?_
    refine .cons rfl (fun K hK => ?_) .nil
    go_simp
    go_at_call 26
    refine (c_wishTo X45).mono ?_
    rintro e X46 ⟨A, c, b, rfl, h1, bb⟩
    have HKX46 := Lib.hid (below_join HKX45.out bb HKX45.out.size)
    have RVX46 := Lib.hid (RVX45.out.on bb (Nat.le_refl _))
    have S1X46 := Lib.hid (S1X45.out.on bb (Nat.le_refl _))
    have S2X46 := Lib.hid h1
    clear h1
    clear bb
    try dsimp only
    clear hHeld
    refine hK.out _ _ (HS.out _ HKX46.out) (fun hHeld => ?_)
    clear hK K
    try simp only [Act.put, setIfInBounds_toArray, set_cons_zero, set_cons_succ]
    refine wpAnyH_ready (rs := [5]) (by kernel_rfl) (by simp) ?_
    refine .cons rfl (fun K hK => ?_) .nil
    go_simp
    go_at_call 24
    refine (c_worldN (some ⟨gs, 0, none⟩) 2 W1.reps 2 rfl X46 RVX46.out).mono ?_
    rintro e X47 ⟨q, rfl, h1, bb⟩
    have HKX47 := Lib.hid (below_join HKX46.out bb HKX46.out.size)
    have RVX47 := Lib.hid (RVX46.out.on bb (Nat.le_refl _))
    have S1X47 := Lib.hid (S1X46.out.on bb (Nat.le_refl _))
    have S2X47 := Lib.hid (S2X46.out.on bb (Nat.le_refl _))
    have WQX47 := Lib.hid h1
    clear h1
    clear bb
    try dsimp only
    clear hHeld
    refine hK.out _ _ (HS.out _ HKX47.out) (fun hHeld => ?_)
    clear hK K
    try simp only [Act.put, setIfInBounds_toArray, set_cons_zero, set_cons_succ]
    refine wpAnyH_ready (rs := [6]) (by kernel_rfl) (by simp) ?_
    refine .cons rfl (fun K hK => ?_) .nil
    go_simp
    go_at_call 15
    refine (c_ivHolds ⟨p, exD, A, c, wxs b, q, W1⟩ true ⟨fun _ => ok1, fun _ => rfl⟩ [] br1 true rfl X47 ⟨S1X47.out, S2X47.out, WQX47.out⟩).mono ?_
    rintro e X48 ⟨rfl, bb⟩
    have HKX48 := Lib.hid (below_join HKX47.out bb HKX47.out.size)
    clear bb
    try dsimp only
    clear hHeld
    refine hK.out _ _ (HS.out _ HKX48.out) (fun hHeld => ?_)
    clear hK K
    try simp only [Act.put, setIfInBounds_toArray, set_cons_zero, set_cons_succ]
    refine takeH (i := 7) 14 (v := ?_) rfl rfl (by kernel_rfl) (by kernel_rfl) (by kernel_rfl) (fun _ _ _ h => h) (by rfl) ?_ hHeld ?_
    rotate_left
    · intro X hX; first | (go_simp; done) | (go_simp; with_reducible rfl)
    try simp only [Act.put, setIfInBounds_toArray, set_cons_zero, set_cons_succ]
    refine takeH (i := 10) 17 (v := ?_) rfl rfl (by kernel_rfl) (by kernel_rfl) (by kernel_rfl) (fun _ _ _ h => h) (by rfl) ?_ hHeld ?_
    rotate_left
    · intro X hX; obtain ⟨hq0, hq1⟩ := hX; first | (go_simp; done) | (go_simp; with_reducible rfl)
    try simp only [Act.put, setIfInBounds_toArray, set_cons_zero, set_cons_succ]
    refine takeH (i := 12) 19 (v := ?_) rfl rfl (by kernel_rfl) (by kernel_rfl) (by kernel_rfl) (fun _ _ _ h => h) (by rfl) ?_ hHeld ?_
    rotate_left
    · intro X hX; first | (go_simp; done) | (go_simp; with_reducible rfl)
    try simp only [Act.put, setIfInBounds_toArray, set_cons_zero, set_cons_succ]
    refine takeH (i := 13) 20 (v := ?_) rfl rfl (by kernel_rfl) (by kernel_rfl) (by kernel_rfl) (fun _ _ _ h => h) (by rfl) ?_ hHeld ?_
    rotate_left
    · intro X hX; first | (go_simp; done) | (go_simp; with_reducible rfl)
    try simp only [Act.put, setIfInBounds_toArray, set_cons_zero, set_cons_succ]
    refine takeH (i := 14) 21 (v := ?_) rfl rfl (by kernel_rfl) (by kernel_rfl) (by kernel_rfl) (fun _ _ _ h => h) (by rfl) ?_ hHeld ?_
    rotate_left
    · intro X hX; first | (go_simp; done) | (go_simp; with_reducible rfl)
    try simp only [Act.put, setIfInBounds_toArray, set_cons_zero, set_cons_succ]
    refine wpAnyH_ready (rs := [8, 15]) (by kernel_rfl) (by simp) ?_
    refine .cons rfl (fun K hK => ?_) (.cons rfl (fun K hK => ?_) .nil)
    · go_simp
      go_at_call 25
      refine (c_siteTo X48).mono ?_
      rintro e X49 ⟨p2, rfl, h1, bb⟩
      have HKX49 := Lib.hid (below_join HKX48.out bb HKX48.out.size)
      have T1X49 := Lib.hid h1
      clear h1
      clear bb
      try dsimp only
      clear hHeld
      refine hK.out _ _ (HS.out _ HKX49.out) (fun hHeld => ?_)
      clear hK K
      try simp only [Act.put, setIfInBounds_toArray, set_cons_zero, set_cons_succ]
      refine wpAnyH_ready (rs := [9, 15]) (by kernel_rfl) (by simp) ?_
      refine .cons rfl (fun K hK => ?_) (.cons rfl (fun K hK => ?_) .nil)
      · go_simp
        go_at_call 26
        refine (c_wishTo X49).mono ?_
        rintro e X50 ⟨A2, c2, b2, rfl, h1, bb⟩
        have HKX50 := Lib.hid (below_join HKX49.out bb HKX49.out.size)
        have T1X50 := Lib.hid (T1X49.out.on bb (Nat.le_refl _))
        have T2X50 := Lib.hid h1
        clear h1
        clear bb
        try dsimp only
        clear hHeld
        refine hK.out _ _ (HS.out _ HKX50.out) (fun hHeld => ?_)
        clear hK K
        try simp only [Act.put, setIfInBounds_toArray, set_cons_zero, set_cons_succ]
        refine wpAnyH_ready (rs := [11, 15]) (by kernel_rfl) (by simp) ?_
        refine .cons rfl (fun K hK => ?_) (.cons rfl (fun K hK => ?_) .nil)
        · go_simp
          go_at_call 13
          refine (c_Broken ⟨p2, exD, A2, c2, wxs b2, q2, W2⟩ true ⟨fun _ => ok2, fun _ => rfl⟩ [⟨1, 0, 0⟩, ⟨4, 0, 0⟩, ⟨5, 1, 0⟩] br2 X50 ⟨T1X50.out, T2X50.out, HW.out _ HKX50.out⟩).mono ?_
          rintro e X51 ⟨A9, c9, rfl, h1, bb⟩
          have HKX51 := Lib.hid (below_join HKX50.out bb HKX50.out.size)
          have R8X51 := Lib.hid h1
          clear h1
          clear bb
          try dsimp only
          clear hHeld
          refine hK.out _ _ (HS.out _ HKX51.out) (fun hHeld => ?_)
          clear hK K
          try simp only [Act.put, setIfInBounds_toArray, set_cons_zero, set_cons_succ]
          refine wpAnyH_ready (rs := [15]) (by kernel_rfl) (by simp) ?_
          refine .cons rfl (fun K hK => ?_) .nil
          go_simp
          obtain ⟨X52, hX52⟩ : ∃ Y, Y = X51.alloc (.cells #[.int .u8 1, .int .i64 0, .int .i64 0, .int .u8 4, .int .i64 0, .int .i64 0, .int .u8 5, .int .i64 1, .int .i64 0] 44) := ⟨_, rfl⟩
          have bb : Below X51.heap.size X51 X52 := by rw [hX52]; exact (Below.refl _ _).alloc (Nat.le_refl _) _
          have HKX52 := Lib.hid (below_join HKX51.out bb HKX51.out.size)
          have R8X52 := Lib.hid (R8X51.out.on bb (Nat.le_refl _))
          have hbx : X52.heap[X51.heap.size]? = some (.cells #[.int .u8 1, .int .i64 0, .int .i64 0, .int .u8 4, .int .i64 0, .int .i64 0, .int .u8 5, .int .i64 1, .int .i64 0] 44 (0, 0)) := by rw [hX52]; exact box_new _ _ _
          have RTX52 := Lib.hid (rv_block (k := 3) (F := bnF) (l := [⟨1, 0, 0⟩, ⟨4, 0, 0⟩, ⟨5, 1, 0⟩]) hbx (by simp [maxLen]))
          obtain ⟨gt, hgt⟩ : ∃ gt, X51.heap.size = gt := ⟨_, rfl⟩
          rw [hgt] at RTX52 ⊢
          clear hgt
          rw [← hX52]
          clear bb hX52 hbx
          try dsimp only
          clear hHeld
          refine hK.out _ _ (HS.out _ HKX52.out) (fun hHeld => ?_)
          clear hK K
          try simp only [Act.put, setIfInBounds_toArray, set_cons_zero, set_cons_succ]
          refine wpAnyH_ready (rs := [16]) (by kernel_rfl) (by simp) ?_
          refine .cons rfl (fun K hK => ?_) .nil
          go_simp
          go_at_call 12
          refine (c_irSame A9 c9 [⟨1, 0, 0⟩, ⟨4, 0, 0⟩, ⟨5, 1, 0⟩] (some ⟨gt, 0, none⟩) 3 [⟨1, 0, 0⟩, ⟨4, 0, 0⟩, ⟨5, 1, 0⟩] true (by decide) X52 R8X52.out RTX52.out).mono ?_
          rintro e X53 ⟨rfl, bb⟩
          have HKX53 := Lib.hid (below_join HKX52.out bb HKX52.out.size)
          clear bb
          try dsimp only
          clear hHeld
          refine hK.out _ _ (HS.out _ HKX53.out) (fun hHeld => ?_)
          clear hK K
          try simp only [Act.put, setIfInBounds_toArray, set_cons_zero, set_cons_succ]
          refine takeH (i := 17) 24 (v := ?_) rfl rfl (by kernel_rfl) (by kernel_rfl) (by kernel_rfl) (fun _ _ _ h => h) (by rfl) ?_ hHeld ?_
          rotate_left
          · intro X hX; first | (go_simp; done) | (go_simp; with_reducible rfl)
          try simp only [Act.put, setIfInBounds_toArray, set_cons_zero, set_cons_succ]
          refine takeH (i := 18) 0 (v := ?_) rfl rfl (by kernel_rfl) (by kernel_rfl) (by kernel_rfl) (fun _ _ _ h => h) (by rfl) ?_ hHeld ?_
          rotate_left
          · intro X hX; first | (go_simp; done) | (go_simp; with_reducible rfl)
          try simp only [Act.put, setIfInBounds_toArray, set_cons_zero, set_cons_succ]
          refine wpAnyH_done (by kernel_rfl) ?_ _
          go_wp2_with (fail)
          go_ret
          exact ⟨rfl, below_join HB.out HKX53.out HB.out.size⟩
        · go_simp
          obtain ⟨X54, hX54⟩ : ∃ Y, Y = X50.alloc (.cells #[.int .u8 1, .int .i64 0, .int .i64 0, .int .u8 4, .int .i64 0, .int .i64 0, .int .u8 5, .int .i64 1, .int .i64 0] 44) := ⟨_, rfl⟩
          have bb : Below X50.heap.size X50 X54 := by rw [hX54]; exact (Below.refl _ _).alloc (Nat.le_refl _) _
          have HKX54 := Lib.hid (below_join HKX50.out bb HKX50.out.size)
          have T1X54 := Lib.hid (T1X50.out.on bb (Nat.le_refl _))
          have T2X54 := Lib.hid (T2X50.out.on bb (Nat.le_refl _))
          have hbx : X54.heap[X50.heap.size]? = some (.cells #[.int .u8 1, .int .i64 0, .int .i64 0, .int .u8 4, .int .i64 0, .int .i64 0, .int .u8 5, .int .i64 1, .int .i64 0] 44 (0, 0)) := by rw [hX54]; exact box_new _ _ _
          have RTX54 := Lib.hid (rv_block (k := 3) (F := bnF) (l := [⟨1, 0, 0⟩, ⟨4, 0, 0⟩, ⟨5, 1, 0⟩]) hbx (by simp [maxLen]))
          obtain ⟨gt, hgt⟩ : ∃ gt, X50.heap.size = gt := ⟨_, rfl⟩
          rw [hgt] at RTX54 ⊢
          clear hgt
          rw [← hX54]
          clear bb hX54 hbx
          try dsimp only
          clear hHeld
          refine hK.out _ _ (HS.out _ HKX54.out) (fun hHeld => ?_)
          clear hK K
          try simp only [Act.put, setIfInBounds_toArray, set_cons_zero, set_cons_succ]
          refine wpAnyH_ready (rs := [11]) (by kernel_rfl) (by simp) ?_
          refine .cons rfl (fun K hK => ?_) .nil
          go_simp
          go_at_call 13
          refine (c_Broken ⟨p2, exD, A2, c2, wxs b2, q2, W2⟩ true ⟨fun _ => ok2, fun _ => rfl⟩ [⟨1, 0, 0⟩, ⟨4, 0, 0⟩, ⟨5, 1, 0⟩] br2 X54 ⟨T1X54.out, T2X54.out, HW.out _ HKX54.out⟩).mono ?_
          rintro e X55 ⟨A9, c9, rfl, h1, bb⟩
          have HKX55 := Lib.hid (below_join HKX54.out bb HKX54.out.size)
          have RTX55 := Lib.hid (RTX54.out.on bb (Nat.le_refl _))
          have R8X55 := Lib.hid h1
          clear h1
          clear bb
          try dsimp only
          clear hHeld
          refine hK.out _ _ (HS.out _ HKX55.out) (fun hHeld => ?_)
          clear hK K
          try simp only [Act.put, setIfInBounds_toArray, set_cons_zero, set_cons_succ]
          refine wpAnyH_ready (rs := [16]) (by kernel_rfl) (by simp) ?_
          refine .cons rfl (fun K hK => ?_) .nil
          go_simp
          go_at_call 12
          refine (c_irSame A9 c9 [⟨1, 0, 0⟩, ⟨4, 0, 0⟩, ⟨5, 1, 0⟩] (some ⟨gt, 0, none⟩) 3 [⟨1, 0, 0⟩, ⟨4, 0, 0⟩, ⟨5, 1, 0⟩] true (by decide) X55 R8X55.out RTX55.out).mono ?_
          rintro e X56 ⟨rfl, bb⟩
          have HKX56 := Lib.hid (below_join HKX55.out bb HKX55.out.size)
          clear bb
          try dsimp only
          clear hHeld
          refine hK.out _ _ (HS.out _ HKX56.out) (fun hHeld => ?_)
          clear hK K
          try simp only [Act.put, setIfInBounds_toArray, set_cons_zero, set_cons_succ]
          refine takeH (i := 17) 24 (v := ?_) rfl rfl (by kernel_rfl) (by kernel_rfl) (by kernel_rfl) (fun _ _ _ h => h) (by rfl) ?_ hHeld ?_
          rotate_left
          · intro X hX; first | (go_simp; done) | (go_simp; with_reducible rfl)
          try simp only [Act.put, setIfInBounds_toArray, set_cons_zero, set_cons_succ]
          refine takeH (i := 18) 0 (v := ?_) rfl rfl (by kernel_rfl) (by kernel_rfl) (by kernel_rfl) (fun _ _ _ h => h) (by rfl) ?_ hHeld ?_
          rotate_left
          · intro X hX; first | (go_simp; done) | (go_simp; with_reducible rfl)
          try simp only [Act.put, setIfInBounds_toArray, set_cons_zero, set_cons_succ]
          refine wpAnyH_done (by kernel_rfl) ?_ _
          go_wp2_with (fail)
          go_ret
          exact ⟨rfl, below_join HB.out HKX56.out HB.out.size⟩
      · go_simp
        obtain ⟨X57, hX57⟩ : ∃ Y, Y = X49.alloc (.cells #[.int .u8 1, .int .i64 0, .int .i64 0, .int .u8 4, .int .i64 0, .int .i64 0, .int .u8 5, .int .i64 1, .int .i64 0] 44) := ⟨_, rfl⟩
        have bb : Below X49.heap.size X49 X57 := by rw [hX57]; exact (Below.refl _ _).alloc (Nat.le_refl _) _
        have HKX57 := Lib.hid (below_join HKX49.out bb HKX49.out.size)
        have T1X57 := Lib.hid (T1X49.out.on bb (Nat.le_refl _))
        have hbx : X57.heap[X49.heap.size]? = some (.cells #[.int .u8 1, .int .i64 0, .int .i64 0, .int .u8 4, .int .i64 0, .int .i64 0, .int .u8 5, .int .i64 1, .int .i64 0] 44 (0, 0)) := by rw [hX57]; exact box_new _ _ _
        have RTX57 := Lib.hid (rv_block (k := 3) (F := bnF) (l := [⟨1, 0, 0⟩, ⟨4, 0, 0⟩, ⟨5, 1, 0⟩]) hbx (by simp [maxLen]))
        obtain ⟨gt, hgt⟩ : ∃ gt, X49.heap.size = gt := ⟨_, rfl⟩
        rw [hgt] at RTX57 ⊢
        clear hgt
        rw [← hX57]
        clear bb hX57 hbx
        try dsimp only
        clear hHeld
        refine hK.out _ _ (HS.out _ HKX57.out) (fun hHeld => ?_)
        clear hK K
        try simp only [Act.put, setIfInBounds_toArray, set_cons_zero, set_cons_succ]
        refine wpAnyH_ready (rs := [9]) (by kernel_rfl) (by simp) ?_
        refine .cons rfl (fun K hK => ?_) .nil
        go_simp
        go_at_call 26
        refine (c_wishTo X57).mono ?_
        rintro e X58 ⟨A2, c2, b2, rfl, h1, bb⟩
        have HKX58 := Lib.hid (below_join HKX57.out bb HKX57.out.size)
        have T1X58 := Lib.hid (T1X57.out.on bb (Nat.le_refl _))
        have RTX58 := Lib.hid (RTX57.out.on bb (Nat.le_refl _))
        have T2X58 := Lib.hid h1
        clear h1
        clear bb
        try dsimp only
        clear hHeld
        refine hK.out _ _ (HS.out _ HKX58.out) (fun hHeld => ?_)
        clear hK K
        try simp only [Act.put, setIfInBounds_toArray, set_cons_zero, set_cons_succ]
        refine wpAnyH_ready (rs := [11]) (by kernel_rfl) (by simp) ?_
        refine .cons rfl (fun K hK => ?_) .nil
        go_simp
        go_at_call 13
        refine (c_Broken ⟨p2, exD, A2, c2, wxs b2, q2, W2⟩ true ⟨fun _ => ok2, fun _ => rfl⟩ [⟨1, 0, 0⟩, ⟨4, 0, 0⟩, ⟨5, 1, 0⟩] br2 X58 ⟨T1X58.out, T2X58.out, HW.out _ HKX58.out⟩).mono ?_
        rintro e X59 ⟨A9, c9, rfl, h1, bb⟩
        have HKX59 := Lib.hid (below_join HKX58.out bb HKX58.out.size)
        have RTX59 := Lib.hid (RTX58.out.on bb (Nat.le_refl _))
        have R8X59 := Lib.hid h1
        clear h1
        clear bb
        try dsimp only
        clear hHeld
        refine hK.out _ _ (HS.out _ HKX59.out) (fun hHeld => ?_)
        clear hK K
        try simp only [Act.put, setIfInBounds_toArray, set_cons_zero, set_cons_succ]
        refine wpAnyH_ready (rs := [16]) (by kernel_rfl) (by simp) ?_
        refine .cons rfl (fun K hK => ?_) .nil
        go_simp
        go_at_call 12
        refine (c_irSame A9 c9 [⟨1, 0, 0⟩, ⟨4, 0, 0⟩, ⟨5, 1, 0⟩] (some ⟨gt, 0, none⟩) 3 [⟨1, 0, 0⟩, ⟨4, 0, 0⟩, ⟨5, 1, 0⟩] true (by decide) X59 R8X59.out RTX59.out).mono ?_
        rintro e X60 ⟨rfl, bb⟩
        have HKX60 := Lib.hid (below_join HKX59.out bb HKX59.out.size)
        clear bb
        try dsimp only
        clear hHeld
        refine hK.out _ _ (HS.out _ HKX60.out) (fun hHeld => ?_)
        clear hK K
        try simp only [Act.put, setIfInBounds_toArray, set_cons_zero, set_cons_succ]
        refine takeH (i := 17) 24 (v := ?_) rfl rfl (by kernel_rfl) (by kernel_rfl) (by kernel_rfl) (fun _ _ _ h => h) (by rfl) ?_ hHeld ?_
        rotate_left
        · intro X hX; first | (go_simp; done) | (go_simp; with_reducible rfl)
        try simp only [Act.put, setIfInBounds_toArray, set_cons_zero, set_cons_succ]
        refine takeH (i := 18) 0 (v := ?_) rfl rfl (by kernel_rfl) (by kernel_rfl) (by kernel_rfl) (fun _ _ _ h => h) (by rfl) ?_ hHeld ?_
        rotate_left
        · intro X hX; first | (go_simp; done) | (go_simp; with_reducible rfl)
        try simp only [Act.put, setIfInBounds_toArray, set_cons_zero, set_cons_succ]
        refine wpAnyH_done (by kernel_rfl) ?_ _
        go_wp2_with (fail)
        go_ret
        exact ⟨rfl, below_join HB.out HKX60.out HB.out.size⟩
    · go_simp
      obtain ⟨X61, hX61⟩ : ∃ Y, Y = X48.alloc (.cells #[.int .u8 1, .int .i64 0, .int .i64 0, .int .u8 4, .int .i64 0, .int .i64 0, .int .u8 5, .int .i64 1, .int .i64 0] 44) := ⟨_, rfl⟩
      have bb : Below X48.heap.size X48 X61 := by rw [hX61]; exact (Below.refl _ _).alloc (Nat.le_refl _) _
      have HKX61 := Lib.hid (below_join HKX48.out bb HKX48.out.size)
      have hbx : X61.heap[X48.heap.size]? = some (.cells #[.int .u8 1, .int .i64 0, .int .i64 0, .int .u8 4, .int .i64 0, .int .i64 0, .int .u8 5, .int .i64 1, .int .i64 0] 44 (0, 0)) := by rw [hX61]; exact box_new _ _ _
      have RTX61 := Lib.hid (rv_block (k := 3) (F := bnF) (l := [⟨1, 0, 0⟩, ⟨4, 0, 0⟩, ⟨5, 1, 0⟩]) hbx (by simp [maxLen]))
      obtain ⟨gt, hgt⟩ : ∃ gt, X48.heap.size = gt := ⟨_, rfl⟩
      rw [hgt] at RTX61 ⊢
      clear hgt
      rw [← hX61]
      clear bb hX61 hbx
      try dsimp only
      clear hHeld
      refine hK.out _ _ (HS.out _ HKX61.out) (fun hHeld => ?_)
      clear hK K
      try simp only [Act.put, setIfInBounds_toArray, set_cons_zero, set_cons_succ]
      refine wpAnyH_ready (rs := [8]) (by kernel_rfl) (by simp) ?_
      refine .cons rfl (fun K hK => ?_) .nil
      go_simp
      go_at_call 25
      refine (c_siteTo X61).mono ?_
      rintro e X62 ⟨p2, rfl, h1, bb⟩
      have HKX62 := Lib.hid (below_join HKX61.out bb HKX61.out.size)
      have RTX62 := Lib.hid (RTX61.out.on bb (Nat.le_refl _))
      have T1X62 := Lib.hid h1
      clear h1
      clear bb
      try dsimp only
      clear hHeld
      refine hK.out _ _ (HS.out _ HKX62.out) (fun hHeld => ?_)
      clear hK K
      try simp only [Act.put, setIfInBounds_toArray, set_cons_zero, set_cons_succ]
      refine wpAnyH_ready (rs := [9]) (by kernel_rfl) (by simp) ?_
      refine .cons rfl (fun K hK => ?_) .nil
      go_simp
      go_at_call 26
      refine (c_wishTo X62).mono ?_
      rintro e X63 ⟨A2, c2, b2, rfl, h1, bb⟩
      have HKX63 := Lib.hid (below_join HKX62.out bb HKX62.out.size)
      have RTX63 := Lib.hid (RTX62.out.on bb (Nat.le_refl _))
      have T1X63 := Lib.hid (T1X62.out.on bb (Nat.le_refl _))
      have T2X63 := Lib.hid h1
      clear h1
      clear bb
      try dsimp only
      clear hHeld
      refine hK.out _ _ (HS.out _ HKX63.out) (fun hHeld => ?_)
      clear hK K
      try simp only [Act.put, setIfInBounds_toArray, set_cons_zero, set_cons_succ]
      refine wpAnyH_ready (rs := [11]) (by kernel_rfl) (by simp) ?_
      refine .cons rfl (fun K hK => ?_) .nil
      go_simp
      go_at_call 13
      refine (c_Broken ⟨p2, exD, A2, c2, wxs b2, q2, W2⟩ true ⟨fun _ => ok2, fun _ => rfl⟩ [⟨1, 0, 0⟩, ⟨4, 0, 0⟩, ⟨5, 1, 0⟩] br2 X63 ⟨T1X63.out, T2X63.out, HW.out _ HKX63.out⟩).mono ?_
      rintro e X64 ⟨A9, c9, rfl, h1, bb⟩
      have HKX64 := Lib.hid (below_join HKX63.out bb HKX63.out.size)
      have RTX64 := Lib.hid (RTX63.out.on bb (Nat.le_refl _))
      have R8X64 := Lib.hid h1
      clear h1
      clear bb
      try dsimp only
      clear hHeld
      refine hK.out _ _ (HS.out _ HKX64.out) (fun hHeld => ?_)
      clear hK K
      try simp only [Act.put, setIfInBounds_toArray, set_cons_zero, set_cons_succ]
      refine wpAnyH_ready (rs := [16]) (by kernel_rfl) (by simp) ?_
      refine .cons rfl (fun K hK => ?_) .nil
      go_simp
      go_at_call 12
      refine (c_irSame A9 c9 [⟨1, 0, 0⟩, ⟨4, 0, 0⟩, ⟨5, 1, 0⟩] (some ⟨gt, 0, none⟩) 3 [⟨1, 0, 0⟩, ⟨4, 0, 0⟩, ⟨5, 1, 0⟩] true (by decide) X64 R8X64.out RTX64.out).mono ?_
      rintro e X65 ⟨rfl, bb⟩
      have HKX65 := Lib.hid (below_join HKX64.out bb HKX64.out.size)
      clear bb
      try dsimp only
      clear hHeld
      refine hK.out _ _ (HS.out _ HKX65.out) (fun hHeld => ?_)
      clear hK K
      try simp only [Act.put, setIfInBounds_toArray, set_cons_zero, set_cons_succ]
      refine takeH (i := 17) 24 (v := ?_) rfl rfl (by kernel_rfl) (by kernel_rfl) (by kernel_rfl) (fun _ _ _ h => h) (by rfl) ?_ hHeld ?_
      rotate_left
      · intro X hX; first | (go_simp; done) | (go_simp; with_reducible rfl)
      try simp only [Act.put, setIfInBounds_toArray, set_cons_zero, set_cons_succ]
      refine takeH (i := 18) 0 (v := ?_) rfl rfl (by kernel_rfl) (by kernel_rfl) (by kernel_rfl) (fun _ _ _ h => h) (by rfl) ?_ hHeld ?_
      rotate_left
      · intro X hX; first | (go_simp; done) | (go_simp; with_reducible rfl)
      try simp only [Act.put, setIfInBounds_toArray, set_cons_zero, set_cons_succ]
      refine wpAnyH_done (by kernel_rfl) ?_ _
      go_wp2_with (fail)
      go_ret
      exact ⟨rfl, below_join HB.out HKX65.out HB.out.size⟩
end Go.Proofs.YtbbadnlaelgmlaaGreat
