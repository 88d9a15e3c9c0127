/-
  DERIVED. Several texts in one.
-/
import Derived.Test.YtidpiokkfnhobaaGreatPO3
import Derived.Test.YtidpiokkfnhobaaGreatPV53
import Derived.Test.YtidpiokkfnhobaaGreatPV55
set_option linter.unusedVariables false
set_option linter.unusedSimpArgs false

namespace Go.Proofs.YtidpiokkfnhobaaGreat
open Go.RowKit
set_option maxRecDepth 100000
set_option linter.unusedVariables false
set_option linter.unusedSimpArgs false

/-- Lists of at most 60 elements. -/
def FewZ (z : Sn) : Prop := z.s.feeds.length ≤ 60 ∧ z.s.brks.length ≤ 60 ∧ z.s.loops.length ≤ 60 ∧ z.s.racks.length ≤ 60 ∧ z.s.links.length ≤ 60 ∧ z.s.hosts.length ≤ 60 ∧ z.xs.length ≤ 60 ∧ z.d.hosts.length ≤ 60 ∧ z.d.reps.length ≤ 60
set_option maxHeartbeats 16000000 in
theorem c_fewZ (z : Sn) (r : Bool) (hr : r = true ↔ FewZ z) (w : World) (hz : SnAt w z) :
    Calls Tryz.prog 8 #[.agg #[.slice z.p.a1 z.s.feeds.length z.p.c1, .slice z.p.a2 z.s.brks.length z.p.c2, .slice z.p.a3 z.s.loops.length z.p.c3, .slice z.p.a4 z.s.racks.length z.p.c4, .int .i64 z.s.sw, .slice z.p.a5 z.s.links.length z.p.c5, .slice z.p.a6 z.s.hosts.length z.p.c6], .agg #[.slice z.A z.xs.length z.c], .agg #[.slice z.q.a1 z.d.hosts.length z.q.c1, .slice z.q.a2 z.d.reps.length z.q.c2]] w fun e w' => e = .returned (.bool r) ∧ Below w.heap.size w w' := by
  have n9 : z.s.links.length ≤ 9223372036854775807 := by
    have a5 := hz.si.links.1; have b5 := hz.si.links.2.1; unfold maxLen at *; omega
  obtain ⟨W1, h1⟩ : ∃ W, W = w.alloc (.cells #[.slice z.p.a1 z.s.feeds.length z.p.c1, .slice z.p.a2 z.s.brks.length z.p.c2, .slice z.p.a3 z.s.loops.length z.p.c3, .slice z.p.a4 z.s.racks.length z.p.c4, .int .i64 z.s.sw, .slice z.p.a5 z.s.links.length z.p.c5, .slice z.p.a6 z.s.hosts.length z.p.c6] 29) := ⟨_, rfl⟩
  obtain ⟨W2, h2⟩ : ∃ W, W = W1.alloc (.cells #[.slice z.A z.xs.length z.c] 32) := ⟨_, rfl⟩
  obtain ⟨W, h3⟩ : ∃ W, W = W2.alloc (.cells #[.slice z.q.a1 z.d.hosts.length z.q.c1, .slice z.q.a2 z.d.reps.length z.q.c2] 36) := ⟨_, rfl⟩
  obtain ⟨B0, X1⟩ := sn_boxes h1 h2 h3
  have z3 : W.heap.size = w.heap.size + 1 + 1 + 1 := sn_size h1 h2 h3
  have HB := Lib.hid B0
  have Z0 := hz.on B0 (Nat.le_refl _)
  have HZ := Lib.hid (fun (X : World) (hX : Below W.heap.size W X) => Z0.on hX (Nat.le_refl _))
  have HF := Lib.hid (fun (X : World) (hX : Below W.heap.size W X) => ((X1.on hX (Nat.le_refl _)).cells : X.cell? ⟨w.heap.size, 0, none⟩ = some (.slice z.p.a1 z.s.feeds.length z.p.c1) ∧ X.cell? ⟨w.heap.size, 1, none⟩ = some (.slice z.p.a2 z.s.brks.length z.p.c2) ∧ X.cell? ⟨w.heap.size, 2, none⟩ = some (.slice z.p.a3 z.s.loops.length z.p.c3) ∧ X.cell? ⟨w.heap.size, 3, none⟩ = some (.slice z.p.a4 z.s.racks.length z.p.c4) ∧ X.cell? ⟨w.heap.size, 4, none⟩ = some (.int .i64 z.s.sw) ∧ X.cell? ⟨w.heap.size, 5, none⟩ = some (.slice z.p.a5 z.s.links.length z.p.c5) ∧ X.cell? ⟨w.heap.size, 6, none⟩ = some (.slice z.p.a6 z.s.hosts.length z.p.c6) ∧ X.cell? ⟨w.heap.size + 1, 0, none⟩ = some (.slice z.A z.xs.length z.c) ∧ X.cell? ⟨w.heap.size + 1 + 1, 0, none⟩ = some (.slice z.q.a1 z.d.hosts.length z.q.c1) ∧ X.cell? ⟨w.heap.size + 1 + 1, 1, none⟩ = some (.slice z.q.a2 z.d.reps.length z.q.c2)))
  have HX := Lib.hid (fun (X : World) (hX : Below W.heap.size W X) => X1.on hX (Nat.le_refl _))
  have HKW := Lib.hid (Below.refl W.heap.size W)
  have hle := HB.out.size
  obtain ⟨n1, n2, n3, n4, n5, n6, n7, n8⟩ := hz.bounds
  have HR := Lib.hid hr
  clear hr
  clear hz B0 X1 z3 Z0
  obtain ⟨f0, f1, f2, f3, f4, f5, f6, g0, g1, g2⟩ := HF.out W HKW.out
  rw [h3, h2, h1] at f0 f1 f2 f3 f4 f5 f6 g0 g1 g2
  generalize hBB : w.heap.size = B at *
  go_enter Tryz.func8, Tryz.ntmps8
  rcases hd0 : decide ((z.s.feeds.length : Int) ≤ 60) with _ | _
  · have HDD := Lib.hid hd0
    obtain rfl : false = r := by
      rcases r with _ | _
      · rfl
      · exact absurd (HR.out.1 rfl) (fun h => by unfold FewZ at h; have h2 := of_decide_eq_false HDD.out; omega)
    clear HDD
    go_wp2_with (fail)
    rw [← h1, ← h2, ← h3]
    go_ret
    exact ⟨rfl, HB.out⟩
  rcases hd1 : decide ((z.s.brks.length : Int) ≤ 60) with _ | _
  · have HDD := Lib.hid hd1
    obtain rfl : false = r := by
      rcases r with _ | _
      · rfl
      · exact absurd (HR.out.1 rfl) (fun h => by unfold FewZ at h; have h2 := of_decide_eq_false HDD.out; omega)
    clear HDD
    go_wp2_with (fail)
    rw [← h1, ← h2, ← h3]
    go_ret
    exact ⟨rfl, HB.out⟩
  rcases hd2 : decide ((z.s.loops.length : Int) ≤ 60) with _ | _
  · have HDD := Lib.hid hd2
    obtain rfl : false = r := by
      rcases r with _ | _
      · rfl
      · exact absurd (HR.out.1 rfl) (fun h => by unfold FewZ at h; have h2 := of_decide_eq_false HDD.out; omega)
    clear HDD
    go_wp2_with (fail)
    rw [← h1, ← h2, ← h3]
    go_ret
    exact ⟨rfl, HB.out⟩
  rcases hd3 : decide ((z.s.racks.length : Int) ≤ 60) with _ | _
  · have HDD := Lib.hid hd3
    obtain rfl : false = r := by
      rcases r with _ | _
      · rfl
      · exact absurd (HR.out.1 rfl) (fun h => by unfold FewZ at h; have h2 := of_decide_eq_false HDD.out; omega)
    clear HDD
    go_wp2_with (fail)
    rw [← h1, ← h2, ← h3]
    go_ret
    exact ⟨rfl, HB.out⟩
  rcases hd4 : decide ((z.s.links.length : Int) ≤ 60) with _ | _
  · have HDD := Lib.hid hd4
    obtain rfl : false = r := by
      rcases r with _ | _
      · rfl
      · exact absurd (HR.out.1 rfl) (fun h => by unfold FewZ at h; have h2 := of_decide_eq_false HDD.out; omega)
    clear HDD
    go_wp2_with (fail)
    rw [← h1, ← h2, ← h3]
    go_ret
    exact ⟨rfl, HB.out⟩
  rcases hd5 : decide ((z.s.hosts.length : Int) ≤ 60) with _ | _
  · have HDD := Lib.hid hd5
    obtain rfl : false = r := by
      rcases r with _ | _
      · rfl
      · exact absurd (HR.out.1 rfl) (fun h => by unfold FewZ at h; have h2 := of_decide_eq_false HDD.out; omega)
    clear HDD
    go_wp2_with (fail)
    rw [← h1, ← h2, ← h3]
    go_ret
    exact ⟨rfl, HB.out⟩
  rcases hd6 : decide ((z.xs.length : Int) ≤ 60) with _ | _
  · have HDD := Lib.hid hd6
    obtain rfl : false = r := by
      rcases r with _ | _
      · rfl
      · exact absurd (HR.out.1 rfl) (fun h => by unfold FewZ at h; have h2 := of_decide_eq_false HDD.out; omega)
    clear HDD
    go_wp2_with (fail)
    rw [← h1, ← h2, ← h3]
    go_ret
    exact ⟨rfl, HB.out⟩
  rcases hd7 : decide ((z.d.hosts.length : Int) ≤ 60) with _ | _
  · have HDD := Lib.hid hd7
    obtain rfl : false = r := by
      rcases r with _ | _
      · rfl
      · exact absurd (HR.out.1 rfl) (fun h => by unfold FewZ at h; have h2 := of_decide_eq_false HDD.out; omega)
    clear HDD
    go_wp2_with (fail)
    rw [← h1, ← h2, ← h3]
    go_ret
    exact ⟨rfl, HB.out⟩
  rcases hd8 : decide ((z.d.reps.length : Int) ≤ 60) with _ | _
  · have HDD := Lib.hid hd8
    obtain rfl : false = r := by
      rcases r with _ | _
      · rfl
      · exact absurd (HR.out.1 rfl) (fun h => by unfold FewZ at h; have h2 := of_decide_eq_false HDD.out; omega)
    clear HDD
    go_wp2_with (fail)
    rw [← h1, ← h2, ← h3]
    go_ret
    exact ⟨rfl, HB.out⟩
  obtain rfl : true = r := by
    refine (HR.out.2 ?_).symm
    unfold FewZ
    have l0 := of_decide_eq_true hd0; have l1 := of_decide_eq_true hd1; have l2 := of_decide_eq_true hd2; have l3 := of_decide_eq_true hd3; have l4 := of_decide_eq_true hd4; have l5 := of_decide_eq_true hd5; have l6 := of_decide_eq_true hd6; have l7 := of_decide_eq_true hd7; have l8 := of_decide_eq_true hd8
    omega
  go_wp2_with (fail)
  rw [← h1, ← h2, ← h3]
  go_ret
  exact ⟨rfl, HB.out⟩
set_option maxHeartbeats 16000000 in
theorem c_SameNet (N : Int) (v u : Value) (l : List (Int × Int × Int)) (w : World) (hv : v5.PtSl w v l) (hu : v5.PtSl w u l) :
    Calls Tryz.prog 18 #[.agg #[.int .i64 N, v], .agg #[.int .i64 N, u]] w fun e w' => e = .returned (.bool true) ∧ Below w.heap.size w w' := by
  obtain ⟨A, c, rfl, q1, q2⟩ := hv.shape
  obtain ⟨A', c', rfl, q3, q4⟩ := hu.shape
  unfold maxLen at q2 q4
  obtain ⟨W1, h1⟩ : ∃ W, W = w.alloc (.cells #[.int .i64 N, .slice A l.length c] 44) := ⟨_, rfl⟩
  obtain ⟨W, h2⟩ : ∃ W, W = W1.alloc (.cells #[.int .i64 N, .slice A' l.length c'] 44) := ⟨_, rfl⟩
  obtain ⟨B0, b1, b2, -⟩ := two_boxes h1 h2
  have HB := Lib.hid B0
  have HF := Lib.hid (fun (X : World) (hX : Below W.heap.size W X) => (⟨cell_of (box_on b1 hX (Nat.le_refl _)) rfl, cell_of (box_on b1 hX (Nat.le_refl _)) rfl, cell_of (box_on b2 hX (Nat.le_refl _)) rfl, cell_of (box_on b2 hX (Nat.le_refl _)) rfl⟩ : X.cell? ⟨w.heap.size, 0, none⟩ = some (.int .i64 N) ∧ X.cell? ⟨w.heap.size, 1, none⟩ = some (.slice A l.length c) ∧ X.cell? ⟨w.heap.size + 1, 0, none⟩ = some (.int .i64 N) ∧ X.cell? ⟨w.heap.size + 1, 1, none⟩ = some (.slice A' l.length c')))
  have HV := Lib.hid (fun (X : World) (hX : Below W.heap.size W X) => (hv.on B0 (Nat.le_refl _)).on hX (Nat.le_refl _))
  have HU := Lib.hid (fun (X : World) (hX : Below W.heap.size W X) => (hu.on B0 (Nat.le_refl _)).on hX (Nat.le_refl _))
  have HKW := Lib.hid (Below.refl W.heap.size W)
  have hle := B0.size
  obtain ⟨x0, x1, y0, y1⟩ := HF.out W HKW.out
  rw [h2, h1] at x0 x1 y0 y1
  have g1 := v5.guardPt
  have g2 := v5.neqPt
  clear hv hu B0 b1 b2
  generalize hBB : w.heap.size = B at *
  go_enter Tryz.func18, Tryz.ntmps18
  go_wp2_with (fail)
  rw [← h1, ← h2]
  clear h1 h2 x0 x1 y0 y1
  go_loopw [5] (fun i wr => ∃ k : Nat, k ≤ l.length ∧ i = .int .i64 (k : Int) ∧ Hid (Below W.heap.size W wr)) (fun i _ => l.length - (intOf i).toNat)
  case atStart => exact ⟨0, Nat.zero_le _, rfl, HKW⟩
  case round =>
    obtain ⟨k, hk, rfl, hK⟩ := hrel
    have hki : ((k : Nat) : Int).toNat = k := by omega
    obtain ⟨x0, x1, y0, y1⟩ := HF.out wr hK.out
    by_cases hlt : k < l.length
    · obtain ⟨p, hp⟩ : ∃ p, l[k]? = some p := ⟨_, List.getElem?_eq_getElem hlt⟩
      obtain ⟨b, o, cc, e1, hb, -, -, z0, z1, z2⟩ := (HV.out wr hK.out).at_ hp
      obtain ⟨b', o', cc', e2, hb', -, -, t0, t1, t2⟩ := (HU.out wr hK.out).at_ hp
      injection e1 with e1 _ e1'
      injection e2 with e2 _ e2'
      subst e1 e2 e1' e2'
      have hki2 : (k : Int) < (l.length : Int) := by omega
      clear hp
      go_wp2_with (fail)
      go_quiet (fail)
      go_wp2_with (fail)
      go_roundw
      case rel => exact ⟨k + 1, by omega, by go_num, Lib.hid (below_drewN hK.out)⟩
      case measure => simp only [intOf]; omega
    · obtain rfl : k = l.length := by omega
      go_wp2_with (fail)
      go_ret
      exact ⟨rfl, below_join HB.out hK.out hle⟩
/-- What the net carries. -/
def carV (z : Sn) (r0 : Bool) : Int := if r0 = true then carryV z.s z.ss z.d else 0
theorem max_ok {z : Sn} (ok : z.Ok) {lf : List v5.Ar} {val : Int} (h : v5.Best (netN z.s) 0 1 (netL z.s z.ss z.d) lf val) : val = carryV z.s z.ss z.d := carry_best ok h
set_option maxHeartbeats 4000000 in
theorem MaxTo (z : Sn) (r0 : Bool) (hr0 : r0 = true ↔ z.Ok) (v : Value) (w : World) (hv : v5.PtSl w v (netLV z r0)) :
    Calls Tryz.prog 38 #[.agg #[.int .i64 (netNV z r0), v], .int .i64 0, .int .i64 1] w fun e w' => ∃ u n, e = .returned (.tuple #[.int .i64 (carV z r0), u, .int .i64 n]) ∧ Below w.heap.size w w' := by
  cases r0
  · refine (v5.c_MaxE 0 v [] 0 1 w hv 1 (by decide) (by decide)).mono ?_
    rintro e w' ⟨rfl, b⟩
    exact ⟨_, _, rfl, b⟩
  · have ok := hr0.1 rfl
    have hN : 2 ≤ netN z.s := by unfold netN; omega
    refine (v5.c_Max0 (netN z.s) 0 1 v (netL z.s z.ss z.d) (by omega) (by omega) (by decide) w hv (net_ok ok)).mono ?_
    rintro e w' ⟨lf, val, u, rfl, hb, -, b⟩
    have := max_ok ok hb
    subst this
    exact ⟨_, _, rfl, b⟩
theorem rMaxTo (z : Sn) (ok : z.Ok) (v : Value) (w : World) (hv : v5.PtSl w v (netLV z true)) :
    Calls Tryz.prog 39 #[.agg #[.int .i64 (netNV z true), v], .int .i64 0, .int .i64 1] w fun e w' => ∃ u n, e = .returned (.tuple #[.int .i64 (carV z true), u, .int .i64 n]) ∧ Below w.heap.size w w' := by
  have hN : 2 ≤ netN z.s := by unfold netN; omega
  refine (v5.d_Max0 (netN z.s) 0 1 v (netL z.s z.ss z.d) (by omega) (by omega) (by decide) w hv (net_ok ok)).mono ?_
  rintro e w' ⟨lf, val, u, rfl, hb, -, b⟩
  have := max_ok ok hb
  subst this
  exact ⟨_, _, rfl, b⟩
set_option maxHeartbeats 8000000 in
theorem c_pwCarried (z : Sn) (r0 : Bool) (hr0 : r0 = true ↔ z.Ok) (w : World) (hz : SnAt w z) (v : Int) (hv : carV z r0 = v) :
    Calls Tryz.prog 21 #[.agg #[.slice z.p.a1 z.s.feeds.length z.p.c1, .slice z.p.a2 z.s.brks.length z.p.c2, .slice z.p.a3 z.s.loops.length z.p.c3, .slice z.p.a4 z.s.racks.length z.p.c4, .int .i64 z.s.sw, .slice z.p.a5 z.s.links.length z.p.c5, .slice z.p.a6 z.s.hosts.length z.p.c6], .agg #[.slice z.A z.xs.length z.c], .agg #[.slice z.q.a1 z.d.hosts.length z.q.c1, .slice z.q.a2 z.d.reps.length z.q.c2]] w fun e w' => e = .returned (.int .i64 v) ∧ Below w.heap.size w w' := by
  obtain ⟨W1, h1⟩ : ∃ W, W = w.alloc (.cells #[.slice z.p.a1 z.s.feeds.length z.p.c1, .slice z.p.a2 z.s.brks.length z.p.c2, .slice z.p.a3 z.s.loops.length z.p.c3, .slice z.p.a4 z.s.racks.length z.p.c4, .int .i64 z.s.sw, .slice z.p.a5 z.s.links.length z.p.c5, .slice z.p.a6 z.s.hosts.length z.p.c6] 29) := ⟨_, rfl⟩
  obtain ⟨W2, h2⟩ : ∃ W, W = W1.alloc (.cells #[.slice z.A z.xs.length z.c] 32) := ⟨_, rfl⟩
  obtain ⟨W, h3⟩ : ∃ W, W = W2.alloc (.cells #[.slice z.q.a1 z.d.hosts.length z.q.c1, .slice z.q.a2 z.d.reps.length z.q.c2] 36) := ⟨_, rfl⟩
  obtain ⟨B0, X1⟩ := sn_boxes h1 h2 h3
  have z3 : W.heap.size = w.heap.size + 1 + 1 + 1 := sn_size h1 h2 h3
  have HB := Lib.hid B0
  have Z0 := hz.on B0 (Nat.le_refl _)
  have HZ := Lib.hid (fun (X : World) (hX : Below W.heap.size W X) => Z0.on hX (Nat.le_refl _))
  have HF := Lib.hid (fun (X : World) (hX : Below W.heap.size W X) => ((X1.on hX (Nat.le_refl _)).cells : X.cell? ⟨w.heap.size, 0, none⟩ = some (.slice z.p.a1 z.s.feeds.length z.p.c1) ∧ X.cell? ⟨w.heap.size, 1, none⟩ = some (.slice z.p.a2 z.s.brks.length z.p.c2) ∧ X.cell? ⟨w.heap.size, 2, none⟩ = some (.slice z.p.a3 z.s.loops.length z.p.c3) ∧ X.cell? ⟨w.heap.size, 3, none⟩ = some (.slice z.p.a4 z.s.racks.length z.p.c4) ∧ X.cell? ⟨w.heap.size, 4, none⟩ = some (.int .i64 z.s.sw) ∧ X.cell? ⟨w.heap.size, 5, none⟩ = some (.slice z.p.a5 z.s.links.length z.p.c5) ∧ X.cell? ⟨w.heap.size, 6, none⟩ = some (.slice z.p.a6 z.s.hosts.length z.p.c6) ∧ X.cell? ⟨w.heap.size + 1, 0, none⟩ = some (.slice z.A z.xs.length z.c) ∧ X.cell? ⟨w.heap.size + 1 + 1, 0, none⟩ = some (.slice z.q.a1 z.d.hosts.length z.q.c1) ∧ X.cell? ⟨w.heap.size + 1 + 1, 1, none⟩ = some (.slice z.q.a2 z.d.reps.length z.q.c2)))
  have HX := Lib.hid (fun (X : World) (hX : Below W.heap.size W X) => X1.on hX (Nat.le_refl _))
  have HKW := Lib.hid (Below.refl W.heap.size W)
  have hle := HB.out.size
  obtain ⟨n1, n2, n3, n4, n5, n6, n7, n8⟩ := hz.bounds
  have HN := Lib.hid (c_pwNet z r0 hr0 W (hz.on B0 (Nat.le_refl _)))
  have HM := Lib.hid (fun (u : Value) (X : World) (hu : v5.PtSl X u (netLV z r0)) => MaxTo z r0 hr0 u X hu)
  rw [hv] at HM
  obtain ⟨nn, hnn⟩ : ∃ n, netNV z r0 = n := ⟨_, rfl⟩
  have HNN := Lib.hid hnn
  rw [hnn] at HM
  clear hr0 hv hnn
  clear hz B0 X1 z3 Z0
  obtain ⟨f0, f1, f2, f3, f4, f5, f6, g0, g1, g2⟩ := HF.out W HKW.out
  rw [h3, h2, h1] at f0 f1 f2 f3 f4 f5 f6 g0 g1 g2
  generalize hBB : w.heap.size = B at *
  go_enter Tryz.func21, Tryz.ntmps21
  go_wp2_with (fail)
  rw [← h1, ← h2, ← h3]
  clear h1 h2 h3 f0 f1 f2 f3 f4 f5 f6 g0 g1 g2
  go_at_call 19
  refine HN.out.mono ?_
  rintro e v1 ⟨u, rfl, pt, bb⟩
  have HKv1 := Lib.hid (below_join HKW.out bb HKW.out.size)
  have HM1 := Lib.hid (HM.out u v1 pt)
  rw [HNN.out]
  clear bb pt
  go_wp2_with (fail)
  go_at_call 38
  refine HM1.out.mono ?_
  rintro e v2 ⟨u2, n2, rfl, bb⟩
  have HKv2 := Lib.hid (below_join HKv1.out bb HKv1.out.size)
  clear bb
  go_wp2_with (fail)
  go_ret
  exact ⟨rfl, below_join HB.out HKv2.out hle⟩
set_option maxHeartbeats 8000000 in
theorem d_Carried (z : Sn) (r0 : Bool) (hr0 : r0 = true ↔ z.Ok) (w : World) (hz : SnAt w z) (v : Int) (hv : carV z r0 = v) :
    Calls Tryz.prog 22 #[.agg #[.slice z.p.a1 z.s.feeds.length z.p.c1, .slice z.p.a2 z.s.brks.length z.p.c2, .slice z.p.a3 z.s.loops.length z.p.c3, .slice z.p.a4 z.s.racks.length z.p.c4, .int .i64 z.s.sw, .slice z.p.a5 z.s.links.length z.p.c5, .slice z.p.a6 z.s.hosts.length z.p.c6], .agg #[.slice z.A z.xs.length z.c], .agg #[.slice z.q.a1 z.d.hosts.length z.q.c1, .slice z.q.a2 z.d.reps.length z.q.c2]] w fun e w' => e = .returned (.int .i64 v) ∧ Below w.heap.size w w' := by
  obtain ⟨W1, h1⟩ : ∃ W, W = w.alloc (.cells #[.slice z.p.a1 z.s.feeds.length z.p.c1, .slice z.p.a2 z.s.brks.length z.p.c2, .slice z.p.a3 z.s.loops.length z.p.c3, .slice z.p.a4 z.s.racks.length z.p.c4, .int .i64 z.s.sw, .slice z.p.a5 z.s.links.length z.p.c5, .slice z.p.a6 z.s.hosts.length z.p.c6] 29) := ⟨_, rfl⟩
  obtain ⟨W2, h2⟩ : ∃ W, W = W1.alloc (.cells #[.slice z.A z.xs.length z.c] 32) := ⟨_, rfl⟩
  obtain ⟨W, h3⟩ : ∃ W, W = W2.alloc (.cells #[.slice z.q.a1 z.d.hosts.length z.q.c1, .slice z.q.a2 z.d.reps.length z.q.c2] 36) := ⟨_, rfl⟩
  obtain ⟨B0, X1⟩ := sn_boxes h1 h2 h3
  have z3 : W.heap.size = w.heap.size + 1 + 1 + 1 := sn_size h1 h2 h3
  have HB := Lib.hid B0
  have Z0 := hz.on B0 (Nat.le_refl _)
  have HZ := Lib.hid (fun (X : World) (hX : Below W.heap.size W X) => Z0.on hX (Nat.le_refl _))
  have HF := Lib.hid (fun (X : World) (hX : Below W.heap.size W X) => ((X1.on hX (Nat.le_refl _)).cells : X.cell? ⟨w.heap.size, 0, none⟩ = some (.slice z.p.a1 z.s.feeds.length z.p.c1) ∧ X.cell? ⟨w.heap.size, 1, none⟩ = some (.slice z.p.a2 z.s.brks.length z.p.c2) ∧ X.cell? ⟨w.heap.size, 2, none⟩ = some (.slice z.p.a3 z.s.loops.length z.p.c3) ∧ X.cell? ⟨w.heap.size, 3, none⟩ = some (.slice z.p.a4 z.s.racks.length z.p.c4) ∧ X.cell? ⟨w.heap.size, 4, none⟩ = some (.int .i64 z.s.sw) ∧ X.cell? ⟨w.heap.size, 5, none⟩ = some (.slice z.p.a5 z.s.links.length z.p.c5) ∧ X.cell? ⟨w.heap.size, 6, none⟩ = some (.slice z.p.a6 z.s.hosts.length z.p.c6) ∧ X.cell? ⟨w.heap.size + 1, 0, none⟩ = some (.slice z.A z.xs.length z.c) ∧ X.cell? ⟨w.heap.size + 1 + 1, 0, none⟩ = some (.slice z.q.a1 z.d.hosts.length z.q.c1) ∧ X.cell? ⟨w.heap.size + 1 + 1, 1, none⟩ = some (.slice z.q.a2 z.d.reps.length z.q.c2)))
  have HX := Lib.hid (fun (X : World) (hX : Below W.heap.size W X) => X1.on hX (Nat.le_refl _))
  have HKW := Lib.hid (Below.refl W.heap.size W)
  have hle := HB.out.size
  obtain ⟨n1, n2, n3, n4, n5, n6, n7, n8⟩ := hz.bounds
  have HVV := Lib.hid (fun (X : World) (hX : SnAt X z) => c_wvTo z r0 hr0 X hX)
  have HN := Lib.hid (fun (X : World) (hX : SnAt X z) => d_Net z r0 hr0 X hX)
  have HV := Lib.hid hv
  have HR0 := Lib.hid hr0
  clear hr0 hv
  clear hz B0 X1 z3 Z0
  obtain ⟨f0, f1, f2, f3, f4, f5, f6, g0, g1, g2⟩ := HF.out W HKW.out
  rw [h3, h2, h1] at f0 f1 f2 f3 f4 f5 f6 g0 g1 g2
  generalize hBB : w.heap.size = B at *
  go_enter Tryz.func22, Tryz.ntmps22
  go_wp2_with (fail)
  rw [← h1, ← h2, ← h3]
  clear h1 h2 h3 f0 f1 f2 f3 f4 f5 f6 g0 g1 g2
  go_at_call 25
  refine (HVV.out W (HZ.out W HKW.out)).mono ?_
  rintro e v0 ⟨rfl, bb⟩
  have HKv0 := Lib.hid (below_join HKW.out bb HKW.out.size)
  clear bb
  cases r0
  · have HVE := Lib.hid (show (0 : Int) = v from HV.out)
    go_wp2_with (fail)
    go_ret
    exact ⟨(show Ending.returned (.int .i64 0) = .returned (.int .i64 v) by rw [HVE.out]), below_join HB.out HKv0.out hle⟩
  have HM := Lib.hid (fun (u : Value) (X : World) (hu : v5.PtSl X u (netLV z true)) => rMaxTo z (HR0.out.1 rfl) u X hu)
  rw [HV.out] at HM
  obtain ⟨nn, hnn⟩ : ∃ n, netNV z true = n := ⟨_, rfl⟩
  have HNN := Lib.hid hnn
  rw [hnn] at HM
  clear hnn
  obtain ⟨f0, f1, f2, f3, f4, f5, f6, g0, g1, g2⟩ := HF.out v0 HKv0.out
  go_wp2_with (fail)
  go_at_call 20
  refine (HN.out v0 (HZ.out v0 HKv0.out)).mono ?_
  rintro e v1 ⟨u, rfl, pt, bb⟩
  have HKv1 := Lib.hid (below_join HKv0.out bb HKv0.out.size)
  have HM1 := Lib.hid (HM.out u v1 pt)
  rw [HNN.out]
  clear bb pt f0 f1 f2 f3 f4 f5 f6 g0 g1 g2
  go_wp2_with (fail)
  go_at_call 39
  refine HM1.out.mono ?_
  rintro e v2 ⟨u2, n2, rfl, bb⟩
  have HKv2 := Lib.hid (below_join HKv1.out bb HKv1.out.size)
  clear bb
  go_wp2_with (fail)
  go_ret
  exact ⟨rfl, below_join HB.out HKv2.out hle⟩
end Go.Proofs.YtidpiokkfnhobaaGreat

namespace Go.Proofs.YtidpiokkfnhobaaGreat
open Go.RowKit
set_option maxRecDepth 100000
set_option linter.unusedVariables false
set_option linter.unusedSimpArgs false

/-- The law's example. -/
def exD : SiteD := ⟨[300], [⟨0, 200, 0, 0⟩, ⟨0, 200, 0, 0⟩], [⟨0, 0⟩], [⟨0, 0, 0, 0⟩, ⟨0, 1, 0, 0⟩], 1, [], [⟨0, 4, 100, 50⟩, ⟨1, 4, 100, 50⟩]⟩
def exP (b : Nat) : SP := ⟨some ⟨b + 1 + 1 + 1, 0, none⟩, 1, some ⟨b + 1 + 1 + 1 + 1, 0, none⟩, 2, some ⟨b + 1 + 1 + 1 + 1 + 1, 0, none⟩, 1, some ⟨b + 1 + 1 + 1 + 1 + 1 + 1, 0, none⟩, 2, none, 0, some ⟨b + 1 + 1 + 1 + 1 + 1 + 1 + 1, 0, none⟩, 2⟩
def wxs : List (Svc × SvA) := [(⟨2, 2, 0, 0, 0, [], [], 0⟩, ⟨none, 0, none, 0⟩)]
def exW : WorldD := ⟨[⟨0, 0⟩, ⟨0, 0⟩], [⟨0, 0⟩, ⟨0, 1⟩]⟩
theorem rw_block14 {α : Type} {k : Nat} {F : α → Nat → Int} {l : List α} {w : World} {b : Nat} {T : TypeId} (h : w.heap[b]? = some (.cells (cellsV k (fun x i => .int .i64 (F x i)) l).toArray T (0, 0))) (hl : l.length ≤ maxLen) : Rw k F w (some ⟨b, 0, none⟩) l.length l := rv_int (rv_block h hl)
theorem ret7 {fn : Func} {a : Act} {W : World} {R : Ending → World → Prop} {b i : Nat} {x0 x1 x2 x3 x4 x5 x6 : Value} (hfn : fn.results = #[.cell i 29]) (hp : a.tmps[i]?.getD undef = .pointer (some ⟨b, 0, none⟩)) (hd : a.defers = [])
    (h : W.heap[b]? = some (.cells #[x0, x1, x2, x3, x4, x5, x6] 29 (0, 0))) (hR : R (.returned (.agg #[x0, x1, x2, x3, x4, x5, x6])) W) : bodyPost Tryz.prog fn R .ret a W := by
  have c0 : W.cell? ⟨b, 0, none⟩ = some x0 := cell_of h rfl; have c1 : W.cell? ⟨b, 1, none⟩ = some x1 := cell_of h rfl; have c2 : W.cell? ⟨b, 2, none⟩ = some x2 := cell_of h rfl; have c3 : W.cell? ⟨b, 3, none⟩ = some x3 := cell_of h rfl; have c4 : W.cell? ⟨b, 4, none⟩ = some x4 := cell_of h rfl; have c5 : W.cell? ⟨b, 5, none⟩ = some x5 := cell_of h rfl; have c6 : W.cell? ⟨b, 6, none⟩ = some x6 := cell_of h rfl
  exact bodyPost_ret (v := .agg #[x0, x1, x2, x3, x4, x5, x6]) (by simp [results, hfn, hp, go_sem, c0, c1, c2, c3, c4, c5, c6]) hd hR
theorem ret1w {fn : Func} {a : Act} {W : World} {R : Ending → World → Prop} {b i : Nat} {x0 : Value} (hfn : fn.results = #[.cell i 32]) (hp : a.tmps[i]?.getD undef = .pointer (some ⟨b, 0, none⟩)) (hd : a.defers = [])
    (h : W.heap[b]? = some (.cells #[x0] 32 (0, 0))) (hR : R (.returned (.agg #[x0])) W) : bodyPost Tryz.prog fn R .ret a W := by
  have c0 : W.cell? ⟨b, 0, none⟩ = some x0 := cell_of h rfl
  exact bodyPost_ret (v := .agg #[x0]) (by simp [results, hfn, hp, go_sem, c0]) hd hR
theorem ret2w {fn : Func} {a : Act} {W : World} {R : Ending → World → Prop} {b i : Nat} {x0 x1 : Value} (hfn : fn.results = #[.cell i 36]) (hp : a.tmps[i]?.getD undef = .pointer (some ⟨b, 0, none⟩)) (hd : a.defers = [])
    (h : W.heap[b]? = some (.cells #[x0, x1] 36 (0, 0))) (hR : R (.returned (.agg #[x0, x1])) W) : bodyPost Tryz.prog fn R .ret a W := by
  have c0 : W.cell? ⟨b, 0, none⟩ = some x0 := cell_of h rfl
  have c1 : W.cell? ⟨b, 1, none⟩ = some x1 := cell_of h rfl
  exact bodyPost_ret (v := .agg #[x0, x1]) (by simp [results, hfn, hp, go_sem, c0, c1]) hd hR
set_option maxHeartbeats 16000000 in
theorem c_site (w : World) : Calls Tryz.prog 26 #[] w fun e w' => e = .returned (siV (exP w.heap.size) exD) ∧ SiAt w' (exP w.heap.size) exD ∧ Below w.heap.size w w' := by
  obtain ⟨E0, h0⟩ : ∃ X, X = w.alloc (.cells #[.slice (some ⟨w.heap.size + 1 + 1 + 1, 0, none⟩) 1 1, .slice (some ⟨w.heap.size + 1 + 1 + 1 + 1, 0, none⟩) 2 2, .slice (some ⟨w.heap.size + 1 + 1 + 1 + 1 + 1, 0, none⟩) 1 1, .slice (some ⟨w.heap.size + 1 + 1 + 1 + 1 + 1 + 1, 0, none⟩) 2 2, .int .i64 1, .slice none 0 0, .slice (some ⟨w.heap.size + 1 + 1 + 1 + 1 + 1 + 1 + 1, 0, none⟩) 2 2] 29) := ⟨_, rfl⟩
  obtain ⟨E1, h1⟩ : ∃ X, X = E0.alloc (.cells #[.int .i64 0, .int .i64 4, .int .i64 100, .int .i64 50] 61) := ⟨_, rfl⟩
  obtain ⟨E2, h2⟩ : ∃ X, X = E1.alloc (.cells #[.int .i64 1, .int .i64 4, .int .i64 100, .int .i64 50] 61) := ⟨_, rfl⟩
  obtain ⟨E3, h3⟩ : ∃ X, X = E2.alloc (.cells #[.int .i64 300] 50) := ⟨_, rfl⟩
  obtain ⟨E4, h4⟩ : ∃ X, X = E3.alloc (.cells #[.int .i64 0, .int .i64 200, .int .i64 0, .int .i64 0, .int .i64 0, .int .i64 200, .int .i64 0, .int .i64 0] 48) := ⟨_, rfl⟩
  obtain ⟨E5, h5⟩ : ∃ X, X = E4.alloc (.cells #[.int .i64 0, .int .i64 0] 81) := ⟨_, rfl⟩
  obtain ⟨E6, h6⟩ : ∃ X, X = E5.alloc (.cells #[.int .i64 0, .int .i64 0, .int .i64 0, .int .i64 0, .int .i64 0, .int .i64 1, .int .i64 0, .int .i64 0] 65) := ⟨_, rfl⟩
  obtain ⟨E7, h7⟩ : ∃ X, X = E6.alloc (.cells #[.int .i64 0, .int .i64 4, .int .i64 100, .int .i64 50, .int .i64 1, .int .i64 4, .int .i64 100, .int .i64 50] 61) := ⟨_, rfl⟩
  have z0 : E0.heap.size = w.heap.size + 1 := by rw [h0, World.size_alloc]
  have z1 : E1.heap.size = w.heap.size + 1 + 1 := by rw [h1, World.size_alloc, z0]
  have z2 : E2.heap.size = w.heap.size + 1 + 1 + 1 := by rw [h2, World.size_alloc, z1]
  have z3 : E3.heap.size = w.heap.size + 1 + 1 + 1 + 1 := by rw [h3, World.size_alloc, z2]
  have z4 : E4.heap.size = w.heap.size + 1 + 1 + 1 + 1 + 1 := by rw [h4, World.size_alloc, z3]
  have z5 : E5.heap.size = w.heap.size + 1 + 1 + 1 + 1 + 1 + 1 := by rw [h5, World.size_alloc, z4]
  have z6 : E6.heap.size = w.heap.size + 1 + 1 + 1 + 1 + 1 + 1 + 1 := by rw [h6, World.size_alloc, z5]
  have z7 : E7.heap.size = w.heap.size + 1 + 1 + 1 + 1 + 1 + 1 + 1 + 1 := by rw [h7, World.size_alloc, z6]
  have g0 : E0.heap[w.heap.size]? = some (.cells #[.slice (some ⟨w.heap.size + 1 + 1 + 1, 0, none⟩) 1 1, .slice (some ⟨w.heap.size + 1 + 1 + 1 + 1, 0, none⟩) 2 2, .slice (some ⟨w.heap.size + 1 + 1 + 1 + 1 + 1, 0, none⟩) 1 1, .slice (some ⟨w.heap.size + 1 + 1 + 1 + 1 + 1 + 1, 0, none⟩) 2 2, .int .i64 1, .slice none 0 0, .slice (some ⟨w.heap.size + 1 + 1 + 1 + 1 + 1 + 1 + 1, 0, none⟩) 2 2] 29 (0, 0)) := by rw [h0]; exact heap_alloc_new _ _
  have G0 : E7.heap[w.heap.size]? = some (.cells #[.slice (some ⟨w.heap.size + 1 + 1 + 1, 0, none⟩) 1 1, .slice (some ⟨w.heap.size + 1 + 1 + 1 + 1, 0, none⟩) 2 2, .slice (some ⟨w.heap.size + 1 + 1 + 1 + 1 + 1, 0, none⟩) 1 1, .slice (some ⟨w.heap.size + 1 + 1 + 1 + 1 + 1 + 1, 0, none⟩) 2 2, .int .i64 1, .slice none 0 0, .slice (some ⟨w.heap.size + 1 + 1 + 1 + 1 + 1 + 1 + 1, 0, none⟩) 2 2] 29 (0, 0)) := by rw [h7]; refine old_heap _ ?_; rw [h6]; refine old_heap _ ?_; rw [h5]; refine old_heap _ ?_; rw [h4]; refine old_heap _ ?_; rw [h3]; refine old_heap _ ?_; rw [h2]; refine old_heap _ ?_; rw [h1]; refine old_heap _ ?_; exact g0
  have g1 : E1.heap[w.heap.size + 1]? = some (.cells #[.int .i64 0, .int .i64 4, .int .i64 100, .int .i64 50] 61 (0, 0)) := by rw [← z0]; rw [h1]; exact heap_alloc_new _ _
  have G1 : E7.heap[w.heap.size + 1]? = some (.cells #[.int .i64 0, .int .i64 4, .int .i64 100, .int .i64 50] 61 (0, 0)) := by rw [h7]; refine old_heap _ ?_; rw [h6]; refine old_heap _ ?_; rw [h5]; refine old_heap _ ?_; rw [h4]; refine old_heap _ ?_; rw [h3]; refine old_heap _ ?_; rw [h2]; refine old_heap _ ?_; exact g1
  have g2 : E2.heap[w.heap.size + 1 + 1]? = some (.cells #[.int .i64 1, .int .i64 4, .int .i64 100, .int .i64 50] 61 (0, 0)) := by rw [← z1]; rw [h2]; exact heap_alloc_new _ _
  have G2 : E7.heap[w.heap.size + 1 + 1]? = some (.cells #[.int .i64 1, .int .i64 4, .int .i64 100, .int .i64 50] 61 (0, 0)) := by rw [h7]; refine old_heap _ ?_; rw [h6]; refine old_heap _ ?_; rw [h5]; refine old_heap _ ?_; rw [h4]; refine old_heap _ ?_; rw [h3]; refine old_heap _ ?_; exact g2
  have g3 : E3.heap[w.heap.size + 1 + 1 + 1]? = some (.cells #[.int .i64 300] 50 (0, 0)) := by rw [← z2]; rw [h3]; exact heap_alloc_new _ _
  have G3 : E7.heap[w.heap.size + 1 + 1 + 1]? = some (.cells #[.int .i64 300] 50 (0, 0)) := by rw [h7]; refine old_heap _ ?_; rw [h6]; refine old_heap _ ?_; rw [h5]; refine old_heap _ ?_; rw [h4]; refine old_heap _ ?_; exact g3
  have g4 : E4.heap[w.heap.size + 1 + 1 + 1 + 1]? = some (.cells #[.int .i64 0, .int .i64 200, .int .i64 0, .int .i64 0, .int .i64 0, .int .i64 200, .int .i64 0, .int .i64 0] 48 (0, 0)) := by rw [← z3]; rw [h4]; exact heap_alloc_new _ _
  have G4 : E7.heap[w.heap.size + 1 + 1 + 1 + 1]? = some (.cells #[.int .i64 0, .int .i64 200, .int .i64 0, .int .i64 0, .int .i64 0, .int .i64 200, .int .i64 0, .int .i64 0] 48 (0, 0)) := by rw [h7]; refine old_heap _ ?_; rw [h6]; refine old_heap _ ?_; rw [h5]; refine old_heap _ ?_; exact g4
  have g5 : E5.heap[w.heap.size + 1 + 1 + 1 + 1 + 1]? = some (.cells #[.int .i64 0, .int .i64 0] 81 (0, 0)) := by rw [← z4]; rw [h5]; exact heap_alloc_new _ _
  have G5 : E7.heap[w.heap.size + 1 + 1 + 1 + 1 + 1]? = some (.cells #[.int .i64 0, .int .i64 0] 81 (0, 0)) := by rw [h7]; refine old_heap _ ?_; rw [h6]; refine old_heap _ ?_; exact g5
  have g6 : E6.heap[w.heap.size + 1 + 1 + 1 + 1 + 1 + 1]? = some (.cells #[.int .i64 0, .int .i64 0, .int .i64 0, .int .i64 0, .int .i64 0, .int .i64 1, .int .i64 0, .int .i64 0] 65 (0, 0)) := by rw [← z5]; rw [h6]; exact heap_alloc_new _ _
  have G6 : E7.heap[w.heap.size + 1 + 1 + 1 + 1 + 1 + 1]? = some (.cells #[.int .i64 0, .int .i64 0, .int .i64 0, .int .i64 0, .int .i64 0, .int .i64 1, .int .i64 0, .int .i64 0] 65 (0, 0)) := by rw [h7]; refine old_heap _ ?_; exact g6
  have g7 : E7.heap[w.heap.size + 1 + 1 + 1 + 1 + 1 + 1 + 1]? = some (.cells #[.int .i64 0, .int .i64 4, .int .i64 100, .int .i64 50, .int .i64 1, .int .i64 4, .int .i64 100, .int .i64 50] 61 (0, 0)) := by rw [← z6]; rw [h7]; exact heap_alloc_new _ _
  have G7 : E7.heap[w.heap.size + 1 + 1 + 1 + 1 + 1 + 1 + 1]? = some (.cells #[.int .i64 0, .int .i64 4, .int .i64 100, .int .i64 50, .int .i64 1, .int .i64 4, .int .i64 100, .int .i64 50] 61 (0, 0)) := by exact g7
  have BN : Below w.heap.size w E7 := by rw [h7]; refine Below.alloc ?_ (by omega) _; rw [h6]; refine Below.alloc ?_ (by omega) _; rw [h5]; refine Below.alloc ?_ (by omega) _; rw [h4]; refine Below.alloc ?_ (by omega) _; rw [h3]; refine Below.alloc ?_ (by omega) _; rw [h2]; refine Below.alloc ?_ (by omega) _; rw [h1]; refine Below.alloc ?_ (by omega) _; rw [h0]; exact (Below.refl _ _).alloc (Nat.le_refl _) _
  have HG := Lib.hid (And.intro G0 (And.intro G1 (And.intro G2 (And.intro G3 (And.intro G4 (And.intro G5 (And.intro G6 (G7))))))))
  have HB := Lib.hid BN
  have HE := Lib.hid h7
  clear BN g0 G0 z0 g1 G1 z1 g2 G2 z2 g3 G3 z3 g4 G4 z4 g5 G5 z5 g6 G6 z6 g7 G7 z7 h7
  subst h6 h5 h4 h3 h2 h1 h0
  go_enter Tryz.func26, Tryz.ntmps26
  go_wp2_with (fail)
  rw [← HE.out]
  obtain ⟨G0, G1, G2, G3, G4, G5, G6, G7⟩ := HG.out
  exact ret7 (i := 0) (b := w.heap.size) rfl rfl rfl G0 ⟨rfl, ⟨rw_block14 (α := Int) (k := 1) (F := inF) (l := [300]) G3 (by simp [maxLen]), rw_block14 (α := Brk) (k := 4) (F := brkF) (l := [⟨0, 200, 0, 0⟩, ⟨0, 200, 0, 0⟩]) G4 (by simp [maxLen]), rw_block14 (α := Lp) (k := 2) (F := lpF) (l := [⟨0, 0⟩]) G5 (by simp [maxLen]), rw_block14 (α := Rk) (k := 4) (F := rkF) (l := [⟨0, 0, 0, 0⟩, ⟨0, 1, 0, 0⟩]) G6 (by simp [maxLen]), Rw.nil _ _, rw_block14 (α := Hs) (k := 4) (F := hsF) (l := [⟨0, 4, 100, 50⟩, ⟨1, 4, 100, 50⟩]) G7 (by simp [maxLen])⟩, HB.out⟩
theorem wxs_at {X : World} {b : Nat} (h : X.heap[b]? = some (.cells (cellsV 8 svV wxs).toArray 85 (0, 0))) : WiAt X (some ⟨b, 0, none⟩) 1 wxs := by
  refine ⟨rv_block (l := wxs) h (by simp [wxs, maxLen]), fun x hx => ?_⟩
  rcases List.mem_cons.1 hx with rfl | hx
  · exact ⟨Rv.nil _, Rv.nil _, by decide⟩
  · cases hx
set_option maxHeartbeats 8000000 in
theorem c_wish (w : World) : Calls Tryz.prog 27 #[] w fun e w' => e = .returned (.agg #[.slice (some ⟨w.heap.size + 1, 0, none⟩) 1 1]) ∧ WiAt w' (some ⟨w.heap.size + 1, 0, none⟩) 1 wxs ∧ Below w.heap.size w w' := by
  obtain ⟨E0, h0⟩ : ∃ X, X = w.alloc (.cells #[.slice (some ⟨w.heap.size + 1, 0, none⟩) 1 1] 32) := ⟨_, rfl⟩
  obtain ⟨E1, h1⟩ : ∃ X, X = E0.alloc (.cells #[.int .i64 2, .int .i64 2, .int .i64 0, .int .u8 0, .int .i64 0, .slice none 0 0, .slice none 0 0, .int .i64 0] 85) := ⟨_, rfl⟩
  have z0 : E0.heap.size = w.heap.size + 1 := by rw [h0, World.size_alloc]
  have z1 : E1.heap.size = w.heap.size + 1 + 1 := by rw [h1, World.size_alloc, z0]
  have g0 : E0.heap[w.heap.size]? = some (.cells #[.slice (some ⟨w.heap.size + 1, 0, none⟩) 1 1] 32 (0, 0)) := by rw [h0]; exact heap_alloc_new _ _
  have G0 : E1.heap[w.heap.size]? = some (.cells #[.slice (some ⟨w.heap.size + 1, 0, none⟩) 1 1] 32 (0, 0)) := by rw [h1]; refine old_heap _ ?_; exact g0
  have g1 : E1.heap[w.heap.size + 1]? = some (.cells #[.int .i64 2, .int .i64 2, .int .i64 0, .int .u8 0, .int .i64 0, .slice none 0 0, .slice none 0 0, .int .i64 0] 85 (0, 0)) := by rw [← z0]; rw [h1]; exact heap_alloc_new _ _
  have G1 : E1.heap[w.heap.size + 1]? = some (.cells #[.int .i64 2, .int .i64 2, .int .i64 0, .int .u8 0, .int .i64 0, .slice none 0 0, .slice none 0 0, .int .i64 0] 85 (0, 0)) := by exact g1
  have BN : Below w.heap.size w E1 := by rw [h1]; refine Below.alloc ?_ (by omega) _; rw [h0]; exact (Below.refl _ _).alloc (Nat.le_refl _) _
  have HG := Lib.hid (And.intro G0 (G1))
  have HB := Lib.hid BN
  have HE := Lib.hid h1
  clear BN g0 G0 z0 g1 G1 z1 h1
  subst h0
  go_enter Tryz.func27, Tryz.ntmps27
  go_wp2_with (fail)
  rw [← HE.out]
  obtain ⟨G0, G1⟩ := HG.out
  exact ret1w (i := 0) (b := w.heap.size) rfl rfl rfl G0 ⟨rfl, wxs_at G1, HB.out⟩
theorem made2 : (madeCells (.agg #[.int .u8 0, .int .i64 0] : Value).cells (2 * 2)).toList = cellsV 2 hstV exW.hosts := by kernel_rfl
theorem own_cur2 {w : World} {base n g : Nat} {T : TypeId} {xs : List Value} (h : w.ownsRow base T 2 (.slice (some ⟨g, 0, none⟩) n n) n xs) : w.heap[g]? = some (.cells xs.toArray T (0, 0)) := by
  obtain ⟨k1, ⟨e, -⟩ | ⟨g', cap', cur, e, k3, k4, k5, k6, k7, k8⟩⟩ := h
  · cases e
  · injection e with e1 _ e2
    injection e1 with e1
    injection e1 with e1
    subst e1 e2
    rw [k4]
    have : cur = xs.toArray := by
      apply Array.ext'
      rw [← k8, List.take_of_length_le (by simp; omega)]
    rw [this]
set_option maxHeartbeats 8000000 in
theorem c_example (w : World) : Calls Tryz.prog 28 #[] w fun e w' => ∃ p, e = .returned (.agg (woA p exW)) ∧ OwnW w.heap.size w' p exW ∧ Below w.heap.size w w' := by
  obtain ⟨i0, hi0, hz0, hz1, hz2⟩ := info_parts hst_info
  obtain ⟨E0, h0⟩ : ∃ X, X = w.alloc (.cells #[.slice none 0 0, .slice none 0 0] 36) := ⟨_, rfl⟩
  have B0 : Below w.heap.size w E0 := by rw [h0]; exact (Below.refl _ _).alloc (Nat.le_refl _) _
  have b0 : E0.heap[w.heap.size]? = some (.cells #[.slice none 0 0, .slice none 0 0] 36 (0, 0)) := by rw [h0]; exact box_new _ _ _
  have HS := Lib.hid (show E0.heap.size = w.heap.size + 1 by rw [h0, World.size_alloc])
  have HB := Lib.hid B0
  have HB0 := Lib.hid b0
  clear B0 b0
  go_enter Tryz.func28, Tryz.ntmps28
  go_wp2_with (at_make; rw [← h0]; refine wpList_make_full (P := Tryz.prog) _ rfl _ _ 33 rfl E0.heap.size 59 i0 (.agg #[.int .u8 0, .int .i64 0]) 2 Tryz.underlying33 hi0 hz0 hz1 .i64 .i64 _ _ 2 rfl rfl rfl rfl (by rw [hz2]; decide) (by decide) (Nat.le_refl _) ?_; intro w1 ho1 hg1; have HR1 := Lib.hid (own_cur2 ho1); have HK1 := Lib.hid ((Below.refl E0.heap.size E0).grown hg1 (Nat.le_refl _) (fun k hk => by cases hk)); have HKY := Lib.hid (show Below E0.heap.size E0 (w1.alloc (.cells #[.int .i64 0, .int .i64 0, .int .i64 0, .int .i64 1] 79)) from HK1.out.alloc HK1.out.size _); have v0 : (w1.alloc (.cells #[.int .i64 0, .int .i64 0, .int .i64 0, .int .i64 1] 79)).cell? ⟨w.heap.size, 0, none⟩ = some (.slice none 0 0) := cell_of (box_on HB0.out HKY.out (Nat.le_refl _)) rfl; have v1 : (w1.alloc (.cells #[.int .i64 0, .int .i64 0, .int .i64 0, .int .i64 1] 79)).cell? ⟨w.heap.size, 1, none⟩ = some (.slice none 0 0) := cell_of (box_on HB0.out HKY.out (Nat.le_refl _)) rfl; have u0 : (w1.alloc (.cells #[.int .i64 0, .int .i64 0, .int .i64 0, .int .i64 1] 79)).frozen? ⟨w.heap.size, 0, none⟩ = false := frz (box_on HB0.out HKY.out (Nat.le_refl _)) 0; have u1 : (w1.alloc (.cells #[.int .i64 0, .int .i64 0, .int .i64 0, .int .i64 1] 79)).frozen? ⟨w.heap.size, 1, none⟩ = false := frz (box_on HB0.out HKY.out (Nat.le_refl _)) 1; clear ho1 hg1)
  have e1 := HS.out
  have e2 := HK1.out.size
  have hrow : (w1.alloc (.cells #[.int .i64 0, .int .i64 0, .int .i64 0, .int .i64 1] 79)).heap[w.heap.size + 1]? = some (.cells (cellsV 2 hstV exW.hosts).toArray 59 (0, 0)) := by
    have h := HR1.out
    rw [made2, e1] at h
    exact old_heap _ h
  refine ret2w (i := 0) (b := w.heap.size) rfl rfl rfl (row_store2 (box_on HB0.out HKY.out (Nat.le_refl _)) _ _) ⟨⟨some ⟨w.heap.size + 1, 0, none⟩, 2, some ⟨w1.heap.size, 0, none⟩, 2⟩, rfl, ⟨own_block2 (n := 2) (by omega) (set_else (set_else hrow (by omega)) (by omega)) rfl (by decide), own_block2 (n := 2) (by omega) (set_else (set_else (box_new _ _ _) (by omega)) (by omega)) rfl (by decide)⟩, ?_⟩
  exact (((HB.out.trans (HKY.out.mono HB.out.size)).setCell (p := ⟨w.heap.size, 0, none⟩) (Nat.le_refl _) _).setCell (p := ⟨w.heap.size, 1, none⟩) (Nat.le_refl _) _)
theorem exWish : WishOk (svs wxs) := by
  refine ⟨by decide, fun i s h => ?_, by decide⟩
  match i, h with
  | 0, h => obtain rfl : _ = s := Option.some.inj h; decide +kernel
theorem exOk : WorldOk exD (svs wxs) exW := ⟨by decide +kernel, exWish, by decide, by decide +kernel, by decide, by decide +kernel, by decide +kernel⟩
def exZ (p : SP) (A : Option Addr) (c : Nat) (q : WP) : Sn := ⟨p, exD, A, c, wxs, q, exW⟩
theorem exZ_ok (p : SP) (A : Option Addr) (c : Nat) (q : WP) : true = true ↔ (exZ p A c q).Ok := ⟨fun _ => exOk, fun _ => rfl⟩
theorem ex_watts (p : SP) (A : Option Addr) (c : Nat) (q : WP) : pwV (exZ p A c q) true (isHost 0) = 200 := by
  show loadN exD (svs wxs) exW (isHost 0) = 200; decide +kernel
theorem ex_feed (p : SP) (A : Option Addr) (c : Nat) (q : WP) : pwV (exZ p A c q) true (isFeed exD 0) = 400 := by
  show loadN exD (svs wxs) exW (isFeed exD 0) = 400; decide +kernel
theorem ex_car (p : SP) (A : Option Addr) (c : Nat) (q : WP) : carV (exZ p A c q) true = 300 := by
  show carryV exD (svs wxs) exW = 300; decide +kernel
theorem ex_bears (p : SP) (A : Option Addr) (c : Nat) (q : WP) : bearV (exZ p A c q) true 0 = -1 := by
  have h : pwV (exZ p A c q) true (isBrk exD 0) = 200 := by show loadN exD (svs wxs) exW (isBrk exD 0) = 200; decide +kernel
  unfold bearV
  rw [if_pos ⟨rfl, by decide, by show (0 : Int) < (exD.brks.length : Int); decide⟩, show (exZ p A c q).s = exD from rfl, h]
  decide +kernel
theorem c_siteTo (w : World) : Calls Tryz.prog 26 #[] w fun e w' => ∃ p, e = .returned (siV p exD) ∧ SiAt w' p exD ∧ Below w.heap.size w w' := (c_site w).mono fun e w' h => ⟨_, h.1, h.2.1, h.2.2⟩
theorem c_wishTo (w : World) : Calls Tryz.prog 27 #[] w fun e w' => ∃ A c, e = .returned (.agg #[.slice A wxs.length c]) ∧ WiAt w' A c wxs ∧ Below w.heap.size w w' := (c_wish w).mono fun e w' h => ⟨_, _, h.1, h.2.1, h.2.2⟩
theorem c_exTo (w : World) : Calls Tryz.prog 28 #[] w fun e w' => ∃ p, e = .returned (.agg #[.slice p.a1 exW.hosts.length p.c1, .slice p.a2 exW.reps.length p.c2]) ∧ WoAt w' p exW ∧ Below w.heap.size w w' := by
  refine (c_example w).mono ?_
  rintro e w' ⟨p, rfl, h, b⟩
  exact ⟨p, rfl, h.wo (by decide), b⟩
theorem exWatts (p : SP) (A : Option Addr) (c : Nat) (q : WP) (w : World) (h1 : SiAt w p exD) (h2 : WiAt w A c wxs) (h3 : WoAt w q exW) :
    Calls Tryz.prog 10 #[.agg #[.slice p.a1 exD.feeds.length p.c1, .slice p.a2 exD.brks.length p.c2, .slice p.a3 exD.loops.length p.c3, .slice p.a4 exD.racks.length p.c4, .int .i64 exD.sw, .slice p.a5 exD.links.length p.c5, .slice p.a6 exD.hosts.length p.c6], .agg #[.slice A wxs.length c], .agg #[.slice q.a1 exW.hosts.length q.c1, .slice q.a2 exW.reps.length q.c2], .int .i64 0] w fun e w' => e = .returned (.int .i64 200) ∧ Below w.heap.size w w' := c_pwWatts (exZ p A c q) true (exZ_ok p A c q) 0 w ⟨h1, h2, h3⟩ 200 (ex_watts p A c q)
theorem exFeed (p : SP) (A : Option Addr) (c : Nat) (q : WP) (w : World) (h1 : SiAt w p exD) (h2 : WiAt w A c wxs) (h3 : WoAt w q exW) :
    Calls Tryz.prog 16 #[.agg #[.slice p.a1 exD.feeds.length p.c1, .slice p.a2 exD.brks.length p.c2, .slice p.a3 exD.loops.length p.c3, .slice p.a4 exD.racks.length p.c4, .int .i64 exD.sw, .slice p.a5 exD.links.length p.c5, .slice p.a6 exD.hosts.length p.c6], .agg #[.slice A wxs.length c], .agg #[.slice q.a1 exW.hosts.length q.c1, .slice q.a2 exW.reps.length q.c2], .int .i64 0] w fun e w' => e = .returned (.int .i64 400) ∧ Below w.heap.size w w' := c_pwOfFeed (exZ p A c q) true (exZ_ok p A c q) 0 w ⟨h1, h2, h3⟩ 400 (ex_feed p A c q)
theorem exCar (p : SP) (A : Option Addr) (c : Nat) (q : WP) (w : World) (h1 : SiAt w p exD) (h2 : WiAt w A c wxs) (h3 : WoAt w q exW) :
    Calls Tryz.prog 21 #[.agg #[.slice p.a1 exD.feeds.length p.c1, .slice p.a2 exD.brks.length p.c2, .slice p.a3 exD.loops.length p.c3, .slice p.a4 exD.racks.length p.c4, .int .i64 exD.sw, .slice p.a5 exD.links.length p.c5, .slice p.a6 exD.hosts.length p.c6], .agg #[.slice A wxs.length c], .agg #[.slice q.a1 exW.hosts.length q.c1, .slice q.a2 exW.reps.length q.c2]] w fun e w' => e = .returned (.int .i64 300) ∧ Below w.heap.size w w' := c_pwCarried (exZ p A c q) true (exZ_ok p A c q) w ⟨h1, h2, h3⟩ 300 (ex_car p A c q)
theorem exBears (p : SP) (A : Option Addr) (c : Nat) (q : WP) (w : World) (h1 : SiAt w p exD) (h2 : WiAt w A c wxs) (h3 : WoAt w q exW) :
    Calls Tryz.prog 23 #[.agg #[.slice p.a1 exD.feeds.length p.c1, .slice p.a2 exD.brks.length p.c2, .slice p.a3 exD.loops.length p.c3, .slice p.a4 exD.racks.length p.c4, .int .i64 exD.sw, .slice p.a5 exD.links.length p.c5, .slice p.a6 exD.hosts.length p.c6], .agg #[.slice A wxs.length c], .agg #[.slice q.a1 exW.hosts.length q.c1, .slice q.a2 exW.reps.length q.c2], .int .i64 0] w fun e w' => e = .returned (.int .i64 (-1)) ∧ Below w.heap.size w w' := c_pw_Bears (exZ p A c q) true (exZ_ok p A c q) 0 w ⟨h1, h2, h3⟩ (-1) (ex_bears p A c q)
set_option maxHeartbeats 16000000 in
theorem c_live (w : World) : Calls Tryz.prog 9 #[] w fun e w' => e = .returned (.bool true) ∧ Below w.heap.size w w' := by
  have HBw := Lib.hid (Below.refl w.heap.size w)
  go_enter Tryz.func9, Tryz.ntmps9
  go_wp2_with (fail)
  go_at_call 26
  refine (c_siteTo w).mono ?_
  rintro e v1 ⟨p, rfl, h1, bb⟩
  have HBv1 := Lib.hid (below_join HBw.out bb HBw.out.size)
  have S1v1 := Lib.hid h1; clear h1
  clear bb
  unfold siV
  go_wp2_with (fail)
  go_at_call 27
  refine (c_wishTo v1).mono ?_
  rintro e v2 ⟨A, c, rfl, h1, bb⟩
  have HBv2 := Lib.hid (below_join HBv1.out bb HBv1.out.size)
  have S1v2 := Lib.hid (S1v1.out.on bb (Nat.le_refl _))
  have S2v2 := Lib.hid h1; clear h1
  clear bb
  go_wp2_with (fail)
  go_at_call 28
  refine (c_exTo v2).mono ?_
  rintro e v3 ⟨q, rfl, h1, bb⟩
  have HBv3 := Lib.hid (below_join HBv2.out bb HBv2.out.size)
  have S1v3 := Lib.hid (S1v2.out.on bb (Nat.le_refl _))
  have S2v3 := Lib.hid (S2v2.out.on bb (Nat.le_refl _))
  have S3v3 := Lib.hid h1; clear h1
  clear bb
  go_wp2_with (fail)
  go_at_call 10
  refine (exWatts p A c q v3 S1v3.out S2v3.out S3v3.out).mono ?_
  rintro e v4 ⟨rfl, bb⟩
  have HBv4 := Lib.hid (below_join HBv3.out bb HBv3.out.size)
  have S1v4 := Lib.hid (S1v3.out.on bb (Nat.le_refl _))
  have S2v4 := Lib.hid (S2v3.out.on bb (Nat.le_refl _))
  have S3v4 := Lib.hid (S3v3.out.on bb (Nat.le_refl _))
  clear bb
  go_wp2_with (fail)
  go_at_call 26
  refine (c_siteTo v4).mono ?_
  rintro e v5 ⟨p, rfl, h1, bb⟩
  have HBv5 := Lib.hid (below_join HBv4.out bb HBv4.out.size)
  have S1v5 := Lib.hid h1; clear h1
  clear bb
  unfold siV
  go_wp2_with (fail)
  go_at_call 27
  refine (c_wishTo v5).mono ?_
  rintro e v6 ⟨A, c, rfl, h1, bb⟩
  have HBv6 := Lib.hid (below_join HBv5.out bb HBv5.out.size)
  have S1v6 := Lib.hid (S1v5.out.on bb (Nat.le_refl _))
  have S2v6 := Lib.hid h1; clear h1
  clear bb
  go_wp2_with (fail)
  go_at_call 28
  refine (c_exTo v6).mono ?_
  rintro e v7 ⟨q, rfl, h1, bb⟩
  have HBv7 := Lib.hid (below_join HBv6.out bb HBv6.out.size)
  have S1v7 := Lib.hid (S1v6.out.on bb (Nat.le_refl _))
  have S2v7 := Lib.hid (S2v6.out.on bb (Nat.le_refl _))
  have S3v7 := Lib.hid h1; clear h1
  clear bb
  go_wp2_with (fail)
  go_at_call 16
  refine (exFeed p A c q v7 S1v7.out S2v7.out S3v7.out).mono ?_
  rintro e v8 ⟨rfl, bb⟩
  have HBv8 := Lib.hid (below_join HBv7.out bb HBv7.out.size)
  have S1v8 := Lib.hid (S1v7.out.on bb (Nat.le_refl _))
  have S2v8 := Lib.hid (S2v7.out.on bb (Nat.le_refl _))
  have S3v8 := Lib.hid (S3v7.out.on bb (Nat.le_refl _))
  clear bb
  go_wp2_with (fail)
  go_at_call 26
  refine (c_siteTo v8).mono ?_
  rintro e v9 ⟨p, rfl, h1, bb⟩
  have HBv9 := Lib.hid (below_join HBv8.out bb HBv8.out.size)
  have S1v9 := Lib.hid h1; clear h1
  clear bb
  unfold siV
  go_wp2_with (fail)
  go_at_call 27
  refine (c_wishTo v9).mono ?_
  rintro e v10 ⟨A, c, rfl, h1, bb⟩
  have HBv10 := Lib.hid (below_join HBv9.out bb HBv9.out.size)
  have S1v10 := Lib.hid (S1v9.out.on bb (Nat.le_refl _))
  have S2v10 := Lib.hid h1; clear h1
  clear bb
  go_wp2_with (fail)
  go_at_call 28
  refine (c_exTo v10).mono ?_
  rintro e v11 ⟨q, rfl, h1, bb⟩
  have HBv11 := Lib.hid (below_join HBv10.out bb HBv10.out.size)
  have S1v11 := Lib.hid (S1v10.out.on bb (Nat.le_refl _))
  have S2v11 := Lib.hid (S2v10.out.on bb (Nat.le_refl _))
  have S3v11 := Lib.hid h1; clear h1
  clear bb
  go_wp2_with (fail)
  go_at_call 21
  refine (exCar p A c q v11 S1v11.out S2v11.out S3v11.out).mono ?_
  rintro e v12 ⟨rfl, bb⟩
  have HBv12 := Lib.hid (below_join HBv11.out bb HBv11.out.size)
  have S1v12 := Lib.hid (S1v11.out.on bb (Nat.le_refl _))
  have S2v12 := Lib.hid (S2v11.out.on bb (Nat.le_refl _))
  have S3v12 := Lib.hid (S3v11.out.on bb (Nat.le_refl _))
  clear bb
  go_wp2_with (fail)
  go_at_call 26
  refine (c_siteTo v12).mono ?_
  rintro e v13 ⟨p, rfl, h1, bb⟩
  have HBv13 := Lib.hid (below_join HBv12.out bb HBv12.out.size)
  have S1v13 := Lib.hid h1; clear h1
  clear bb
  unfold siV
  go_wp2_with (fail)
  go_at_call 27
  refine (c_wishTo v13).mono ?_
  rintro e v14 ⟨A, c, rfl, h1, bb⟩
  have HBv14 := Lib.hid (below_join HBv13.out bb HBv13.out.size)
  have S1v14 := Lib.hid (S1v13.out.on bb (Nat.le_refl _))
  have S2v14 := Lib.hid h1; clear h1
  clear bb
  go_wp2_with (fail)
  go_at_call 28
  refine (c_exTo v14).mono ?_
  rintro e v15 ⟨q, rfl, h1, bb⟩
  have HBv15 := Lib.hid (below_join HBv14.out bb HBv14.out.size)
  have S1v15 := Lib.hid (S1v14.out.on bb (Nat.le_refl _))
  have S2v15 := Lib.hid (S2v14.out.on bb (Nat.le_refl _))
  have S3v15 := Lib.hid h1; clear h1
  clear bb
  go_wp2_with (fail)
  go_at_call 23
  refine (exBears p A c q v15 S1v15.out S2v15.out S3v15.out).mono ?_
  rintro e v16 ⟨rfl, bb⟩
  have HBv16 := Lib.hid (below_join HBv15.out bb HBv15.out.size)
  have S1v16 := Lib.hid (S1v15.out.on bb (Nat.le_refl _))
  have S2v16 := Lib.hid (S2v15.out.on bb (Nat.le_refl _))
  have S3v16 := Lib.hid (S3v15.out.on bb (Nat.le_refl _))
  clear bb
  go_wp2_with (fail)
  go_ret
  exact ⟨rfl, HBv16.out⟩
end Go.Proofs.YtidpiokkfnhobaaGreat
