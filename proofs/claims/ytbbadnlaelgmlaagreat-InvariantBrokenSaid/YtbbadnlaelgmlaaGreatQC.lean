/-
  The law InvariantBroken (written by gen/inv_QC.py; stage 17).
-/
import Derived.Test.YtbbadnlaelgmlaaGreatPXO6
set_option linter.unusedVariables false
set_option linter.unusedSimpArgs false
namespace Go.Proofs.YtbbadnlaelgmlaaGreat
open Go.RowKit
set_option maxRecDepth 100000
set_option linter.unusedVariables false
set_option linter.unusedSimpArgs false

set_option maxHeartbeats 32000000 in
theorem w_InvariantBroken (z : Sn) (w : World) (hz : SnAt w z) :
    Calls Tryz.prog 3 #[.agg #[.slice z.p.a1 z.s.feeds.length z.p.c1, .slice z.p.a2 z.s.brks.length z.p.c2, .slice z.p.a3 z.s.loops.length z.p.c3, .slice z.p.a4 z.s.racks.length z.p.c4, .int .i64 z.s.sw, .slice z.p.a5 z.s.links.length z.p.c5, .slice z.p.a6 z.s.hosts.length z.p.c6], .agg #[.slice z.A z.xs.length z.c], .agg #[.slice z.q.a1 z.d.hosts.length z.q.c1, .slice z.q.a2 z.d.reps.length z.q.c2]] w fun e w' => e = .returned (.bool true) ∧ Below w.heap.size w w' := by
  obtain ⟨W1, h1⟩ : ∃ W, W = w.alloc (.cells #[.slice z.p.a1 z.s.feeds.length z.p.c1, .slice z.p.a2 z.s.brks.length z.p.c2, .slice z.p.a3 z.s.loops.length z.p.c3, .slice z.p.a4 z.s.racks.length z.p.c4, .int .i64 z.s.sw, .slice z.p.a5 z.s.links.length z.p.c5, .slice z.p.a6 z.s.hosts.length z.p.c6] 29) := ⟨_, rfl⟩
  obtain ⟨W2, h2⟩ : ∃ W, W = W1.alloc (.cells #[.slice z.A z.xs.length z.c] 32) := ⟨_, rfl⟩
  obtain ⟨W, h3⟩ : ∃ W, W = W2.alloc (.cells #[.slice z.q.a1 z.d.hosts.length z.q.c1, .slice z.q.a2 z.d.reps.length z.q.c2] 36) := ⟨_, rfl⟩
  obtain ⟨B0, X1⟩ := sn_boxes h1 h2 h3
  have z3 : W.heap.size = w.heap.size + 1 + 1 + 1 := sn_size h1 h2 h3
  have HB := Lib.hid B0
  have Z0 := hz.on B0 (Nat.le_refl _)
  have HZ := Lib.hid (fun (X : World) (hX : Below W.heap.size W X) => Z0.on hX (Nat.le_refl _))
  have HF := Lib.hid (fun (X : World) (hX : Below W.heap.size W X) => ((X1.on hX (Nat.le_refl _)).cells : X.cell? ⟨w.heap.size, 0, none⟩ = some (.slice z.p.a1 z.s.feeds.length z.p.c1) ∧ X.cell? ⟨w.heap.size, 1, none⟩ = some (.slice z.p.a2 z.s.brks.length z.p.c2) ∧ X.cell? ⟨w.heap.size, 2, none⟩ = some (.slice z.p.a3 z.s.loops.length z.p.c3) ∧ X.cell? ⟨w.heap.size, 3, none⟩ = some (.slice z.p.a4 z.s.racks.length z.p.c4) ∧ X.cell? ⟨w.heap.size, 4, none⟩ = some (.int .i64 z.s.sw) ∧ X.cell? ⟨w.heap.size, 5, none⟩ = some (.slice z.p.a5 z.s.links.length z.p.c5) ∧ X.cell? ⟨w.heap.size, 6, none⟩ = some (.slice z.p.a6 z.s.hosts.length z.p.c6) ∧ X.cell? ⟨w.heap.size + 1, 0, none⟩ = some (.slice z.A z.xs.length z.c) ∧ X.cell? ⟨w.heap.size + 1 + 1, 0, none⟩ = some (.slice z.q.a1 z.d.hosts.length z.q.c1) ∧ X.cell? ⟨w.heap.size + 1 + 1, 1, none⟩ = some (.slice z.q.a2 z.d.reps.length z.q.c2)))
  have HX := Lib.hid (fun (X : World) (hX : Below W.heap.size W X) => X1.on hX (Nat.le_refl _))
  have HKW := Lib.hid (Below.refl W.heap.size W)
  have hle := HB.out.size
  obtain ⟨n1, n2, n3, n4, n5, n6, n7, n8⟩ := hz.bounds
  clear hz B0 X1 z3 Z0
  obtain ⟨f0, f1, f2, f3, f4, f5, f6, g0, g1, g2⟩ := HF.out W HKW.out
  rw [h3, h2, h1] at f0 f1 f2 f3 f4 f5 f6 g0 g1 g2
  generalize hBB : w.heap.size = B at *
  go_enter Tryz.func3, Tryz.ntmps3
  go_wp2_with (fail)
  rw [← h1, ← h2, ← h3]
  clear h1 h2 h3 f0 f1 f2 f3 f4 f5 f6 g0 g1 g2
  obtain ⟨r, hr⟩ := bool_of (FewI z)
  have HR := Lib.hid hr
  obtain ⟨r0, hr0⟩ := bool_of z.Ok
  have HR0 := Lib.hid hr0
  obtain ⟨L, hL⟩ : ∃ L, bnV z.s z.ss z.d r0 = L := ⟨_, rfl⟩
  have HLL := Lib.hid hL
  obtain ⟨b, hb⟩ : ∃ b, holdV z L r0 = b := ⟨_, rfl⟩
  have HBB := Lib.hid hb
  have hbb : (b == b) = true := by simp
  clear hr hr0 hL hb
  go_at_call 10
  refine (c_few z r HR.out W (HZ.out _ HKW.out)).mono ?_
  rintro e v1 ⟨rfl, bb⟩
  have HKv1 := Lib.hid (below_join HKW.out bb HKW.out.size)
  clear bb
  rcases r with _ | _
  · go_wp2_with (fail)
    go_at_call 11
    refine (c_live v1).mono ?_
    rintro e v2 ⟨rfl, bb⟩
    have HKv2 := Lib.hid (below_join HKv1.out bb HKv1.out.size)
    clear bb
    go_wp2_with (fail)
    go_ret
    exact ⟨rfl, below_join HB.out HKv2.out hle⟩
  obtain ⟨f0, f1, f2, f3, f4, f5, f6, g0, g1, g2⟩ := HF.out v1 HKv1.out
  go_wp2_with (fail)
  clear f0 f1 f2 f3 f4 f5 f6 g0 g1 g2
  go_region_held3 (fun X => X.cell? ⟨B, 0, none⟩ = some (.slice z.p.a1 z.s.feeds.length z.p.c1) ∧ X.cell? ⟨B, 1, none⟩ = some (.slice z.p.a2 z.s.brks.length z.p.c2) ∧ X.cell? ⟨B, 2, none⟩ = some (.slice z.p.a3 z.s.loops.length z.p.c3) ∧ X.cell? ⟨B, 3, none⟩ = some (.slice z.p.a4 z.s.racks.length z.p.c4) ∧ X.cell? ⟨B, 4, none⟩ = some (.int .i64 z.s.sw) ∧ X.cell? ⟨B, 5, none⟩ = some (.slice z.p.a5 z.s.links.length z.p.c5) ∧ X.cell? ⟨B, 6, none⟩ = some (.slice z.p.a6 z.s.hosts.length z.p.c6) ∧ X.cell? ⟨B + 1, 0, none⟩ = some (.slice z.A z.xs.length z.c) ∧ X.cell? ⟨B + 1 + 1, 0, none⟩ = some (.slice z.q.a1 z.d.hosts.length z.q.c1) ∧ X.cell? ⟨B + 1 + 1, 1, none⟩ = some (.slice z.q.a2 z.d.reps.length z.q.c2))
    (first | exact HF.out v8 HKv8.out | exact HF.out v7 HKv7.out | exact HF.out v6 HKv6.out | exact HF.out v5 HKv5.out | exact HF.out v4 HKv4.out | exact HF.out v3 HKv3.out | exact HF.out v1 HKv1.out | fail)
    (first
      | (go_at_call 13; (with_reducible refine (c_Broken z r0 HR0.out L HLL.out v1.drew (HZ.out _ HKv1.out.drew)).mono ?_); rintro e v3 ⟨A1, q1, rfl, rv1, bb0⟩; have bb := below_join (Below.refl v1.heap.size v1).drew bb0 (Nat.le_refl _); have HKv3 := Lib.hid (below_join HKv1.out bb HKv1.out.size); have RAv3 := Lib.hid rv1; clear rv1; clear bb bb0)
      | (go_at_call 14; (with_reducible refine (c_irBroken z r0 HR0.out L HLL.out v3 (HZ.out _ HKv3.out)).mono ?_); rintro e v4 ⟨A2, q2, rfl, rv2, bb0⟩; have bb := below_join (Below.refl v3.heap.size v3) bb0 (Nat.le_refl _); have HKv4 := Lib.hid (below_join HKv3.out bb HKv3.out.size); have RAv4 := Lib.hid (RAv3.out.on bb (Nat.le_refl _)); have RBv4 := Lib.hid rv2; clear rv2; clear bb bb0)
      | (go_at_call 12; (with_reducible refine (c_irSame A1 q1 L A2 q2 L true (decide_eq_true rfl) v4 RAv4.out RBv4.out).mono ?_); rintro e v5 ⟨rfl, bb0⟩; have bb := below_join (Below.refl v4.heap.size v4) bb0 (Nat.le_refl _); have HKv5 := Lib.hid (below_join HKv4.out bb HKv4.out.size); have RAv5 := Lib.hid (RAv4.out.on bb (Nat.le_refl _)); have RBv5 := Lib.hid (RBv4.out.on bb (Nat.le_refl _)); clear bb bb0)
      | (go_at_call 15; (with_reducible refine (c_ivHolds z r0 HR0.out L HLL.out b HBB.out v5 (HZ.out _ HKv5.out)).mono ?_); rintro e v6 ⟨rfl, bb0⟩; have bb := below_join (Below.refl v5.heap.size v5) bb0 (Nat.le_refl _); have HKv6 := Lib.hid (below_join HKv5.out bb HKv5.out.size); have RAv6 := Lib.hid (RAv5.out.on bb (Nat.le_refl _)); have RBv6 := Lib.hid (RBv5.out.on bb (Nat.le_refl _)); clear bb bb0)
      | (go_at_call 16; (with_reducible refine (c_irHolds z r0 HR0.out L HLL.out b HBB.out v6 (HZ.out _ HKv6.out)).mono ?_); rintro e v7 ⟨rfl, bb0⟩; have bb := below_join (Below.refl v6.heap.size v6) bb0 (Nat.le_refl _); have HKv7 := Lib.hid (below_join HKv6.out bb HKv6.out.size); have RAv7 := Lib.hid (RAv6.out.on bb (Nat.le_refl _)); have RBv7 := Lib.hid (RBv6.out.on bb (Nat.le_refl _)); clear bb bb0)
      | (go_at_call 11; (with_reducible refine (c_live v7).mono ?_); rintro e v8 ⟨rfl, bb0⟩; have bb := below_join (Below.refl v7.heap.size v7) bb0 (Nat.le_refl _); have HKv8 := Lib.hid (below_join HKv7.out bb HKv7.out.size); have RAv8 := Lib.hid (RAv7.out.on bb (Nat.le_refl _)); have RBv8 := Lib.hid (RBv7.out.on bb (Nat.le_refl _)); clear bb bb0)
      | fail)
  go_wp2_with (fail)
  go_ret
  exact ⟨rfl, below_join HB.out HKv8.out hle⟩
theorem row_InvariantBroken (w : World) (p : SP) (s : SiteD) (hs : SiAt w p s) (A : Option Addr) (c : Nat) (xs : List (Svc × SvA)) (hx : WiAt w A c xs) (q : WP) (d : WorldD) (hd : WoAt w q d) :
    Calls Tryz.prog 3 #[siV p s, .agg #[.slice A xs.length c], .agg #[.slice q.a1 d.hosts.length q.c1, .slice q.a2 d.reps.length q.c2]] w fun e w' => e = .returned (.bool true) ∧ Below w.heap.size w w' := w_InvariantBroken ⟨p, s, A, c, xs, q, d⟩ w ⟨hs, hx, hd⟩
end Go.Proofs.YtbbadnlaelgmlaaGreat
