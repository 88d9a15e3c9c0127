/-
  The law PowerNets (written by gen/power_H.py).
-/
import Derived.Test.YtidpiokkfnhobaaGreatHA
set_option linter.unusedVariables false
set_option linter.unusedSimpArgs false
namespace Go.Proofs.YtidpiokkfnhobaaGreat
open Go.RowKit
set_option maxRecDepth 100000
set_option linter.unusedVariables false
set_option linter.unusedSimpArgs false

set_option maxHeartbeats 32000000 in
theorem w_PowerNets (z : Sn) (w : World) (hz : SnAt w z) (b : Int) :
    Calls Tryz.prog 4 #[.agg #[.slice z.p.a1 z.s.feeds.length z.p.c1, .slice z.p.a2 z.s.brks.length z.p.c2, .slice z.p.a3 z.s.loops.length z.p.c3, .slice z.p.a4 z.s.racks.length z.p.c4, .int .i64 z.s.sw, .slice z.p.a5 z.s.links.length z.p.c5, .slice z.p.a6 z.s.hosts.length z.p.c6], .agg #[.slice z.A z.xs.length z.c], .agg #[.slice z.q.a1 z.d.hosts.length z.q.c1, .slice z.q.a2 z.d.reps.length z.q.c2], .int .i64 b] w fun e w' => e = .returned (.bool true) ∧ Below w.heap.size w w' := by
  have HLV := Lib.hid (fun (X : World) => c_live X)
  obtain ⟨W1, h1⟩ : ∃ W, W = w.alloc (.cells #[.slice z.p.a1 z.s.feeds.length z.p.c1, .slice z.p.a2 z.s.brks.length z.p.c2, .slice z.p.a3 z.s.loops.length z.p.c3, .slice z.p.a4 z.s.racks.length z.p.c4, .int .i64 z.s.sw, .slice z.p.a5 z.s.links.length z.p.c5, .slice z.p.a6 z.s.hosts.length z.p.c6] 29) := ⟨_, rfl⟩
  obtain ⟨W2, h2⟩ : ∃ W, W = W1.alloc (.cells #[.slice z.A z.xs.length z.c] 32) := ⟨_, rfl⟩
  obtain ⟨W, h3⟩ : ∃ W, W = W2.alloc (.cells #[.slice z.q.a1 z.d.hosts.length z.q.c1, .slice z.q.a2 z.d.reps.length z.q.c2] 36) := ⟨_, rfl⟩
  obtain ⟨B0, X1⟩ := sn_boxes h1 h2 h3
  have z3 : W.heap.size = w.heap.size + 1 + 1 + 1 := sn_size h1 h2 h3
  have HB := Lib.hid B0
  have Z0 := hz.on B0 (Nat.le_refl _)
  have HZ := Lib.hid (fun (X : World) (hX : Below W.heap.size W X) => Z0.on hX (Nat.le_refl _))
  have HF := Lib.hid (fun (X : World) (hX : Below W.heap.size W X) => ((X1.on hX (Nat.le_refl _)).cells : X.cell? ⟨w.heap.size, 0, none⟩ = some (.slice z.p.a1 z.s.feeds.length z.p.c1) ∧ X.cell? ⟨w.heap.size, 1, none⟩ = some (.slice z.p.a2 z.s.brks.length z.p.c2) ∧ X.cell? ⟨w.heap.size, 2, none⟩ = some (.slice z.p.a3 z.s.loops.length z.p.c3) ∧ X.cell? ⟨w.heap.size, 3, none⟩ = some (.slice z.p.a4 z.s.racks.length z.p.c4) ∧ X.cell? ⟨w.heap.size, 4, none⟩ = some (.int .i64 z.s.sw) ∧ X.cell? ⟨w.heap.size, 5, none⟩ = some (.slice z.p.a5 z.s.links.length z.p.c5) ∧ X.cell? ⟨w.heap.size, 6, none⟩ = some (.slice z.p.a6 z.s.hosts.length z.p.c6) ∧ X.cell? ⟨w.heap.size + 1, 0, none⟩ = some (.slice z.A z.xs.length z.c) ∧ X.cell? ⟨w.heap.size + 1 + 1, 0, none⟩ = some (.slice z.q.a1 z.d.hosts.length z.q.c1) ∧ X.cell? ⟨w.heap.size + 1 + 1, 1, none⟩ = some (.slice z.q.a2 z.d.reps.length z.q.c2)))
  have HX := Lib.hid (fun (X : World) (hX : Below W.heap.size W X) => X1.on hX (Nat.le_refl _))
  have HKW := Lib.hid (Below.refl W.heap.size W)
  have hle := HB.out.size
  obtain ⟨n1, n2, n3, n4, n5, n6, n7, n8⟩ := hz.bounds
  clear hz B0 X1 z3 Z0
  obtain ⟨f0, f1, f2, f3, f4, f5, f6, g0, g1, g2⟩ := HF.out W HKW.out
  rw [h3, h2, h1] at f0 f1 f2 f3 f4 f5 f6 g0 g1 g2
  generalize hBB : w.heap.size = B at *
  go_enter Tryz.func4, Tryz.ntmps4
  go_wp2_with (fail)
  rw [← h1, ← h2, ← h3]
  clear h1 h2 h3 f0 f1 f2 f3 f4 f5 f6 g0 g1 g2
  obtain ⟨r, hr⟩ := bool_of (FewZ z)
  have HR := Lib.hid hr
  obtain ⟨r0, hr0⟩ := bool_of z.Ok
  have HR0 := Lib.hid hr0
  clear hr hr0
  go_at_call 8
  refine (c_fewZ z r HR.out W (HZ.out W HKW.out)).mono ?_
  rintro e v1 ⟨rfl, bb⟩
  have HKv1 := Lib.hid (below_join HKW.out bb HKW.out.size)
  clear bb
  cases r
  · skip
    go_wp2_with (fail)
    go_at_call 9
    refine (HLV.out v1).mono ?_
    rintro e v102 ⟨rfl, bb⟩
    have HKv102 := Lib.hid (below_join HKv1.out bb HKv1.out.size)
    clear bb
    go_wp2_with (fail)
    go_ret
    exact ⟨rfl, below_join HB.out HKv102.out hle⟩
  obtain ⟨cv, hcv⟩ : ∃ y, carV z r0 = y := ⟨_, rfl⟩
  have HCV := Lib.hid hcv
  obtain ⟨b1, hb1⟩ : ∃ y, bearV z r0 b = y := ⟨_, rfl⟩
  have HB1 := Lib.hid hb1
  obtain ⟨b0, hb0⟩ : ∃ y, bearV z r0 0 = y := ⟨_, rfl⟩
  have HB0 := Lib.hid hb0
  obtain ⟨nn, hnn⟩ : ∃ y, netNV z r0 = y := ⟨_, rfl⟩
  have HNN := Lib.hid hnn
  have HN1 := Lib.hid (fun (X : World) (h : SnAt X z) => (c_pwNet z r0 HR0.out X h).mono fun e w' (q : NetPost z r0 X e w') => (by obtain ⟨v, e1, e2, e3⟩ := q; rw [HNN.out] at e1; exact ⟨v, e1, e2, e3⟩ : ∃ v, e = .returned (.agg #[.int .i64 nn, v]) ∧ v5.PtSl w' v (netLV z r0) ∧ Below X.heap.size X w'))
  have HN2 := Lib.hid (fun (X : World) (h : SnAt X z) => (d_Net z r0 HR0.out X h).mono fun e w' (q : NetPost z r0 X e w') => (by obtain ⟨v, e1, e2, e3⟩ := q; rw [HNN.out] at e1; exact ⟨v, e1, e2, e3⟩ : ∃ v, e = .returned (.agg #[.int .i64 nn, v]) ∧ v5.PtSl w' v (netLV z r0) ∧ Below X.heap.size X w'))
  clear hcv hb1 hb0 hnn
  go_wp2_with (fail)
  obtain ⟨f0, f1, f2, f3, f4, f5, f6, g0, g1, g2⟩ := HF.out v1 HKv1.out
  go_region_held3 (fun X => X.cell? ⟨B, 0, none⟩ = some (.slice z.p.a1 z.s.feeds.length z.p.c1) ∧ X.cell? ⟨B, 1, none⟩ = some (.slice z.p.a2 z.s.brks.length z.p.c2) ∧ X.cell? ⟨B, 2, none⟩ = some (.slice z.p.a3 z.s.loops.length z.p.c3) ∧ X.cell? ⟨B, 3, none⟩ = some (.slice z.p.a4 z.s.racks.length z.p.c4) ∧ X.cell? ⟨B, 4, none⟩ = some (.int .i64 z.s.sw) ∧ X.cell? ⟨B, 5, none⟩ = some (.slice z.p.a5 z.s.links.length z.p.c5) ∧ X.cell? ⟨B, 6, none⟩ = some (.slice z.p.a6 z.s.hosts.length z.p.c6) ∧ X.cell? ⟨B + 1, 0, none⟩ = some (.slice z.A z.xs.length z.c) ∧ X.cell? ⟨B + 1 + 1, 0, none⟩ = some (.slice z.q.a1 z.d.hosts.length z.q.c1) ∧ X.cell? ⟨B + 1 + 1, 1, none⟩ = some (.slice z.q.a2 z.d.reps.length z.q.c2))
    (first | exact HF.out v162 HKv162.out | exact HF.out v161 HKv161.out | exact HF.out v160 HKv160.out | exact HF.out v159 HKv159.out | exact HF.out v158 HKv158.out | exact HF.out v157 HKv157.out | exact HF.out v156 HKv156.out | exact HF.out v155 HKv155.out | exact HF.out v154 HKv154.out | exact HF.out v153 HKv153.out | exact HF.out v1 HKv1.out | fail)
    (first
      | (go_at_call 19; (with_reducible refine (HN1.out v1.drew (HZ.out _ HKv1.out.drew)).mono ?_); rintro e v153 ⟨q1, rfl, pt1, bb0⟩; have bb := below_join (Below.refl v1.heap.size v1).drew bb0 (Nat.le_refl _); have HKv153 := Lib.hid (below_join HKv1.out bb HKv1.out.size); have PAv153 := Lib.hid pt1; clear pt1; clear bb bb0)
      | (go_at_call 20; (with_reducible refine (HN2.out v153 (HZ.out _ HKv153.out)).mono ?_); rintro e v154 ⟨q2, rfl, pt2, bb0⟩; have bb := below_join (Below.refl v153.heap.size v153) bb0 (Nat.le_refl _); have HKv154 := Lib.hid (below_join HKv153.out bb HKv153.out.size); have PAv154 := Lib.hid (PAv153.out.on bb (Nat.le_refl _)); have PBv154 := Lib.hid pt2; clear pt2; clear bb bb0)
      | (go_at_call 18; (with_reducible refine (c_SameNet nn q1 q2 (netLV z r0) v154 PAv154.out PBv154.out).mono ?_); rintro e v155 ⟨rfl, bb0⟩; have bb := below_join (Below.refl v154.heap.size v154) bb0 (Nat.le_refl _); have HKv155 := Lib.hid (below_join HKv154.out bb HKv154.out.size); have PAv155 := Lib.hid (PAv154.out.on bb (Nat.le_refl _)); have PBv155 := Lib.hid (PBv154.out.on bb (Nat.le_refl _)); clear bb bb0)
      | (go_at_call 21; (with_reducible refine (c_pwCarried z r0 HR0.out v155 (HZ.out _ HKv155.out) cv HCV.out).mono ?_); rintro e v156 ⟨rfl, bb0⟩; have bb := below_join (Below.refl v155.heap.size v155) bb0 (Nat.le_refl _); have HKv156 := Lib.hid (below_join HKv155.out bb HKv155.out.size); have PAv156 := Lib.hid (PAv155.out.on bb (Nat.le_refl _)); have PBv156 := Lib.hid (PBv155.out.on bb (Nat.le_refl _)); clear bb bb0)
      | (go_at_call 22; (with_reducible refine (d_Carried z r0 HR0.out v156 (HZ.out _ HKv156.out) cv HCV.out).mono ?_); rintro e v157 ⟨rfl, bb0⟩; have bb := below_join (Below.refl v156.heap.size v156) bb0 (Nat.le_refl _); have HKv157 := Lib.hid (below_join HKv156.out bb HKv156.out.size); have PAv157 := Lib.hid (PAv156.out.on bb (Nat.le_refl _)); have PBv157 := Lib.hid (PBv156.out.on bb (Nat.le_refl _)); clear bb bb0)
      | (go_at_call 23; (with_reducible refine (c_pw_Bears z r0 HR0.out b v157 (HZ.out _ HKv157.out) b1 HB1.out).mono ?_); rintro e v158 ⟨rfl, bb0⟩; have bb := below_join (Below.refl v157.heap.size v157) bb0 (Nat.le_refl _); have HKv158 := Lib.hid (below_join HKv157.out bb HKv157.out.size); have PAv158 := Lib.hid (PAv157.out.on bb (Nat.le_refl _)); have PBv158 := Lib.hid (PBv157.out.on bb (Nat.le_refl _)); clear bb bb0)
      | (go_at_call 24; (with_reducible refine (c_pr_Bears z r0 HR0.out b v158 (HZ.out _ HKv158.out) b1 HB1.out).mono ?_); rintro e v159 ⟨rfl, bb0⟩; have bb := below_join (Below.refl v158.heap.size v158) bb0 (Nat.le_refl _); have HKv159 := Lib.hid (below_join HKv158.out bb HKv158.out.size); have PAv159 := Lib.hid (PAv158.out.on bb (Nat.le_refl _)); have PBv159 := Lib.hid (PBv158.out.on bb (Nat.le_refl _)); clear bb bb0)
      | (go_at_call 23; (with_reducible refine (c_pw_Bears z r0 HR0.out 0 v159 (HZ.out _ HKv159.out) b0 HB0.out).mono ?_); rintro e v160 ⟨rfl, bb0⟩; have bb := below_join (Below.refl v159.heap.size v159) bb0 (Nat.le_refl _); have HKv160 := Lib.hid (below_join HKv159.out bb HKv159.out.size); have PAv160 := Lib.hid (PAv159.out.on bb (Nat.le_refl _)); have PBv160 := Lib.hid (PBv159.out.on bb (Nat.le_refl _)); clear bb bb0)
      | (go_at_call 24; (with_reducible refine (c_pr_Bears z r0 HR0.out 0 v160 (HZ.out _ HKv160.out) b0 HB0.out).mono ?_); rintro e v161 ⟨rfl, bb0⟩; have bb := below_join (Below.refl v160.heap.size v160) bb0 (Nat.le_refl _); have HKv161 := Lib.hid (below_join HKv160.out bb HKv160.out.size); have PAv161 := Lib.hid (PAv160.out.on bb (Nat.le_refl _)); have PBv161 := Lib.hid (PBv160.out.on bb (Nat.le_refl _)); clear bb bb0)
      | (go_at_call 9; (with_reducible refine (HLV.out v161).mono ?_); rintro e v162 ⟨rfl, bb0⟩; have bb := below_join (Below.refl v161.heap.size v161) bb0 (Nat.le_refl _); have HKv162 := Lib.hid (below_join HKv161.out bb HKv161.out.size); have PAv162 := Lib.hid (PAv161.out.on bb (Nat.le_refl _)); have PBv162 := Lib.hid (PBv161.out.on bb (Nat.le_refl _)); clear bb bb0)
      | fail)
  go_wp2_with (fail)
  go_ret
  exact ⟨rfl, below_join HB.out HKv162.out hle⟩
theorem row_PowerNets (w : World) (p : SP) (s : SiteD) (hs : SiAt w p s) (A : Option Addr) (c : Nat) (xs : List (Svc × SvA)) (hx : WiAt w A c xs) (q : WP) (d : WorldD) (hd : WoAt w q d) (n : Int) :
    Calls Tryz.prog 4 #[siV p s, .agg #[.slice A xs.length c], .agg #[.slice q.a1 d.hosts.length q.c1, .slice q.a2 d.reps.length q.c2], .int .i64 n] w fun e w' => e = .returned (.bool true) ∧ Below w.heap.size w w' := w_PowerNets ⟨p, s, A, c, xs, q, d⟩ w ⟨hs, hx, hd⟩ n
end Go.Proofs.YtidpiokkfnhobaaGreat
