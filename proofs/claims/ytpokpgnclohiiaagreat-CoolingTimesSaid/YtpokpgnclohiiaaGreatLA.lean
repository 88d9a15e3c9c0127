/-
  The law CoolingTimes (written by gen/cool_L.py).
-/
import Derived.Test.YtpokpgnclohiiaaGreatPO2
set_option linter.unusedVariables false
set_option linter.unusedSimpArgs false
namespace Go.Proofs.YtpokpgnclohiiaaGreat
open Go.RowKit
set_option maxRecDepth 100000
set_option linter.unusedVariables false
set_option linter.unusedSimpArgs false

set_option maxHeartbeats 32000000 in
theorem w_CoolingTimes (z : Sn) (w : World) (hz : SnAt w z) (k st n lim : Int) :
    Calls Tryz.prog 5 #[.agg #[.slice z.p.a1 z.s.feeds.length z.p.c1, .slice z.p.a2 z.s.brks.length z.p.c2, .slice z.p.a3 z.s.loops.length z.p.c3, .slice z.p.a4 z.s.racks.length z.p.c4, .int .i64 z.s.sw, .slice z.p.a5 z.s.links.length z.p.c5, .slice z.p.a6 z.s.hosts.length z.p.c6], .agg #[.slice z.A z.xs.length z.c], .agg #[.slice z.q.a1 z.d.hosts.length z.q.c1, .slice z.q.a2 z.d.reps.length z.q.c2], .int .i64 k, .int .i64 st, .int .i64 n, .int .i64 lim] w fun e w' => e = .returned (.bool true) ∧ Below w.heap.size w w' := by
  have HLV := Lib.hid (fun (X : World) => c_live X)
  obtain ⟨W1, h1⟩ : ∃ W, W = w.alloc (.cells #[.slice z.p.a1 z.s.feeds.length z.p.c1, .slice z.p.a2 z.s.brks.length z.p.c2, .slice z.p.a3 z.s.loops.length z.p.c3, .slice z.p.a4 z.s.racks.length z.p.c4, .int .i64 z.s.sw, .slice z.p.a5 z.s.links.length z.p.c5, .slice z.p.a6 z.s.hosts.length z.p.c6] 29) := ⟨_, rfl⟩
  obtain ⟨W2, h2⟩ : ∃ W, W = W1.alloc (.cells #[.slice z.A z.xs.length z.c] 32) := ⟨_, rfl⟩
  obtain ⟨W, h3⟩ : ∃ W, W = W2.alloc (.cells #[.slice z.q.a1 z.d.hosts.length z.q.c1, .slice z.q.a2 z.d.reps.length z.q.c2] 36) := ⟨_, rfl⟩
  obtain ⟨B0, X1⟩ := sn_boxes h1 h2 h3
  have z3 : W.heap.size = w.heap.size + 1 + 1 + 1 := sn_size h1 h2 h3
  have HB := Lib.hid B0
  have Z0 := hz.on B0 (Nat.le_refl _)
  have HZ := Lib.hid (fun (X : World) (hX : Below W.heap.size W X) => Z0.on hX (Nat.le_refl _))
  have HF := Lib.hid (fun (X : World) (hX : Below W.heap.size W X) => ((X1.on hX (Nat.le_refl _)).cells : X.cell? ⟨w.heap.size, 0, none⟩ = some (.slice z.p.a1 z.s.feeds.length z.p.c1) ∧ X.cell? ⟨w.heap.size, 1, none⟩ = some (.slice z.p.a2 z.s.brks.length z.p.c2) ∧ X.cell? ⟨w.heap.size, 2, none⟩ = some (.slice z.p.a3 z.s.loops.length z.p.c3) ∧ X.cell? ⟨w.heap.size, 3, none⟩ = some (.slice z.p.a4 z.s.racks.length z.p.c4) ∧ X.cell? ⟨w.heap.size, 4, none⟩ = some (.int .i64 z.s.sw) ∧ X.cell? ⟨w.heap.size, 5, none⟩ = some (.slice z.p.a5 z.s.links.length z.p.c5) ∧ X.cell? ⟨w.heap.size, 6, none⟩ = some (.slice z.p.a6 z.s.hosts.length z.p.c6) ∧ X.cell? ⟨w.heap.size + 1, 0, none⟩ = some (.slice z.A z.xs.length z.c) ∧ X.cell? ⟨w.heap.size + 1 + 1, 0, none⟩ = some (.slice z.q.a1 z.d.hosts.length z.q.c1) ∧ X.cell? ⟨w.heap.size + 1 + 1, 1, none⟩ = some (.slice z.q.a2 z.d.reps.length z.q.c2)))
  have HX := Lib.hid (fun (X : World) (hX : Below W.heap.size W X) => X1.on hX (Nat.le_refl _))
  have HKW := Lib.hid (Below.refl W.heap.size W)
  have hle := HB.out.size
  obtain ⟨n1, n2, n3, n4, n5, n6, n7, n8⟩ := hz.bounds
  obtain ⟨r0, hr0⟩ := bool_of z.Ok
  have HR0 := Lib.hid hr0
  clear hr0
  clear hz B0 X1 z3 Z0
  obtain ⟨f0, f1, f2, f3, f4, f5, f6, g0, g1, g2⟩ := HF.out W HKW.out
  rw [h3, h2, h1] at f0 f1 f2 f3 f4 f5 f6 g0 g1 g2
  generalize hBB : w.heap.size = B at *
  go_enter Tryz.func5, Tryz.ntmps5
  go_wp2_with (fail)
  rw [← h1, ← h2, ← h3]
  clear h1 h2 h3 f0 f1 f2 f3 f4 f5 f6 g0 g1 g2
  obtain ⟨r, hr⟩ := bool_of (FewZ z)
  have HR := Lib.hid hr
  clear hr
  go_at_call 7
  refine (c_fewZ z r HR.out W (HZ.out W HKW.out)).mono ?_
  rintro e v1 ⟨rfl, bb⟩
  have HKv1 := Lib.hid (below_join HKW.out bb HKW.out.size)
  clear bb
  cases r
  · skip
    go_wp2_with (fail)
    go_at_call 8
    refine (HLV.out v1).mono ?_
    rintro e v102 ⟨rfl, bb⟩
    have HKv102 := Lib.hid (below_join HKv1.out bb HKv1.out.size)
    clear bb
    go_wp2_with (fail)
    go_ret
    exact ⟨rfl, below_join HB.out HKv102.out hle⟩
  obtain ⟨ht, hht⟩ : ∃ t, heatV z r0 k = t := ⟨_, rfl⟩
  have HHT := Lib.hid hht
  clear hht
  obtain ⟨e1, he1⟩ : ∃ t, hdE r0 z.s k st n = t := ⟨_, rfl⟩
  have HE1 := Lib.hid he1
  clear he1
  obtain ⟨a1, ha1⟩ : ∃ t, afV r0 ht z.s k st n = t := ⟨_, rfl⟩
  have HA1 := Lib.hid ha1
  clear ha1
  obtain ⟨e2, he2⟩ : ∃ t, lonE r0 z.s k st lim = t := ⟨_, rfl⟩
  have HE2 := Lib.hid he2
  clear he2
  obtain ⟨a2, ha2⟩ : ∃ t, lonV r0 ht z.s k st lim = t := ⟨_, rfl⟩
  have HA2 := Lib.hid ha2
  clear ha2
  obtain ⟨f0, f1, f2, f3, f4, f5, f6, g0, g1, g2⟩ := HF.out v1 HKv1.out
  go_wp2_with (fail)
  clear f0 f1 f2 f3 f4 f5 f6 g0 g1 g2
  go_at_call 16
  refine (c_coAfter z r0 HR0.out k st n v1 (HZ.out v1 HKv1.out) ht HHT.out e1 HE1.out a1 HA1.out).mono ?_
  rintro e v153 ⟨rfl, bb⟩
  have HKv153 := Lib.hid (below_join HKv1.out bb HKv1.out.size)
  clear bb
  obtain ⟨f0, f1, f2, f3, f4, f5, f6, g0, g1, g2⟩ := HF.out v153 HKv153.out
  go_wp2_with (fail)
  clear f0 f1 f2 f3 f4 f5 f6 g0 g1 g2
  go_at_call 17
  refine (d_crAfter z r0 HR0.out k st n v153 (HZ.out v153 HKv153.out) ht HHT.out e1 HE1.out a1 HA1.out).mono ?_
  rintro e v154 ⟨rfl, bb⟩
  have HKv154 := Lib.hid (below_join HKv153.out bb HKv153.out.size)
  clear bb
  obtain ⟨f0, f1, f2, f3, f4, f5, f6, g0, g1, g2⟩ := HF.out v154 HKv154.out
  go_wp2_with (fail)
  clear f0 f1 f2 f3 f4 f5 f6 g0 g1 g2
  go_at_call 18
  refine (c_coLongest z r0 HR0.out k st lim v154 (HZ.out v154 HKv154.out) ht HHT.out e2 HE2.out a2 HA2.out).mono ?_
  rintro e v155 ⟨rfl, bb⟩
  have HKv155 := Lib.hid (below_join HKv154.out bb HKv154.out.size)
  clear bb
  obtain ⟨f0, f1, f2, f3, f4, f5, f6, g0, g1, g2⟩ := HF.out v155 HKv155.out
  go_wp2_with (fail)
  clear f0 f1 f2 f3 f4 f5 f6 g0 g1 g2
  go_at_call 19
  refine (d_crLongest z r0 HR0.out k st lim v155 (HZ.out v155 HKv155.out) ht HHT.out e2 HE2.out a2 HA2.out).mono ?_
  rintro e v156 ⟨rfl, bb⟩
  have HKv156 := Lib.hid (below_join HKv155.out bb HKv155.out.size)
  clear bb
  go_wp2_with (fail)
  go_at_call 8
  refine (HLV.out v156).mono ?_
  rintro e v157 ⟨rfl, bb⟩
  have HKv157 := Lib.hid (below_join HKv156.out bb HKv156.out.size)
  clear bb
  go_wp2_with (fail)
  go_ret
  exact ⟨rfl, below_join HB.out HKv157.out hle⟩
theorem row_CoolingTimes (w : World) (p : SP) (s : SiteD) (hs : SiAt w p s) (A : Option Addr) (c : Nat) (xs : List (Svc × SvA)) (hx : WiAt w A c xs) (q : WP) (d : WorldD) (hd : WoAt w q d) (k st n lim : Int) :
    Calls Tryz.prog 5 #[siV p s, .agg #[.slice A xs.length c], .agg #[.slice q.a1 d.hosts.length q.c1, .slice q.a2 d.reps.length q.c2], .int .i64 k, .int .i64 st, .int .i64 n, .int .i64 lim] w fun e w' => e = .returned (.bool true) ∧ Below w.heap.size w w' := w_CoolingTimes ⟨p, s, A, c, xs, q, d⟩ w ⟨hs, hx, hd⟩ k st n lim
end Go.Proofs.YtpokpgnclohiiaaGreat
