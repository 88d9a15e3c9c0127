/-
  The law CoolingCourses (written by gen/cool_L.py).
-/
import Derived.Test.YtpokpgnclohiiaaGreatPO2
import Derived.Test.YtpokpgnclohiiaaGreatPB5
set_option linter.unusedVariables false
set_option linter.unusedSimpArgs false
namespace Go.Proofs.YtpokpgnclohiiaaGreat
open Go.RowKit
set_option maxRecDepth 100000
set_option linter.unusedVariables false
set_option linter.unusedSimpArgs false

theorem sl_rw {w : World} {V : Value} {l : List Int} (h : v6.IntSl w V l) : ∃ A c, V = .slice A l.length c ∧ Rw 1 inF w A c l := by
  obtain ⟨A, c, h1, h2, h3, -, h5⟩ := h
  refine ⟨A, c, h1, h2, h3, fun h0 => ?_⟩
  obtain ⟨b, o, e, hb, hc⟩ := h5 h0
  exact ⟨b, o, e, hb, fun j x hj i hi => by obtain rfl : i = 0 := by omega
                                            rw [show o + j * 1 + 0 = o + j by omega]; exact hc j x hj⟩
set_option maxHeartbeats 32000000 in
theorem row_CoolingCourses (w : World) (p : SP) (s : SiteD) (hs : SiAt w p s) (k st : Int) (V : Value) (hts : List Int) (hV : v6.IntSl w V hts) (n : Int) :
    Calls Tryz.prog 4 #[siV p s, .int .i64 k, .int .i64 st, V, .int .i64 n] w fun e w' => e = .returned (.bool true) ∧ Below w.heap.size w w' := by
  unfold siV
  obtain ⟨A, c, rfl, hc1, hc2⟩ := hV.shape
  unfold maxLen at hc2
  have HLV := Lib.hid (fun (X : World) => c_live X)
  obtain ⟨W, h1⟩ : ∃ W, W = w.alloc (.cells #[.slice p.a1 s.feeds.length p.c1, .slice p.a2 s.brks.length p.c2, .slice p.a3 s.loops.length p.c3, .slice p.a4 s.racks.length p.c4, .int .i64 s.sw, .slice p.a5 s.links.length p.c5, .slice p.a6 s.hosts.length p.c6] 29) := ⟨_, rfl⟩
  have B1 : Below w.heap.size w W := by rw [h1]; exact (Below.refl _ _).alloc (Nat.le_refl _) _
  have X1 : SiBox W w.heap.size p s := by rw [h1]; exact siBox_new _ _ _
  have HB := Lib.hid B1
  have HA := Lib.hid (fun (X : World) (hX : Below W.heap.size W X) => (hs.on B1 (Nat.le_refl _)).on hX (Nat.le_refl _))
  have HVV := Lib.hid (fun (X : World) (hX : Below W.heap.size W X) => (hV.on B1 (Nat.le_refl _)).on hX (Nat.le_refl _))
  have HF := Lib.hid (fun (X : World) (hX : Below W.heap.size W X) => (let z := X1.on hX (Nat.le_refl _); ⟨z.c0, z.c1, z.c2, z.c3, z.c4, z.c5, z.c6⟩ : X.cell? ⟨w.heap.size, 0, none⟩ = some (.slice p.a1 s.feeds.length p.c1) ∧ X.cell? ⟨w.heap.size, 1, none⟩ = some (.slice p.a2 s.brks.length p.c2) ∧ X.cell? ⟨w.heap.size, 2, none⟩ = some (.slice p.a3 s.loops.length p.c3) ∧ X.cell? ⟨w.heap.size, 3, none⟩ = some (.slice p.a4 s.racks.length p.c4) ∧ X.cell? ⟨w.heap.size, 4, none⟩ = some (.int .i64 s.sw) ∧ X.cell? ⟨w.heap.size, 5, none⟩ = some (.slice p.a5 s.links.length p.c5) ∧ X.cell? ⟨w.heap.size, 6, none⟩ = some (.slice p.a6 s.hosts.length p.c6)))
  have HKW := Lib.hid (Below.refl W.heap.size W)
  have hle := HB.out.size
  obtain ⟨r, hr⟩ := bool_of (FewS s)
  have HR := Lib.hid hr
  obtain ⟨er, her⟩ : ∃ t, coE s k st hts n = t := ⟨_, rfl⟩
  have HER := Lib.hid her
  obtain ⟨cs, hcs⟩ : ∃ t, coL s k st hts n = t := ⟨_, rfl⟩
  have HCS := Lib.hid hcs
  clear B1 X1 hs hV hr her hcs
  obtain ⟨f0, f1, f2, f3, f4, f5, f6⟩ := HF.out W HKW.out
  rw [h1] at f0 f1 f2 f3 f4 f5 f6
  generalize hBB : w.heap.size = B at *
  go_enter Tryz.func4, Tryz.ntmps4
  go_wp2_with (fail)
  rw [← h1]
  clear h1 f0 f1 f2 f3 f4 f5 f6
  go_at_call 7
  refine (c_fewS p s r HR.out W (HA.out W HKW.out)).mono ?_
  rintro e v1 ⟨rfl, bb⟩
  have HKv1 := Lib.hid (below_join HKW.out bb HKW.out.size)
  clear bb
  cases r
  · skip
    go_wp2_with (fail)
    go_at_call 8
    refine (HLV.out v1).mono ?_
    rintro e v102 ⟨rfl, bb⟩
    have HKv102 := Lib.hid (below_join HKv1.out bb HKv1.out.size)
    clear bb
    go_wp2_with (fail)
    go_ret
    exact ⟨rfl, below_join HB.out HKv102.out hle⟩
  rcases hl : decide (100 < (hts.length : Int)) with _ | _
  rotate_left
  · skip
    go_wp2_with (fail)
    go_at_call 8
    refine (HLV.out v1).mono ?_
    rintro e v253 ⟨rfl, bb⟩
    have HKv253 := Lib.hid (below_join HKv1.out bb HKv1.out.size)
    clear bb
    go_wp2_with (fail)
    go_ret
    exact ⟨rfl, below_join HB.out HKv253.out hle⟩
  rcases hn : decide (100 < n) with _ | _
  · skip
    obtain ⟨f0, f1, f2, f3, f4, f5, f6⟩ := HF.out v1 HKv1.out
    go_wp2_with (fail)
    clear f0 f1 f2 f3 f4 f5 f6
    go_at_call 13
    refine (c_coCourse p s k st hts _ n v1 (HA.out v1 HKv1.out) (HVV.out v1 HKv1.out) er HER.out cs HCS.out).mono ?_
    rintro e v404 ⟨y1, rfl, hy1, bb⟩
    have HKv404 := Lib.hid (below_join HKv1.out bb HKv1.out.size)
    have Y1v404 := Lib.hid hy1; clear hy1
    clear bb
    obtain ⟨f0, f1, f2, f3, f4, f5, f6⟩ := HF.out v404 HKv404.out
    go_wp2_with (fail)
    clear f0 f1 f2 f3 f4 f5 f6
    go_at_call 14
    refine (d_crCourse p s k st hts _ n v404 (HA.out v404 HKv404.out) (HVV.out v404 HKv404.out) er HER.out cs HCS.out).mono ?_
    rintro e v405 ⟨y2, rfl, hy2, bb⟩
    have HKv405 := Lib.hid (below_join HKv404.out bb HKv404.out.size)
    have Y1v405 := Lib.hid (Y1v404.out.on bb (Nat.le_refl _))
    have Y2v405 := Lib.hid hy2; clear hy2
    clear bb
    obtain ⟨P1, q1, rfl, hp1⟩ := sl_rw Y1v405.out
    obtain ⟨P2, q2, rfl, hp2⟩ := sl_rw Y2v405.out
    have HP1 := Lib.hid hp1
    have HP2 := Lib.hid hp2
    clear hp1 hp2
    go_wp2_with (fail)
    go_at_call 15
    refine (c_Ints P1 P2 q1 q2 cs cs v405 HP1.out HP2.out true (decide_eq_true rfl)).mono ?_
    rintro e v406 ⟨rfl, bb⟩
    have HKv406 := Lib.hid (below_join HKv405.out bb HKv405.out.size)
    clear bb
    go_wp2_with (fail)
    go_at_call 8
    refine (HLV.out v406).mono ?_
    rintro e v407 ⟨rfl, bb⟩
    have HKv407 := Lib.hid (below_join HKv406.out bb HKv406.out.size)
    clear bb
    go_wp2_with (fail)
    go_ret
    exact ⟨rfl, below_join HB.out HKv407.out hle⟩
  rcases hm : decide (n ≤ 1000) with _ | _
  · skip
    obtain ⟨f0, f1, f2, f3, f4, f5, f6⟩ := HF.out v1 HKv1.out
    go_wp2_with (fail)
    clear f0 f1 f2 f3 f4 f5 f6
    go_at_call 13
    refine (c_coCourse p s k st hts _ n v1 (HA.out v1 HKv1.out) (HVV.out v1 HKv1.out) er HER.out cs HCS.out).mono ?_
    rintro e v558 ⟨y1, rfl, hy1, bb⟩
    have HKv558 := Lib.hid (below_join HKv1.out bb HKv1.out.size)
    have Y1v558 := Lib.hid hy1; clear hy1
    clear bb
    obtain ⟨f0, f1, f2, f3, f4, f5, f6⟩ := HF.out v558 HKv558.out
    go_wp2_with (fail)
    clear f0 f1 f2 f3 f4 f5 f6
    go_at_call 14
    refine (d_crCourse p s k st hts _ n v558 (HA.out v558 HKv558.out) (HVV.out v558 HKv558.out) er HER.out cs HCS.out).mono ?_
    rintro e v559 ⟨y2, rfl, hy2, bb⟩
    have HKv559 := Lib.hid (below_join HKv558.out bb HKv558.out.size)
    have Y1v559 := Lib.hid (Y1v558.out.on bb (Nat.le_refl _))
    have Y2v559 := Lib.hid hy2; clear hy2
    clear bb
    obtain ⟨P1, q1, rfl, hp1⟩ := sl_rw Y1v559.out
    obtain ⟨P2, q2, rfl, hp2⟩ := sl_rw Y2v559.out
    have HP1 := Lib.hid hp1
    have HP2 := Lib.hid hp2
    clear hp1 hp2
    go_wp2_with (fail)
    go_at_call 15
    refine (c_Ints P1 P2 q1 q2 cs cs v559 HP1.out HP2.out true (decide_eq_true rfl)).mono ?_
    rintro e v560 ⟨rfl, bb⟩
    have HKv560 := Lib.hid (below_join HKv559.out bb HKv559.out.size)
    clear bb
    go_wp2_with (fail)
    go_at_call 8
    refine (HLV.out v560).mono ?_
    rintro e v561 ⟨rfl, bb⟩
    have HKv561 := Lib.hid (below_join HKv560.out bb HKv560.out.size)
    clear bb
    go_wp2_with (fail)
    go_ret
    exact ⟨rfl, below_join HB.out HKv561.out hle⟩
  · skip
    go_wp2_with (fail)
    go_at_call 8
    refine (HLV.out v1).mono ?_
    rintro e v712 ⟨rfl, bb⟩
    have HKv712 := Lib.hid (below_join HKv1.out bb HKv1.out.size)
    clear bb
    go_wp2_with (fail)
    go_ret
    exact ⟨rfl, below_join HB.out HKv712.out hle⟩
end Go.Proofs.YtpokpgnclohiiaaGreat
