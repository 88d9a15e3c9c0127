/-
  DERIVED. Several texts in one.
-/
import Derived.Test.YtpokpgnclohiiaaGreatPO1
import Derived.Test.YtpokpgnclohiiaaGreatPB5
import Derived.Test.YtpokpgnclohiiaaGreatPV61
set_option linter.unusedVariables false
set_option linter.unusedSimpArgs false

namespace Go.Proofs.YtpokpgnclohiiaaGreat
open Go.RowKit
set_option maxRecDepth 100000
set_option linter.unusedVariables false
set_option linter.unusedSimpArgs false

theorem rk_loop {z : Sn} {w : World} (h : SnAt w z) {i : Nat} {x : Rk} (hx : z.s.racks[i]? = some x) : ∃ b o, z.p.a4 = some ⟨b, o, none⟩ ∧ b < w.heap.size ∧ w.cell? ⟨b, o + i * 4 + 2, none⟩ = some (.int .i64 x.loop) := by
  obtain ⟨b, o, e, hb, hc⟩ := h.si.racks.at_ hx
  exact ⟨b, o, e, hb, hc 2 (by omega)⟩
theorem soFar_step {z : Sn} {b : Nat → Bool} {k : Nat} (h : b k = true) : soFar z b (k + 1) = soFar z b k + watN z.s z.ss z.d k := by unfold soFar; rw [sumN, if_pos h]
theorem heat_true (z : Sn) (k : Int) : heatV z true k = soFar z (isLoop z.s k) z.s.hosts.length := rfl
theorem wt_is {z : Sn} {k : Nat} (hk : k < z.s.hosts.length) : pwV z true (isHost (k : Int)) = watN z.s z.ss z.d k := by
  show loadN z.s z.ss z.d _ = _
  rw [load_host, if_pos (by omega), Int.toNat_natCast]
set_option maxHeartbeats 16000000 in
theorem d_crHeat (z : Sn) (r0 : Bool) (hr0 : r0 = true ↔ z.Ok) (k : Int) (w : World) (hz : SnAt w z) (v : Int) (hv : heatV z r0 k = v) :
    Calls Tryz.prog 12 #[.agg #[.slice z.p.a1 z.s.feeds.length z.p.c1, .slice z.p.a2 z.s.brks.length z.p.c2, .slice z.p.a3 z.s.loops.length z.p.c3, .slice z.p.a4 z.s.racks.length z.p.c4, .int .i64 z.s.sw, .slice z.p.a5 z.s.links.length z.p.c5, .slice z.p.a6 z.s.hosts.length z.p.c6], .agg #[.slice z.A z.xs.length z.c], .agg #[.slice z.q.a1 z.d.hosts.length z.q.c1, .slice z.q.a2 z.d.reps.length z.q.c2], .int .i64 k] w fun e w' => e = .returned (.int .i64 v) ∧ Below w.heap.size w w' := by
  obtain ⟨W1, h1⟩ : ∃ W, W = w.alloc (.cells #[.slice z.p.a1 z.s.feeds.length z.p.c1, .slice z.p.a2 z.s.brks.length z.p.c2, .slice z.p.a3 z.s.loops.length z.p.c3, .slice z.p.a4 z.s.racks.length z.p.c4, .int .i64 z.s.sw, .slice z.p.a5 z.s.links.length z.p.c5, .slice z.p.a6 z.s.hosts.length z.p.c6] 29) := ⟨_, rfl⟩
  obtain ⟨W2, h2⟩ : ∃ W, W = W1.alloc (.cells #[.slice z.A z.xs.length z.c] 32) := ⟨_, rfl⟩
  obtain ⟨W, h3⟩ : ∃ W, W = W2.alloc (.cells #[.slice z.q.a1 z.d.hosts.length z.q.c1, .slice z.q.a2 z.d.reps.length z.q.c2] 36) := ⟨_, rfl⟩
  obtain ⟨B0, X1⟩ := sn_boxes h1 h2 h3
  have z3 : W.heap.size = w.heap.size + 1 + 1 + 1 := sn_size h1 h2 h3
  have HB := Lib.hid B0
  have Z0 := hz.on B0 (Nat.le_refl _)
  have HZ := Lib.hid (fun (X : World) (hX : Below W.heap.size W X) => Z0.on hX (Nat.le_refl _))
  have HF := Lib.hid (fun (X : World) (hX : Below W.heap.size W X) => ((X1.on hX (Nat.le_refl _)).cells : X.cell? ⟨w.heap.size, 0, none⟩ = some (.slice z.p.a1 z.s.feeds.length z.p.c1) ∧ X.cell? ⟨w.heap.size, 1, none⟩ = some (.slice z.p.a2 z.s.brks.length z.p.c2) ∧ X.cell? ⟨w.heap.size, 2, none⟩ = some (.slice z.p.a3 z.s.loops.length z.p.c3) ∧ X.cell? ⟨w.heap.size, 3, none⟩ = some (.slice z.p.a4 z.s.racks.length z.p.c4) ∧ X.cell? ⟨w.heap.size, 4, none⟩ = some (.int .i64 z.s.sw) ∧ X.cell? ⟨w.heap.size, 5, none⟩ = some (.slice z.p.a5 z.s.links.length z.p.c5) ∧ X.cell? ⟨w.heap.size, 6, none⟩ = some (.slice z.p.a6 z.s.hosts.length z.p.c6) ∧ X.cell? ⟨w.heap.size + 1, 0, none⟩ = some (.slice z.A z.xs.length z.c) ∧ X.cell? ⟨w.heap.size + 1 + 1, 0, none⟩ = some (.slice z.q.a1 z.d.hosts.length z.q.c1) ∧ X.cell? ⟨w.heap.size + 1 + 1, 1, none⟩ = some (.slice z.q.a2 z.d.reps.length z.q.c2)))
  have HX := Lib.hid (fun (X : World) (hX : Below W.heap.size W X) => X1.on hX (Nat.le_refl _))
  have HKW := Lib.hid (Below.refl W.heap.size W)
  have hle := HB.out.size
  obtain ⟨n1, n2, n3, n4, n5, n6, n7, n8⟩ := hz.bounds
  have HVV := Lib.hid (fun (X : World) (hX : SnAt X z) => c_wvTo z r0 hr0 X hX)
  have HCW := Lib.hid (fun (i : Int) (v : Int) (hv : pwV z r0 (isHost i) = v) (X : World) (hX : SnAt X z) => d_Watts z r0 hr0 i X hX v hv)
  have HV := Lib.hid hv
  have HR0 := Lib.hid hr0
  clear hr0 hv
  clear hz B0 X1 z3 Z0
  generalize hA6 : z.p.a6 = A6 at *
  have HA6 := Lib.hid hA6
  clear hA6
  generalize hA4 : z.p.a4 = A4 at *
  have HA4 := Lib.hid hA4
  clear hA4
  obtain ⟨f0, f1, f2, f3, f4, f5, f6, g0, g1, g2⟩ := HF.out W HKW.out
  rw [h3, h2, h1] at f0 f1 f2 f3 f4 f5 f6 g0 g1 g2
  generalize hBB : w.heap.size = B at *
  go_enter Tryz.func12, Tryz.ntmps12
  go_wp2_with (fail)
  rw [← h1, ← h2, ← h3]
  clear h1 h2 h3 f0 f1 f2 f3 f4 f5 f6 g0 g1 g2
  cases r0
  · have HVE := Lib.hid (show (0 : Int) = v from HV.out)
    go_loopw [9, 10] (fun sm i wr => sm = .int .i64 0 ∧ i = .int .i64 0 ∧ Hid (Below W.heap.size W wr)) (fun _ i _ => z.s.hosts.length - (intOf i).toNat)
    case atStart => exact ⟨rfl, rfl, HKW⟩
    case round =>
      obtain ⟨rfl, rfl, hK⟩ := hrel
      obtain ⟨f0, f1, f2, f3, f4, f5, f6, g0, g1, g2⟩ := HF.out wr hK.out
      by_cases hlt : 0 < z.s.hosts.length
      · have hlt2 : (0 : Int) < (z.s.hosts.length : Int) := by omega
        go_wp2_with (fail)
        clear f0 f1 f2 f3 f4 f5 f6 g0 g1 g2
        go_at_call 20
        refine (HVV.out wr (HZ.out wr hK.out)).mono ?_
        rintro e v1 ⟨rfl, bb⟩
        have HKv1 := Lib.hid (below_join hK.out bb hK.out.size)
        clear bb
        go_wp2_with (fail)
        go_ret
        exact ⟨(show Ending.returned (.int .i64 0) = .returned (.int .i64 v) by rw [HVE.out]), below_join HB.out HKv1.out hle⟩
      · have hlt2 : ¬ (0 : Int) < (z.s.hosts.length : Int) := by omega
        go_wp2_with (fail)
        go_ret
        exact ⟨(show Ending.returned (.int .i64 0) = .returned (.int .i64 v) by rw [HVE.out]), below_join HB.out hK.out hle⟩
  have HOK := Lib.hid (HR0.out.1 (by trivial))
  obtain ⟨pd, hpd⟩ : ∃ f, f = isLoop z.s k := ⟨_, rfl⟩
  have HPD := Lib.hid hpd
  have HVE := Lib.hid (show soFar z pd z.s.hosts.length = v by rw [hpd, ← heat_true]; exact HV.out)
  have hd16 := (siteOk_iff.1 HOK.out.1).nhosts.2
  clear hpd
  go_loopw [9, 10] (fun sm i wr => ∃ j : Nat, j ≤ z.s.hosts.length ∧ sm = .int .i64 (soFar z pd j) ∧ i = .int .i64 (j : Int) ∧ Hid (Below W.heap.size W wr)) (fun _ i _ => z.s.hosts.length - (intOf i).toNat)
  case atStart => exact ⟨0, Nat.zero_le _, rfl, rfl, HKW⟩
  case round =>
    obtain ⟨j, hj, rfl, rfl, hK⟩ := hrel
    have hji : ((j : Nat) : Int).toNat = j := by omega
    obtain ⟨S, hS⟩ : ∃ S, soFar z pd j = S := ⟨_, rfl⟩
    have HS := Lib.hid hS
    have bS := soFar_bd HOK.out pd hj
    rw [hS] at bS
    rw [hS]
    clear hS
    obtain ⟨f0, f1, f2, f3, f4, f5, f6, g0, g1, g2⟩ := HF.out wr hK.out
    by_cases hlt : j < z.s.hosts.length
    · have hlt2 : (j : Int) < (z.s.hosts.length : Int) := by omega
      obtain ⟨x, y, hx, hy, hra, -, -⟩ := host_ok HOK.out hlt
      have hk := rk_in HOK.out hlt
      have hrk : rackAt z.s j = x.rack := by unfold rackAt; rw [hx]; rfl
      rw [hrk] at hk
      obtain ⟨m, hm⟩ : ∃ m : Nat, x.rack = m := ⟨x.rack.toNat, by omega⟩
      rw [hm, Int.toNat_natCast] at hk
      have hml : m < z.s.racks.length := (List.getElem?_eq_some_iff.1 hk).1
      have hml2 : (m : Int) < (z.s.racks.length : Int) := by omega
      obtain ⟨lp, hlp⟩ : ∃ t, (rkAt z.s j).loop = t := ⟨_, rfl⟩
      have HXX := Lib.hid hx
      have HKK := Lib.hid hk
      have HM := Lib.hid hm
      have HLP := Lib.hid hlp
      have HRW := Lib.hid (fun (X : World) (hX : Below W.heap.size W X) => (⟨hs_at (HZ.out X hX) hx, rk_loop (HZ.out X hX) hk⟩ : _ ∧ _))
      clear hx hy hrk hk hm hlp hra
      go_wp2_with (fail)
      clear f0 f1 f2 f3 f4 f5 f6 g0 g1 g2
      go_at_call 20
      refine (HVV.out wr (HZ.out wr hK.out)).mono ?_
      rintro e v1 ⟨rfl, bb⟩
      have HKv1 := Lib.hid (below_join hK.out bb hK.out.size)
      clear bb
      obtain ⟨f0, f1, f2, f3, f4, f5, f6, g0, g1, g2⟩ := HF.out v1 HKv1.out
      obtain ⟨⟨pb, po, e6, hpb, y0, -, -, -⟩, ⟨kb, ko, e4, hkb, y1⟩⟩ := HRW.out v1 HKv1.out
      rw [HM.out] at y0
      rw [HLP.out] at y1
      rw [HA6.out] at e6
      subst e6
      rw [HA4.out] at e4
      subst e4
      rcases hp : (lp == k) with _ | _
      · have HN := Lib.hid (show soFar z pd (j + 1) = S by
          rw [soFar_no (by rw [HPD.out]; unfold isLoop; rw [HLP.out, hp]), HS.out])
        go_wp2_with (fail)
        go_quiet (fail)
        go_wp2_with (fail)
        go_roundw
        case rel => exact ⟨j + 1, by omega, by rw [HN.out], by go_num, Lib.hid (below_drewN HKv1.out)⟩
        case measure => simp only [intOf]; omega
      · obtain ⟨wt, hwt⟩ : ∃ t, watN z.s z.ss z.d j = t := ⟨_, rfl⟩
        have HY := Lib.hid (show soFar z pd (j + 1) = S + wt by
          rw [soFar_step (by rw [HPD.out]; unfold isLoop; rw [HLP.out, hp]), HS.out, hwt])
        have HWT := Lib.hid (show pwV z true (isHost (j : Int)) = wt by rw [wt_is hlt, hwt])
        have bwt := wat_bd HOK.out hlt
        rw [show watN z.s (Sn.ss z) z.d j = wt from hwt] at bwt
        clear hwt
        go_wp2_with (fail)
        go_quiet (fail)
        go_wp2_with (fail)
        go_at_call 29
        refine (HCW.out (j : Int) wt HWT.out _ (HZ.out _ (below_drewN HKv1.out))).mono ?_
        rintro e v2 ⟨rfl, bb⟩
        have HKv2 := Lib.hid (below_join (below_drewN HKv1.out) bb HKv1.out.size)
        clear bb
        go_wp2_with (fail)
        go_roundw
        case rel => exact ⟨j + 1, by omega, by rw [HY.out], by go_num, HKv2⟩
        case measure => simp only [intOf]; omega
    · obtain rfl : j = z.s.hosts.length := by omega
      have HVS := Lib.hid (show S = v by rw [← HVE.out, HS.out])
      go_wp2_with (fail)
      go_ret
      exact ⟨(show Ending.returned (.int .i64 S) = .returned (.int .i64 v) by rw [HVS.out]), below_join HB.out hK.out hle⟩
set_option maxHeartbeats 16000000 in
theorem d_crAfter (z : Sn) (r0 : Bool) (hr0 : r0 = true ↔ z.Ok) (k start n : Int) (w : World) (hz : SnAt w z) (heat : Int) (hh : heatV z r0 k = heat) (r : Int) (hr : hdE r0 z.s k start n = r) (a : Int) (ha : afV r0 heat z.s k start n = a) :
    Calls Tryz.prog 17 #[.agg #[.slice z.p.a1 z.s.feeds.length z.p.c1, .slice z.p.a2 z.s.brks.length z.p.c2, .slice z.p.a3 z.s.loops.length z.p.c3, .slice z.p.a4 z.s.racks.length z.p.c4, .int .i64 z.s.sw, .slice z.p.a5 z.s.links.length z.p.c5, .slice z.p.a6 z.s.hosts.length z.p.c6], .agg #[.slice z.A z.xs.length z.c], .agg #[.slice z.q.a1 z.d.hosts.length z.q.c1, .slice z.q.a2 z.d.reps.length z.q.c2], .int .i64 k, .int .i64 start, .int .i64 n] w fun e w' => e = .returned (.tuple #[.int .i64 a, .int .i64 r]) ∧ Below w.heap.size w w' := by
  obtain ⟨W1, h1⟩ : ∃ W, W = w.alloc (.cells #[.slice z.p.a1 z.s.feeds.length z.p.c1, .slice z.p.a2 z.s.brks.length z.p.c2, .slice z.p.a3 z.s.loops.length z.p.c3, .slice z.p.a4 z.s.racks.length z.p.c4, .int .i64 z.s.sw, .slice z.p.a5 z.s.links.length z.p.c5, .slice z.p.a6 z.s.hosts.length z.p.c6] 29) := ⟨_, rfl⟩
  obtain ⟨W2, h2⟩ : ∃ W, W = W1.alloc (.cells #[.slice z.A z.xs.length z.c] 32) := ⟨_, rfl⟩
  obtain ⟨W, h3⟩ : ∃ W, W = W2.alloc (.cells #[.slice z.q.a1 z.d.hosts.length z.q.c1, .slice z.q.a2 z.d.reps.length z.q.c2] 36) := ⟨_, rfl⟩
  obtain ⟨B0, X1⟩ := sn_boxes h1 h2 h3
  have z3 : W.heap.size = w.heap.size + 1 + 1 + 1 := sn_size h1 h2 h3
  have HB := Lib.hid B0
  have Z0 := hz.on B0 (Nat.le_refl _)
  have HZ := Lib.hid (fun (X : World) (hX : Below W.heap.size W X) => Z0.on hX (Nat.le_refl _))
  have HF := Lib.hid (fun (X : World) (hX : Below W.heap.size W X) => ((X1.on hX (Nat.le_refl _)).cells : X.cell? ⟨w.heap.size, 0, none⟩ = some (.slice z.p.a1 z.s.feeds.length z.p.c1) ∧ X.cell? ⟨w.heap.size, 1, none⟩ = some (.slice z.p.a2 z.s.brks.length z.p.c2) ∧ X.cell? ⟨w.heap.size, 2, none⟩ = some (.slice z.p.a3 z.s.loops.length z.p.c3) ∧ X.cell? ⟨w.heap.size, 3, none⟩ = some (.slice z.p.a4 z.s.racks.length z.p.c4) ∧ X.cell? ⟨w.heap.size, 4, none⟩ = some (.int .i64 z.s.sw) ∧ X.cell? ⟨w.heap.size, 5, none⟩ = some (.slice z.p.a5 z.s.links.length z.p.c5) ∧ X.cell? ⟨w.heap.size, 6, none⟩ = some (.slice z.p.a6 z.s.hosts.length z.p.c6) ∧ X.cell? ⟨w.heap.size + 1, 0, none⟩ = some (.slice z.A z.xs.length z.c) ∧ X.cell? ⟨w.heap.size + 1 + 1, 0, none⟩ = some (.slice z.q.a1 z.d.hosts.length z.q.c1) ∧ X.cell? ⟨w.heap.size + 1 + 1, 1, none⟩ = some (.slice z.q.a2 z.d.reps.length z.q.c2)))
  have HX := Lib.hid (fun (X : World) (hX : Below W.heap.size W X) => X1.on hX (Nat.le_refl _))
  have HKW := Lib.hid (Below.refl W.heap.size W)
  have hle := HB.out.size
  obtain ⟨n1, n2, n3, n4, n5, n6, n7, n8⟩ := hz.bounds
  have HVV := Lib.hid (fun (X : World) (hX : SnAt X z) => c_wvTo z r0 hr0 X hX)
  have HR0 := Lib.hid hr0
  have HCH := Lib.hid (fun (X : World) (hX : SnAt X z) => d_crHeat z r0 hr0 k X hX heat hh)
  have HCC := Lib.hid (fun (V : Value) (hs : List Int) (X : World) (hX : SnAt X z) (hV : v6.IntSl X V hs) (r2 : Int) (hr2 : coE z.s k start hs n = r2) (cs : List Int) (hcs : coL z.s k start hs n = cs) => d_crCourse z.p z.s k start hs V n X hX.si hV r2 hr2 cs hcs)
  have HHB := Lib.hid (show 0 ≤ heat ∧ heat ≤ 24160000 by rw [← hh]; exact heatV_bd hr0 k)
  have HR := Lib.hid hr
  have HA := Lib.hid ha
  clear hr0 hr ha hh
  clear hz B0 X1 z3 Z0
  obtain ⟨f0, f1, f2, f3, f4, f5, f6, g0, g1, g2⟩ := HF.out W HKW.out
  rw [h3, h2, h1] at f0 f1 f2 f3 f4 f5 f6 g0 g1 g2
  generalize hBB : w.heap.size = B at *
  go_enter Tryz.func17, Tryz.ntmps17
  go_wp2_with (fail)
  rw [← h1, ← h2, ← h3]
  clear h1 h2 h3 f0 f1 f2 f3 f4 f5 f6 g0 g1 g2
  go_at_call 20
  refine (HVV.out W (HZ.out W HKW.out)).mono ?_
  rintro e v1 ⟨rfl, bb⟩
  have HKv1 := Lib.hid (below_join HKW.out bb HKW.out.size)
  clear bb
  cases r0
  · skip
    have HE1 := Lib.hid (show hdE false z.s k start n = 1 by unfold hdE hdOk; rfl)
    have HR1 := Lib.hid (show r = 1 by rw [← HR.out, HE1.out])
    have HA1 := Lib.hid (show a = 0 by rw [← HA.out]; unfold afV; rw [hd_no HE1.out]; rfl)
    go_wp2_with (fail)
    go_ret2
    exact ⟨(show Ending.returned (.tuple #[.int .i64 0, .int .i64 1]) = .returned (.tuple #[.int .i64 a, .int .i64 r]) by rw [HR1.out, HA1.out]), below_join HB.out HKv1.out hle⟩
  have HOK := Lib.hid (HR0.out.1 (by trivial))
  have hll : z.s.loops.length ≤ 4 := (siteOk_iff.1 HOK.out.1).nloops.2
  have HNL := Lib.hid (show ¬ (0 ≤ k ∧ k < z.s.loops.length) → hdE true z.s k start n = 1 by
    intro h
    have h1 : lpE z.s k = 1 := by unfold lpE lpOk; rw [if_neg]; rw [Bool.and_eq_true, ixB_iff]; exact fun h2 => h h2.2
    unfold hdE; rw [h1]; split <;> rfl)
  obtain ⟨f0, f1, f2, f3, f4, f5, f6, g0, g1, g2⟩ := HF.out v1 HKv1.out
  rcases hc0 : decide (k < 0) with _ | _
  rotate_left
  · have hc0' := of_decide_eq_true hc0
    have HE1 := Lib.hid (show hdE true z.s k start n = 1 by exact HNL.out (by omega))
    have HR1 := Lib.hid (show r = 1 by rw [← HR.out, HE1.out])
    have HA1 := Lib.hid (show a = 0 by rw [← HA.out]; unfold afV; rw [hd_no HE1.out]; rfl)
    go_wp2_with (fail)
    go_ret2
    exact ⟨(show Ending.returned (.tuple #[.int .i64 0, .int .i64 1]) = .returned (.tuple #[.int .i64 a, .int .i64 r]) by rw [HR1.out, HA1.out]), below_join HB.out HKv1.out hle⟩
  have hc0' := of_decide_eq_false hc0
  rcases hc1 : decide ((z.s.loops.length : Int) ≤ k) with _ | _
  rotate_left
  · have hc1' := of_decide_eq_true hc1
    have HE1 := Lib.hid (show hdE true z.s k start n = 1 by exact HNL.out (by omega))
    have HR1 := Lib.hid (show r = 1 by rw [← HR.out, HE1.out])
    have HA1 := Lib.hid (show a = 0 by rw [← HA.out]; unfold afV; rw [hd_no HE1.out]; rfl)
    go_wp2_with (fail)
    go_ret2
    exact ⟨(show Ending.returned (.tuple #[.int .i64 0, .int .i64 1]) = .returned (.tuple #[.int .i64 a, .int .i64 r]) by rw [HR1.out, HA1.out]), below_join HB.out HKv1.out hle⟩
  have hc1' := of_decide_eq_false hc1
  rcases hc2 : decide (start < 0) with _ | _
  rotate_left
  · have hc2' := of_decide_eq_true hc2
    have HE1 := Lib.hid (show hdE true z.s k start n = 1 by unfold hdE; rw [if_neg]; rw [hdOk_iff]; omega)
    have HR1 := Lib.hid (show r = 1 by rw [← HR.out, HE1.out])
    have HA1 := Lib.hid (show a = 0 by rw [← HA.out]; unfold afV; rw [hd_no HE1.out]; rfl)
    go_wp2_with (fail)
    go_ret2
    exact ⟨(show Ending.returned (.tuple #[.int .i64 0, .int .i64 1]) = .returned (.tuple #[.int .i64 a, .int .i64 r]) by rw [HR1.out, HA1.out]), below_join HB.out HKv1.out hle⟩
  have hc2' := of_decide_eq_false hc2
  rcases hc3 : decide (1000000 < start) with _ | _
  rotate_left
  · have hc3' := of_decide_eq_true hc3
    have HE1 := Lib.hid (show hdE true z.s k start n = 1 by unfold hdE; rw [if_neg]; rw [hdOk_iff]; omega)
    have HR1 := Lib.hid (show r = 1 by rw [← HR.out, HE1.out])
    have HA1 := Lib.hid (show a = 0 by rw [← HA.out]; unfold afV; rw [hd_no HE1.out]; rfl)
    go_wp2_with (fail)
    go_ret2
    exact ⟨(show Ending.returned (.tuple #[.int .i64 0, .int .i64 1]) = .returned (.tuple #[.int .i64 a, .int .i64 r]) by rw [HR1.out, HA1.out]), below_join HB.out HKv1.out hle⟩
  have hc3' := of_decide_eq_false hc3
  rcases hc4 : decide (n < 0) with _ | _
  rotate_left
  · have hc4' := of_decide_eq_true hc4
    have HE1 := Lib.hid (show hdE true z.s k start n = 1 by unfold hdE; rw [if_neg]; rw [hdOk_iff]; omega)
    have HR1 := Lib.hid (show r = 1 by rw [← HR.out, HE1.out])
    have HA1 := Lib.hid (show a = 0 by rw [← HA.out]; unfold afV; rw [hd_no HE1.out]; rfl)
    go_wp2_with (fail)
    go_ret2
    exact ⟨(show Ending.returned (.tuple #[.int .i64 0, .int .i64 1]) = .returned (.tuple #[.int .i64 a, .int .i64 r]) by rw [HR1.out, HA1.out]), below_join HB.out HKv1.out hle⟩
  have hc4' := of_decide_eq_false hc4
  rcases hc5 : decide (1000 < n) with _ | _
  rotate_left
  · have hc5' := of_decide_eq_true hc5
    have HE1 := Lib.hid (show hdE true z.s k start n = 1 by unfold hdE; rw [if_neg]; rw [hdOk_iff]; omega)
    have HR1 := Lib.hid (show r = 1 by rw [← HR.out, HE1.out])
    have HA1 := Lib.hid (show a = 0 by rw [← HA.out]; unfold afV; rw [hd_no HE1.out]; rfl)
    go_wp2_with (fail)
    go_ret2
    exact ⟨(show Ending.returned (.tuple #[.int .i64 0, .int .i64 1]) = .returned (.tuple #[.int .i64 a, .int .i64 r]) by rw [HR1.out, HA1.out]), below_join HB.out HKv1.out hle⟩
  have hc5' := of_decide_eq_false hc5
  have hok : hdOk true z.s k start n = true := hdOk_iff.2 ⟨⟨rfl, by omega, by omega⟩, by omega, by omega⟩
  have hlo : lpOk z.s k = true := by unfold lpOk; rw [HOK.out.1, Bool.true_and]; exact ixB_iff.2 (by omega)
  have h0 : hdE true z.s k start n = 0 := hdE_zero.2 ⟨hok, hlo⟩
  have hrr : r = 0 := by rw [← HR.out, h0]
  have HCO := Lib.hid (hd_co (heat := heat) hok (by have := HHB.out; omega))
  obtain ⟨m, rfl⟩ : ∃ m : Nat, n = m := ⟨n.toNat, by omega⟩
  obtain ⟨l, hl⟩ : ∃ l, hdL true heat z.s k start (m : Int) = l := ⟨_, rfl⟩
  have HCR := Lib.hid (show coE z.s k start (List.replicate m heat) (m : Int) = 0 by have h := HCO.out.1; rw [Int.toNat_natCast] at h; rw [h, h0])
  have HCL := Lib.hid (show coL z.s k start (List.replicate m heat) (m : Int) = l by have h := HCO.out.2; rw [Int.toNat_natCast] at h; rw [h, hl])
  have hlen : l.length = m + 1 := by rw [← hl, hdL_len h0, Int.toNat_natCast]
  have HGA := Lib.hid (show l[m]? = some a by
    have h1 := HA.out; unfold afV at h1
    rw [hl, Int.toNat_natCast, List.getElem?_eq_getElem (by omega)] at h1
    rw [← h1, List.getElem?_eq_getElem (by omega)]; rfl)
  have hm : m ≤ 1000 := by omega
  have hmlt : (m : Int) < (l.length : Int) := by omega
  have HRR := Lib.hid hrr
  clear hok hlo h0 hl hrr hc0 hc1 hc2 hc3 hc4 hc5
  go_wp2_with (fail)
  clear f0 f1 f2 f3 f4 f5 f6 g0 g1 g2
  obtain ⟨f0, f1, f2, f3, f4, f5, f6, g0, g1, g2⟩ := HF.out v1 HKv1.out
  go_region_held3 (fun X => X.cell? ⟨B, 0, none⟩ = some (.slice z.p.a1 z.s.feeds.length z.p.c1) ∧ X.cell? ⟨B, 1, none⟩ = some (.slice z.p.a2 z.s.brks.length z.p.c2) ∧ X.cell? ⟨B, 2, none⟩ = some (.slice z.p.a3 z.s.loops.length z.p.c3) ∧ X.cell? ⟨B, 3, none⟩ = some (.slice z.p.a4 z.s.racks.length z.p.c4) ∧ X.cell? ⟨B, 4, none⟩ = some (.int .i64 z.s.sw) ∧ X.cell? ⟨B, 5, none⟩ = some (.slice z.p.a5 z.s.links.length z.p.c5) ∧ X.cell? ⟨B, 6, none⟩ = some (.slice z.p.a6 z.s.hosts.length z.p.c6) ∧ X.cell? ⟨B + 1, 0, none⟩ = some (.slice z.A z.xs.length z.c) ∧ X.cell? ⟨B + 1 + 1, 0, none⟩ = some (.slice z.q.a1 z.d.hosts.length z.q.c1) ∧ X.cell? ⟨B + 1 + 1, 1, none⟩ = some (.slice z.q.a2 z.d.reps.length z.q.c2))
    (first | exact HF.out v4 HK4.out | exact HF.out v3 HK3.out | exact HF.out v2 HK2.out | exact HF.out v1 HKv1.out | fail)
    (first
      | (go_at_call 12; (with_reducible refine (HCH.out v1.drew (HZ.out v1.drew HKv1.out.drew)).mono ?_); rintro e v2 ⟨rfl, bb0⟩; have HK2 := Lib.hid (below_join HKv1.out.drew bb0 HKv1.out.size); clear bb0)
      | (go_at_call 33; (with_reducible refine (d_constant heat m hm v2).mono ?_); rintro e v3 ⟨V, rfl, hV, bb0⟩; have HK3 := Lib.hid (below_join HK2.out bb0 HK2.out.size); have HIS := Lib.hid (v6.own_intSl hV); clear hV bb0)
      | (go_at_call 14; (with_reducible refine (HCC.out V (List.replicate m heat) v3 (HZ.out v3 HK3.out) HIS.out 0 HCR.out l HCL.out).mono ?_); rintro e v4 ⟨y, rfl, hy, bb0⟩; have HK4 := Lib.hid (below_join HK3.out bb0 HK3.out.size); have HY := Lib.hid hy; clear hy bb0)
      | fail)
  obtain ⟨pb, po, pc, rfl, hpb, -, -, x0⟩ := HY.out.at_ HGA.out
  clear f0 f1 f2 f3 f4 f5 f6 g0 g1 g2
  go_wp2_with (fail)
  go_ret2
  exact ⟨(show Ending.returned (.tuple #[.int .i64 a, .int .i64 0]) = .returned (.tuple #[.int .i64 a, .int .i64 r]) by rw [HRR.out]), below_join HB.out HK4.out hle⟩
theorem hdE_more (r0 : Bool) (s : SiteD) (k start : Int) : hdE r0 s k start 0 = hdE r0 s k start 1000 := by
  unfold hdE hdOk
  rfl
set_option maxHeartbeats 16000000 in
theorem d_crLongest (z : Sn) (r0 : Bool) (hr0 : r0 = true ↔ z.Ok) (k start lim : Int) (w : World) (hz : SnAt w z) (heat : Int) (hh : heatV z r0 k = heat) (r : Int) (hr : lonE r0 z.s k start lim = r) (a : Int) (ha : lonV r0 heat z.s k start lim = a) :
    Calls Tryz.prog 19 #[.agg #[.slice z.p.a1 z.s.feeds.length z.p.c1, .slice z.p.a2 z.s.brks.length z.p.c2, .slice z.p.a3 z.s.loops.length z.p.c3, .slice z.p.a4 z.s.racks.length z.p.c4, .int .i64 z.s.sw, .slice z.p.a5 z.s.links.length z.p.c5, .slice z.p.a6 z.s.hosts.length z.p.c6], .agg #[.slice z.A z.xs.length z.c], .agg #[.slice z.q.a1 z.d.hosts.length z.q.c1, .slice z.q.a2 z.d.reps.length z.q.c2], .int .i64 k, .int .i64 start, .int .i64 lim] w fun e w' => e = .returned (.tuple #[.int .i64 a, .int .i64 r]) ∧ Below w.heap.size w w' := by
  obtain ⟨W1, h1⟩ : ∃ W, W = w.alloc (.cells #[.slice z.p.a1 z.s.feeds.length z.p.c1, .slice z.p.a2 z.s.brks.length z.p.c2, .slice z.p.a3 z.s.loops.length z.p.c3, .slice z.p.a4 z.s.racks.length z.p.c4, .int .i64 z.s.sw, .slice z.p.a5 z.s.links.length z.p.c5, .slice z.p.a6 z.s.hosts.length z.p.c6] 29) := ⟨_, rfl⟩
  obtain ⟨W2, h2⟩ : ∃ W, W = W1.alloc (.cells #[.slice z.A z.xs.length z.c] 32) := ⟨_, rfl⟩
  obtain ⟨W, h3⟩ : ∃ W, W = W2.alloc (.cells #[.slice z.q.a1 z.d.hosts.length z.q.c1, .slice z.q.a2 z.d.reps.length z.q.c2] 36) := ⟨_, rfl⟩
  obtain ⟨B0, X1⟩ := sn_boxes h1 h2 h3
  have z3 : W.heap.size = w.heap.size + 1 + 1 + 1 := sn_size h1 h2 h3
  have HB := Lib.hid B0
  have Z0 := hz.on B0 (Nat.le_refl _)
  have HZ := Lib.hid (fun (X : World) (hX : Below W.heap.size W X) => Z0.on hX (Nat.le_refl _))
  have HF := Lib.hid (fun (X : World) (hX : Below W.heap.size W X) => ((X1.on hX (Nat.le_refl _)).cells : X.cell? ⟨w.heap.size, 0, none⟩ = some (.slice z.p.a1 z.s.feeds.length z.p.c1) ∧ X.cell? ⟨w.heap.size, 1, none⟩ = some (.slice z.p.a2 z.s.brks.length z.p.c2) ∧ X.cell? ⟨w.heap.size, 2, none⟩ = some (.slice z.p.a3 z.s.loops.length z.p.c3) ∧ X.cell? ⟨w.heap.size, 3, none⟩ = some (.slice z.p.a4 z.s.racks.length z.p.c4) ∧ X.cell? ⟨w.heap.size, 4, none⟩ = some (.int .i64 z.s.sw) ∧ X.cell? ⟨w.heap.size, 5, none⟩ = some (.slice z.p.a5 z.s.links.length z.p.c5) ∧ X.cell? ⟨w.heap.size, 6, none⟩ = some (.slice z.p.a6 z.s.hosts.length z.p.c6) ∧ X.cell? ⟨w.heap.size + 1, 0, none⟩ = some (.slice z.A z.xs.length z.c) ∧ X.cell? ⟨w.heap.size + 1 + 1, 0, none⟩ = some (.slice z.q.a1 z.d.hosts.length z.q.c1) ∧ X.cell? ⟨w.heap.size + 1 + 1, 1, none⟩ = some (.slice z.q.a2 z.d.reps.length z.q.c2)))
  have HX := Lib.hid (fun (X : World) (hX : Below W.heap.size W X) => X1.on hX (Nat.le_refl _))
  have HKW := Lib.hid (Below.refl W.heap.size W)
  have hle := HB.out.size
  obtain ⟨n1, n2, n3, n4, n5, n6, n7, n8⟩ := hz.bounds
  have HCA := Lib.hid (fun (r2 : Int) (hr2 : hdE r0 z.s k start 0 = r2) (X : World) (hX : SnAt X z) => d_crAfter z r0 hr0 k start 0 X hX heat hh r2 hr2 (afV r0 heat z.s k start 0) rfl)
  have HCH := Lib.hid (fun (X : World) (hX : SnAt X z) => d_crHeat z r0 hr0 k X hX heat hh)
  have HCC := Lib.hid (fun (V : Value) (hs : List Int) (X : World) (hX : SnAt X z) (hV : v6.IntSl X V hs) (r2 : Int) (hr2 : coE z.s k start hs 1000 = r2) (cs : List Int) (hcs : coL z.s k start hs 1000 = cs) => d_crCourse z.p z.s k start hs V 1000 X hX.si hV r2 hr2 cs hcs)
  have HHB := Lib.hid (show 0 ≤ heat ∧ heat ≤ 24160000 by rw [← hh]; exact heatV_bd hr0 k)
  have HR := Lib.hid hr
  have HA := Lib.hid ha
  obtain ⟨a0, ha0⟩ : ∃ t, afV r0 heat z.s k start 0 = t := ⟨_, rfl⟩
  rw [ha0] at HCA
  clear hr0 hr ha hh ha0
  clear hz B0 X1 z3 Z0
  obtain ⟨f0, f1, f2, f3, f4, f5, f6, g0, g1, g2⟩ := HF.out W HKW.out
  rw [h3, h2, h1] at f0 f1 f2 f3 f4 f5 f6 g0 g1 g2
  generalize hBB : w.heap.size = B at *
  go_enter Tryz.func19, Tryz.ntmps19
  go_wp2_with (fail)
  rw [← h1, ← h2, ← h3]
  clear h1 h2 h3 f0 f1 f2 f3 f4 f5 f6 g0 g1 g2
  obtain ⟨r2, hr2⟩ : ∃ t, hdE r0 z.s k start 0 = t := ⟨_, rfl⟩
  have HR2 := Lib.hid hr2
  have HR3 := Lib.hid (show hdE r0 z.s k start 1000 = r2 by rw [← hdE_more]; exact hr2)
  have HE := Lib.hid (show r2 = 0 ∨ r2 = 1 by rw [← hr2]; exact hdE_cases _ _ _ _ _)
  clear hr2
  go_at_call 17
  refine (HCA.out r2 HR2.out W (HZ.out W HKW.out)).mono ?_
  rintro e v1 ⟨rfl, bb⟩
  have HKv1 := Lib.hid (below_join HKW.out bb HKW.out.size)
  clear bb
  rcases HE.out with rfl | rfl
  rotate_left
  · skip
    have HE1 := Lib.hid (show lonE r0 z.s k start lim = 1 by unfold lonE; rw [HR3.out]; split <;> rfl)
    have HR1 := Lib.hid (show r = 1 by rw [← HR.out, HE1.out])
    have HA1 := Lib.hid (show a = 0 by rw [← HA.out]; exact lonV_no (by rw [HE1.out]; decide))
    go_wp2_with (fail)
    go_ret2
    exact ⟨(show Ending.returned (.tuple #[.int .i64 0, .int .i64 1]) = .returned (.tuple #[.int .i64 a, .int .i64 r]) by rw [HR1.out, HA1.out]), below_join HB.out HKv1.out hle⟩
  rcases hc0 : decide (lim < 0) with _ | _
  rotate_left
  · have hc0' := of_decide_eq_true hc0
    have HE1 := Lib.hid (show lonE r0 z.s k start lim = 1 by unfold lonE lonOk; rw [if_neg]; rw [Bool.and_eq_true, decide_eq_true_eq]; omega)
    have HR1 := Lib.hid (show r = 1 by rw [← HR.out, HE1.out])
    have HA1 := Lib.hid (show a = 0 by rw [← HA.out]; exact lonV_no (by rw [HE1.out]; decide))
    go_wp2_with (fail)
    go_ret2
    exact ⟨(show Ending.returned (.tuple #[.int .i64 0, .int .i64 1]) = .returned (.tuple #[.int .i64 a, .int .i64 r]) by rw [HR1.out, HA1.out]), below_join HB.out HKv1.out hle⟩
  have hc0' := of_decide_eq_false hc0
  rcases hc1 : decide (1000000 < lim) with _ | _
  rotate_left
  · have hc1' := of_decide_eq_true hc1
    have HE1 := Lib.hid (show lonE r0 z.s k start lim = 1 by unfold lonE lonOk; rw [if_neg]; rw [Bool.and_eq_true, decide_eq_true_eq, decide_eq_true_eq]; omega)
    have HR1 := Lib.hid (show r = 1 by rw [← HR.out, HE1.out])
    have HA1 := Lib.hid (show a = 0 by rw [← HA.out]; exact lonV_no (by rw [HE1.out]; decide))
    go_wp2_with (fail)
    go_ret2
    exact ⟨(show Ending.returned (.tuple #[.int .i64 0, .int .i64 1]) = .returned (.tuple #[.int .i64 a, .int .i64 r]) by rw [HR1.out, HA1.out]), below_join HB.out HKv1.out hle⟩
  have hc1' := of_decide_eq_false hc1
  have HL0 := Lib.hid (show lonE r0 z.s k start lim = 0 by
    unfold lonE lonOk
    rw [decide_eq_true (show 0 ≤ lim by omega), decide_eq_true (show lim ≤ 1000000 by omega)]
    exact HR3.out)
  have h0 := HR3.out
  have hok := (hdE_zero.1 h0).1
  have HCO := Lib.hid (hd_co (heat := heat) hok (by have := HHB.out; omega))
  obtain ⟨l, hl⟩ : ∃ l, hdL r0 heat z.s k start 1000 = l := ⟨_, rfl⟩
  have e1000 : (1000 : Int).toNat = 1000 := by decide
  have HCR := Lib.hid (show coE z.s k start (List.replicate 1000 heat) 1000 = 0 by have h := HCO.out.1; rw [e1000] at h; rw [h, h0])
  have HCL := Lib.hid (show coL z.s k start (List.replicate 1000 heat) 1000 = l by have h := HCO.out.2; rw [e1000] at h; rw [h, hl])
  have hlen : l.length = 1001 := by rw [← hl, hdL_len h0, e1000]
  have HAL := Lib.hid (show lastN lim l = a by rw [← HA.out, lonV_yes HL0.out, hl])
  have HRR := Lib.hid (show r = 0 by rw [← HR.out, HL0.out])
  have HLN := Lib.hid hlen
  have HDC0 : ∀ X : World, Calls Tryz.prog 33 #[.int .i64 heat, .int .i64 1000] X fun e w' => ∃ v, e = .returned v ∧ w'.ownsRow X.heap.size 3 1 v (List.replicate 1000 heat).length (ints (List.replicate 1000 heat)) ∧ Below X.heap.size X w' := fun X => d_constant heat 1000 (by omega) X
  have HDC := Lib.hid HDC0
  clear HDC0
  obtain ⟨hs, hhs⟩ : ∃ hs, List.replicate 1000 heat = hs := ⟨_, rfl⟩
  rw [hhs] at HCR HCL HDC
  clear hok h0 hl e1000 hlen hhs
  go_wp2_with (fail)
  obtain ⟨f0, f1, f2, f3, f4, f5, f6, g0, g1, g2⟩ := HF.out v1 HKv1.out
  go_region_held3 (fun X => X.cell? ⟨B, 0, none⟩ = some (.slice z.p.a1 z.s.feeds.length z.p.c1) ∧ X.cell? ⟨B, 1, none⟩ = some (.slice z.p.a2 z.s.brks.length z.p.c2) ∧ X.cell? ⟨B, 2, none⟩ = some (.slice z.p.a3 z.s.loops.length z.p.c3) ∧ X.cell? ⟨B, 3, none⟩ = some (.slice z.p.a4 z.s.racks.length z.p.c4) ∧ X.cell? ⟨B, 4, none⟩ = some (.int .i64 z.s.sw) ∧ X.cell? ⟨B, 5, none⟩ = some (.slice z.p.a5 z.s.links.length z.p.c5) ∧ X.cell? ⟨B, 6, none⟩ = some (.slice z.p.a6 z.s.hosts.length z.p.c6) ∧ X.cell? ⟨B + 1, 0, none⟩ = some (.slice z.A z.xs.length z.c) ∧ X.cell? ⟨B + 1 + 1, 0, none⟩ = some (.slice z.q.a1 z.d.hosts.length z.q.c1) ∧ X.cell? ⟨B + 1 + 1, 1, none⟩ = some (.slice z.q.a2 z.d.reps.length z.q.c2))
    (first | exact HF.out v4 HK4.out | exact HF.out v3 HK3.out | exact HF.out v2 HK2.out | exact HF.out v1 HKv1.out | fail)
    (first
      | (go_at_call 12; (with_reducible refine (HCH.out v1.drew (HZ.out v1.drew HKv1.out.drew)).mono ?_); rintro e v2 ⟨rfl, bb0⟩; have HK2 := Lib.hid (below_join HKv1.out.drew bb0 HKv1.out.size); clear bb0)
      | (go_at_call 33; (with_reducible refine (HDC.out v2).mono ?_); rintro e v3 ⟨V, rfl, hV, bb0⟩; have HK3 := Lib.hid (below_join HK2.out bb0 HK2.out.size); have HIS := Lib.hid (v6.own_intSl hV); clear hV bb0)
      | (go_at_call 14; (with_reducible refine (HCC.out V hs v3 (HZ.out v3 HK3.out) HIS.out 0 HCR.out l HCL.out).mono ?_); rintro e v4 ⟨y, rfl, hy, bb0⟩; have HK4 := Lib.hid (below_join HK3.out bb0 HK3.out.size); have HY := Lib.hid hy; clear hy bb0)
      | fail)
  clear f0 f1 f2 f3 f4 f5 f6 g0 g1 g2
  obtain ⟨Ay, cy, rfl, hy1, hy2⟩ := HY.out.shape
  rw [HLN.out] at hy1 ⊢
  unfold maxLen at hy2
  go_wp2_with (fail)
  go_loopw [17] (fun i wr => ∃ m : Nat, m ≤ 1001 ∧ i = .int .i64 ((m : Int) - 1) ∧ Hid (∀ (j : Nat) (y : Int), j < m → l[j]? = some y → y ≤ lim) ∧ Hid (Below v4.heap.size v4 wr)) (fun i _ => (1000 - intOf i).toNat)
  case atStart => exact ⟨0, Nat.zero_le _, rfl, Lib.hid (fun j y hj => absurd hj (by omega)), Lib.hid (Below.refl _ _)⟩
  case round =>
    obtain ⟨m, hm, rfl, hun, hK⟩ := hrel
    obtain ⟨iv, hiv⟩ : ∃ t, (m : Int) - 1 = t := ⟨_, rfl⟩
    have HIV := Lib.hid hiv
    have hbv : -1 ≤ iv ∧ iv ≤ 1000 := by omega
    rw [hiv]
    have hw : IntKind.i64.wrap (iv + 1) = (m : Int) := by rw [wrap_in (by omega) (by omega)]; omega
    have HKW2 := Lib.hid (below_join HK4.out hK.out HK4.out.size)
    clear hiv
    by_cases hlt : iv < 1000
    · have hml : m < 1001 := by have := HIV.out; omega
      obtain ⟨x, hx⟩ : ∃ x, l[m]? = some x := ⟨_, List.getElem?_eq_getElem (by rw [HLN.out]; exact hml)⟩
      have HXX := Lib.hid hx
      have hml2 : (m : Int) < 1001 := by omega
      obtain ⟨pb, po, pc, e1, hpb, -, -, x0⟩ := (HY.out.on hK.out (Nat.le_refl _)).at_ hx
      injection e1 with e1 _ e2
      subst e1 e2
      clear hx
      rcases hp : decide (x ≤ lim) with _ | _
      · have hp' := of_decide_eq_false hp
        have HAA := Lib.hid (show a = iv by
          rw [← HAL.out, last_found HLN.out hun.out hm (.inr ⟨x, HXX.out, by omega⟩)]; exact HIV.out)
        go_wp2_with (fail)
        go_ret2
        exact ⟨(show Ending.returned (.tuple #[.int .i64 iv, .int .i64 0]) = .returned (.tuple #[.int .i64 a, .int .i64 r]) by rw [HAA.out, HRR.out]), below_join HB.out HKW2.out hle⟩
      · have hp' := of_decide_eq_true hp
        have HUN := Lib.hid (show ∀ (j : Nat) (y : Int), j < m + 1 → l[j]? = some y → y ≤ lim by
          intro j y hj hy
          rcases Nat.lt_or_ge j m with h | h
          · exact hun.out j y h hy
          · obtain rfl : j = m := by omega
            have h2 := HXX.out
            rw [hy] at h2
            injection h2 with h2
            omega)
        go_wp2_with (fail)
        go_roundw
        case rel => exact ⟨m + 1, by omega, congrArg (Value.int .i64) (by have h := HIV.out; omega), HUN, hK⟩
        case measure => simp only [intOf]; have h := HIV.out; omega
    · have hml : m = 1001 := by have := HIV.out; omega
      have HAA := Lib.hid (show a = iv by
        rw [← HAL.out, last_found HLN.out hun.out hm (.inl hml)]; exact HIV.out)
      go_wp2_with (fail)
      go_ret2
      exact ⟨(show Ending.returned (.tuple #[.int .i64 iv, .int .i64 0]) = .returned (.tuple #[.int .i64 a, .int .i64 r]) by rw [HAA.out, HRR.out]), below_join HB.out HKW2.out hle⟩
end Go.Proofs.YtpokpgnclohiiaaGreat

namespace Go.Proofs.YtpokpgnclohiiaaGreat
open Go.RowKit
set_option maxRecDepth 100000
set_option linter.unusedVariables false
set_option linter.unusedSimpArgs false

/-- Lists of at most 60 elements. -/
def FewZ (z : Sn) : Prop := z.s.feeds.length ≤ 60 ∧ z.s.brks.length ≤ 60 ∧ z.s.loops.length ≤ 60 ∧ z.s.racks.length ≤ 60 ∧ z.s.links.length ≤ 60 ∧ z.s.hosts.length ≤ 60 ∧ z.xs.length ≤ 60 ∧ z.d.hosts.length ≤ 60 ∧ z.d.reps.length ≤ 60
set_option maxHeartbeats 16000000 in
theorem c_fewZ (z : Sn) (r : Bool) (hr : r = true ↔ FewZ z) (w : World) (hz : SnAt w z) :
    Calls Tryz.prog 7 #[.agg #[.slice z.p.a1 z.s.feeds.length z.p.c1, .slice z.p.a2 z.s.brks.length z.p.c2, .slice z.p.a3 z.s.loops.length z.p.c3, .slice z.p.a4 z.s.racks.length z.p.c4, .int .i64 z.s.sw, .slice z.p.a5 z.s.links.length z.p.c5, .slice z.p.a6 z.s.hosts.length z.p.c6], .agg #[.slice z.A z.xs.length z.c], .agg #[.slice z.q.a1 z.d.hosts.length z.q.c1, .slice z.q.a2 z.d.reps.length z.q.c2]] w fun e w' => e = .returned (.bool r) ∧ Below w.heap.size w w' := by
  have n9 : z.s.links.length ≤ 9223372036854775807 := by
    have a5 := hz.si.links.1; have b5 := hz.si.links.2.1; unfold maxLen at *; omega
  obtain ⟨W1, h1⟩ : ∃ W, W = w.alloc (.cells #[.slice z.p.a1 z.s.feeds.length z.p.c1, .slice z.p.a2 z.s.brks.length z.p.c2, .slice z.p.a3 z.s.loops.length z.p.c3, .slice z.p.a4 z.s.racks.length z.p.c4, .int .i64 z.s.sw, .slice z.p.a5 z.s.links.length z.p.c5, .slice z.p.a6 z.s.hosts.length z.p.c6] 29) := ⟨_, rfl⟩
  obtain ⟨W2, h2⟩ : ∃ W, W = W1.alloc (.cells #[.slice z.A z.xs.length z.c] 32) := ⟨_, rfl⟩
  obtain ⟨W, h3⟩ : ∃ W, W = W2.alloc (.cells #[.slice z.q.a1 z.d.hosts.length z.q.c1, .slice z.q.a2 z.d.reps.length z.q.c2] 36) := ⟨_, rfl⟩
  obtain ⟨B0, X1⟩ := sn_boxes h1 h2 h3
  have z3 : W.heap.size = w.heap.size + 1 + 1 + 1 := sn_size h1 h2 h3
  have HB := Lib.hid B0
  have Z0 := hz.on B0 (Nat.le_refl _)
  have HZ := Lib.hid (fun (X : World) (hX : Below W.heap.size W X) => Z0.on hX (Nat.le_refl _))
  have HF := Lib.hid (fun (X : World) (hX : Below W.heap.size W X) => ((X1.on hX (Nat.le_refl _)).cells : X.cell? ⟨w.heap.size, 0, none⟩ = some (.slice z.p.a1 z.s.feeds.length z.p.c1) ∧ X.cell? ⟨w.heap.size, 1, none⟩ = some (.slice z.p.a2 z.s.brks.length z.p.c2) ∧ X.cell? ⟨w.heap.size, 2, none⟩ = some (.slice z.p.a3 z.s.loops.length z.p.c3) ∧ X.cell? ⟨w.heap.size, 3, none⟩ = some (.slice z.p.a4 z.s.racks.length z.p.c4) ∧ X.cell? ⟨w.heap.size, 4, none⟩ = some (.int .i64 z.s.sw) ∧ X.cell? ⟨w.heap.size, 5, none⟩ = some (.slice z.p.a5 z.s.links.length z.p.c5) ∧ X.cell? ⟨w.heap.size, 6, none⟩ = some (.slice z.p.a6 z.s.hosts.length z.p.c6) ∧ X.cell? ⟨w.heap.size + 1, 0, none⟩ = some (.slice z.A z.xs.length z.c) ∧ X.cell? ⟨w.heap.size + 1 + 1, 0, none⟩ = some (.slice z.q.a1 z.d.hosts.length z.q.c1) ∧ X.cell? ⟨w.heap.size + 1 + 1, 1, none⟩ = some (.slice z.q.a2 z.d.reps.length z.q.c2)))
  have HX := Lib.hid (fun (X : World) (hX : Below W.heap.size W X) => X1.on hX (Nat.le_refl _))
  have HKW := Lib.hid (Below.refl W.heap.size W)
  have hle := HB.out.size
  obtain ⟨n1, n2, n3, n4, n5, n6, n7, n8⟩ := hz.bounds
  have HR := Lib.hid hr
  clear hr
  clear hz B0 X1 z3 Z0
  obtain ⟨f0, f1, f2, f3, f4, f5, f6, g0, g1, g2⟩ := HF.out W HKW.out
  rw [h3, h2, h1] at f0 f1 f2 f3 f4 f5 f6 g0 g1 g2
  generalize hBB : w.heap.size = B at *
  go_enter Tryz.func7, Tryz.ntmps7
  rcases hd0 : decide ((z.s.feeds.length : Int) ≤ 60) with _ | _
  · have HDD := Lib.hid hd0
    obtain rfl : false = r := by
      rcases r with _ | _
      · rfl
      · exact absurd (HR.out.1 rfl) (fun h => by unfold FewZ at h; have h2 := of_decide_eq_false HDD.out; omega)
    clear HDD
    go_wp2_with (fail)
    rw [← h1, ← h2, ← h3]
    go_ret
    exact ⟨rfl, HB.out⟩
  rcases hd1 : decide ((z.s.brks.length : Int) ≤ 60) with _ | _
  · have HDD := Lib.hid hd1
    obtain rfl : false = r := by
      rcases r with _ | _
      · rfl
      · exact absurd (HR.out.1 rfl) (fun h => by unfold FewZ at h; have h2 := of_decide_eq_false HDD.out; omega)
    clear HDD
    go_wp2_with (fail)
    rw [← h1, ← h2, ← h3]
    go_ret
    exact ⟨rfl, HB.out⟩
  rcases hd2 : decide ((z.s.loops.length : Int) ≤ 60) with _ | _
  · have HDD := Lib.hid hd2
    obtain rfl : false = r := by
      rcases r with _ | _
      · rfl
      · exact absurd (HR.out.1 rfl) (fun h => by unfold FewZ at h; have h2 := of_decide_eq_false HDD.out; omega)
    clear HDD
    go_wp2_with (fail)
    rw [← h1, ← h2, ← h3]
    go_ret
    exact ⟨rfl, HB.out⟩
  rcases hd3 : decide ((z.s.racks.length : Int) ≤ 60) with _ | _
  · have HDD := Lib.hid hd3
    obtain rfl : false = r := by
      rcases r with _ | _
      · rfl
      · exact absurd (HR.out.1 rfl) (fun h => by unfold FewZ at h; have h2 := of_decide_eq_false HDD.out; omega)
    clear HDD
    go_wp2_with (fail)
    rw [← h1, ← h2, ← h3]
    go_ret
    exact ⟨rfl, HB.out⟩
  rcases hd4 : decide ((z.s.links.length : Int) ≤ 60) with _ | _
  · have HDD := Lib.hid hd4
    obtain rfl : false = r := by
      rcases r with _ | _
      · rfl
      · exact absurd (HR.out.1 rfl) (fun h => by unfold FewZ at h; have h2 := of_decide_eq_false HDD.out; omega)
    clear HDD
    go_wp2_with (fail)
    rw [← h1, ← h2, ← h3]
    go_ret
    exact ⟨rfl, HB.out⟩
  rcases hd5 : decide ((z.s.hosts.length : Int) ≤ 60) with _ | _
  · have HDD := Lib.hid hd5
    obtain rfl : false = r := by
      rcases r with _ | _
      · rfl
      · exact absurd (HR.out.1 rfl) (fun h => by unfold FewZ at h; have h2 := of_decide_eq_false HDD.out; omega)
    clear HDD
    go_wp2_with (fail)
    rw [← h1, ← h2, ← h3]
    go_ret
    exact ⟨rfl, HB.out⟩
  rcases hd6 : decide ((z.xs.length : Int) ≤ 60) with _ | _
  · have HDD := Lib.hid hd6
    obtain rfl : false = r := by
      rcases r with _ | _
      · rfl
      · exact absurd (HR.out.1 rfl) (fun h => by unfold FewZ at h; have h2 := of_decide_eq_false HDD.out; omega)
    clear HDD
    go_wp2_with (fail)
    rw [← h1, ← h2, ← h3]
    go_ret
    exact ⟨rfl, HB.out⟩
  rcases hd7 : decide ((z.d.hosts.length : Int) ≤ 60) with _ | _
  · have HDD := Lib.hid hd7
    obtain rfl : false = r := by
      rcases r with _ | _
      · rfl
      · exact absurd (HR.out.1 rfl) (fun h => by unfold FewZ at h; have h2 := of_decide_eq_false HDD.out; omega)
    clear HDD
    go_wp2_with (fail)
    rw [← h1, ← h2, ← h3]
    go_ret
    exact ⟨rfl, HB.out⟩
  rcases hd8 : decide ((z.d.reps.length : Int) ≤ 60) with _ | _
  · have HDD := Lib.hid hd8
    obtain rfl : false = r := by
      rcases r with _ | _
      · rfl
      · exact absurd (HR.out.1 rfl) (fun h => by unfold FewZ at h; have h2 := of_decide_eq_false HDD.out; omega)
    clear HDD
    go_wp2_with (fail)
    rw [← h1, ← h2, ← h3]
    go_ret
    exact ⟨rfl, HB.out⟩
  obtain rfl : true = r := by
    refine (HR.out.2 ?_).symm
    unfold FewZ
    have l0 := of_decide_eq_true hd0; have l1 := of_decide_eq_true hd1; have l2 := of_decide_eq_true hd2; have l3 := of_decide_eq_true hd3; have l4 := of_decide_eq_true hd4; have l5 := of_decide_eq_true hd5; have l6 := of_decide_eq_true hd6; have l7 := of_decide_eq_true hd7; have l8 := of_decide_eq_true hd8
    omega
  go_wp2_with (fail)
  rw [← h1, ← h2, ← h3]
  go_ret
  exact ⟨rfl, HB.out⟩
/-- The law's example. -/
def exD : SiteD := ⟨[300], [⟨0, 200, 0, 0⟩, ⟨0, 200, 0, 0⟩], [⟨250, 1⟩], [⟨0, 0, 0, 0⟩, ⟨0, 1, 0, 0⟩], 1, [], [⟨0, 4, 100, 50⟩, ⟨1, 4, 100, 50⟩]⟩
def exP (b : Nat) : SP := ⟨some ⟨b + 1 + 1 + 1, 0, none⟩, 1, some ⟨b + 1 + 1 + 1 + 1, 0, none⟩, 2, some ⟨b + 1 + 1 + 1 + 1 + 1, 0, none⟩, 1, some ⟨b + 1 + 1 + 1 + 1 + 1 + 1, 0, none⟩, 2, none, 0, some ⟨b + 1 + 1 + 1 + 1 + 1 + 1 + 1, 0, none⟩, 2⟩
def wxs : List (Svc × SvA) := [(⟨2, 2, 0, 0, 0, [], [], 0⟩, ⟨none, 0, none, 0⟩)]
def exW : WorldD := ⟨[⟨0, 0⟩, ⟨0, 0⟩], [⟨0, 0⟩, ⟨0, 1⟩]⟩
theorem rw_block14 {α : Type} {k : Nat} {F : α → Nat → Int} {l : List α} {w : World} {b : Nat} {T : TypeId} (h : w.heap[b]? = some (.cells (cellsV k (fun x i => .int .i64 (F x i)) l).toArray T (0, 0))) (hl : l.length ≤ maxLen) : Rw k F w (some ⟨b, 0, none⟩) l.length l := rv_int (rv_block h hl)
theorem ret7 {fn : Func} {a : Act} {W : World} {R : Ending → World → Prop} {b i : Nat} {x0 x1 x2 x3 x4 x5 x6 : Value} (hfn : fn.results = #[.cell i 29]) (hp : a.tmps[i]?.getD undef = .pointer (some ⟨b, 0, none⟩)) (hd : a.defers = [])
    (h : W.heap[b]? = some (.cells #[x0, x1, x2, x3, x4, x5, x6] 29 (0, 0))) (hR : R (.returned (.agg #[x0, x1, x2, x3, x4, x5, x6])) W) : bodyPost Tryz.prog fn R .ret a W := by
  have c0 : W.cell? ⟨b, 0, none⟩ = some x0 := cell_of h rfl; have c1 : W.cell? ⟨b, 1, none⟩ = some x1 := cell_of h rfl; have c2 : W.cell? ⟨b, 2, none⟩ = some x2 := cell_of h rfl; have c3 : W.cell? ⟨b, 3, none⟩ = some x3 := cell_of h rfl; have c4 : W.cell? ⟨b, 4, none⟩ = some x4 := cell_of h rfl; have c5 : W.cell? ⟨b, 5, none⟩ = some x5 := cell_of h rfl; have c6 : W.cell? ⟨b, 6, none⟩ = some x6 := cell_of h rfl
  exact bodyPost_ret (v := .agg #[x0, x1, x2, x3, x4, x5, x6]) (by simp [results, hfn, hp, go_sem, c0, c1, c2, c3, c4, c5, c6]) hd hR
theorem ret1w {fn : Func} {a : Act} {W : World} {R : Ending → World → Prop} {b i : Nat} {x0 : Value} (hfn : fn.results = #[.cell i 32]) (hp : a.tmps[i]?.getD undef = .pointer (some ⟨b, 0, none⟩)) (hd : a.defers = [])
    (h : W.heap[b]? = some (.cells #[x0] 32 (0, 0))) (hR : R (.returned (.agg #[x0])) W) : bodyPost Tryz.prog fn R .ret a W := by
  have c0 : W.cell? ⟨b, 0, none⟩ = some x0 := cell_of h rfl
  exact bodyPost_ret (v := .agg #[x0]) (by simp [results, hfn, hp, go_sem, c0]) hd hR
theorem ret2w {fn : Func} {a : Act} {W : World} {R : Ending → World → Prop} {b i : Nat} {x0 x1 : Value} (hfn : fn.results = #[.cell i 36]) (hp : a.tmps[i]?.getD undef = .pointer (some ⟨b, 0, none⟩)) (hd : a.defers = [])
    (h : W.heap[b]? = some (.cells #[x0, x1] 36 (0, 0))) (hR : R (.returned (.agg #[x0, x1])) W) : bodyPost Tryz.prog fn R .ret a W := by
  have c0 : W.cell? ⟨b, 0, none⟩ = some x0 := cell_of h rfl
  have c1 : W.cell? ⟨b, 1, none⟩ = some x1 := cell_of h rfl
  exact bodyPost_ret (v := .agg #[x0, x1]) (by simp [results, hfn, hp, go_sem, c0, c1]) hd hR
set_option maxHeartbeats 16000000 in
theorem c_site (w : World) : Calls Tryz.prog 21 #[] w fun e w' => e = .returned (siV (exP w.heap.size) exD) ∧ SiAt w' (exP w.heap.size) exD ∧ Below w.heap.size w w' := by
  obtain ⟨E0, h0⟩ : ∃ X, X = w.alloc (.cells #[.slice (some ⟨w.heap.size + 1 + 1 + 1, 0, none⟩) 1 1, .slice (some ⟨w.heap.size + 1 + 1 + 1 + 1, 0, none⟩) 2 2, .slice (some ⟨w.heap.size + 1 + 1 + 1 + 1 + 1, 0, none⟩) 1 1, .slice (some ⟨w.heap.size + 1 + 1 + 1 + 1 + 1 + 1, 0, none⟩) 2 2, .int .i64 1, .slice none 0 0, .slice (some ⟨w.heap.size + 1 + 1 + 1 + 1 + 1 + 1 + 1, 0, none⟩) 2 2] 29) := ⟨_, rfl⟩
  obtain ⟨E1, h1⟩ : ∃ X, X = E0.alloc (.cells #[.int .i64 0, .int .i64 4, .int .i64 100, .int .i64 50] 71) := ⟨_, rfl⟩
  obtain ⟨E2, h2⟩ : ∃ X, X = E1.alloc (.cells #[.int .i64 1, .int .i64 4, .int .i64 100, .int .i64 50] 71) := ⟨_, rfl⟩
  obtain ⟨E3, h3⟩ : ∃ X, X = E2.alloc (.cells #[.int .i64 300] 87) := ⟨_, rfl⟩
  obtain ⟨E4, h4⟩ : ∃ X, X = E3.alloc (.cells #[.int .i64 0, .int .i64 200, .int .i64 0, .int .i64 0, .int .i64 0, .int .i64 200, .int .i64 0, .int .i64 0] 89) := ⟨_, rfl⟩
  obtain ⟨E5, h5⟩ : ∃ X, X = E4.alloc (.cells #[.int .i64 250, .int .i64 1] 58) := ⟨_, rfl⟩
  obtain ⟨E6, h6⟩ : ∃ X, X = E5.alloc (.cells #[.int .i64 0, .int .i64 0, .int .i64 0, .int .i64 0, .int .i64 0, .int .i64 1, .int .i64 0, .int .i64 0] 69) := ⟨_, rfl⟩
  obtain ⟨E7, h7⟩ : ∃ X, X = E6.alloc (.cells #[.int .i64 0, .int .i64 4, .int .i64 100, .int .i64 50, .int .i64 1, .int .i64 4, .int .i64 100, .int .i64 50] 71) := ⟨_, rfl⟩
  have z0 : E0.heap.size = w.heap.size + 1 := by rw [h0, World.size_alloc]
  have z1 : E1.heap.size = w.heap.size + 1 + 1 := by rw [h1, World.size_alloc, z0]
  have z2 : E2.heap.size = w.heap.size + 1 + 1 + 1 := by rw [h2, World.size_alloc, z1]
  have z3 : E3.heap.size = w.heap.size + 1 + 1 + 1 + 1 := by rw [h3, World.size_alloc, z2]
  have z4 : E4.heap.size = w.heap.size + 1 + 1 + 1 + 1 + 1 := by rw [h4, World.size_alloc, z3]
  have z5 : E5.heap.size = w.heap.size + 1 + 1 + 1 + 1 + 1 + 1 := by rw [h5, World.size_alloc, z4]
  have z6 : E6.heap.size = w.heap.size + 1 + 1 + 1 + 1 + 1 + 1 + 1 := by rw [h6, World.size_alloc, z5]
  have z7 : E7.heap.size = w.heap.size + 1 + 1 + 1 + 1 + 1 + 1 + 1 + 1 := by rw [h7, World.size_alloc, z6]
  have g0 : E0.heap[w.heap.size]? = some (.cells #[.slice (some ⟨w.heap.size + 1 + 1 + 1, 0, none⟩) 1 1, .slice (some ⟨w.heap.size + 1 + 1 + 1 + 1, 0, none⟩) 2 2, .slice (some ⟨w.heap.size + 1 + 1 + 1 + 1 + 1, 0, none⟩) 1 1, .slice (some ⟨w.heap.size + 1 + 1 + 1 + 1 + 1 + 1, 0, none⟩) 2 2, .int .i64 1, .slice none 0 0, .slice (some ⟨w.heap.size + 1 + 1 + 1 + 1 + 1 + 1 + 1, 0, none⟩) 2 2] 29 (0, 0)) := by rw [h0]; exact heap_alloc_new _ _
  have G0 : E7.heap[w.heap.size]? = some (.cells #[.slice (some ⟨w.heap.size + 1 + 1 + 1, 0, none⟩) 1 1, .slice (some ⟨w.heap.size + 1 + 1 + 1 + 1, 0, none⟩) 2 2, .slice (some ⟨w.heap.size + 1 + 1 + 1 + 1 + 1, 0, none⟩) 1 1, .slice (some ⟨w.heap.size + 1 + 1 + 1 + 1 + 1 + 1, 0, none⟩) 2 2, .int .i64 1, .slice none 0 0, .slice (some ⟨w.heap.size + 1 + 1 + 1 + 1 + 1 + 1 + 1, 0, none⟩) 2 2] 29 (0, 0)) := by rw [h7]; refine old_heap _ ?_; rw [h6]; refine old_heap _ ?_; rw [h5]; refine old_heap _ ?_; rw [h4]; refine old_heap _ ?_; rw [h3]; refine old_heap _ ?_; rw [h2]; refine old_heap _ ?_; rw [h1]; refine old_heap _ ?_; exact g0
  have g1 : E1.heap[w.heap.size + 1]? = some (.cells #[.int .i64 0, .int .i64 4, .int .i64 100, .int .i64 50] 71 (0, 0)) := by rw [← z0]; rw [h1]; exact heap_alloc_new _ _
  have G1 : E7.heap[w.heap.size + 1]? = some (.cells #[.int .i64 0, .int .i64 4, .int .i64 100, .int .i64 50] 71 (0, 0)) := by rw [h7]; refine old_heap _ ?_; rw [h6]; refine old_heap _ ?_; rw [h5]; refine old_heap _ ?_; rw [h4]; refine old_heap _ ?_; rw [h3]; refine old_heap _ ?_; rw [h2]; refine old_heap _ ?_; exact g1
  have g2 : E2.heap[w.heap.size + 1 + 1]? = some (.cells #[.int .i64 1, .int .i64 4, .int .i64 100, .int .i64 50] 71 (0, 0)) := by rw [← z1]; rw [h2]; exact heap_alloc_new _ _
  have G2 : E7.heap[w.heap.size + 1 + 1]? = some (.cells #[.int .i64 1, .int .i64 4, .int .i64 100, .int .i64 50] 71 (0, 0)) := by rw [h7]; refine old_heap _ ?_; rw [h6]; refine old_heap _ ?_; rw [h5]; refine old_heap _ ?_; rw [h4]; refine old_heap _ ?_; rw [h3]; refine old_heap _ ?_; exact g2
  have g3 : E3.heap[w.heap.size + 1 + 1 + 1]? = some (.cells #[.int .i64 300] 87 (0, 0)) := by rw [← z2]; rw [h3]; exact heap_alloc_new _ _
  have G3 : E7.heap[w.heap.size + 1 + 1 + 1]? = some (.cells #[.int .i64 300] 87 (0, 0)) := by rw [h7]; refine old_heap _ ?_; rw [h6]; refine old_heap _ ?_; rw [h5]; refine old_heap _ ?_; rw [h4]; refine old_heap _ ?_; exact g3
  have g4 : E4.heap[w.heap.size + 1 + 1 + 1 + 1]? = some (.cells #[.int .i64 0, .int .i64 200, .int .i64 0, .int .i64 0, .int .i64 0, .int .i64 200, .int .i64 0, .int .i64 0] 89 (0, 0)) := by rw [← z3]; rw [h4]; exact heap_alloc_new _ _
  have G4 : E7.heap[w.heap.size + 1 + 1 + 1 + 1]? = some (.cells #[.int .i64 0, .int .i64 200, .int .i64 0, .int .i64 0, .int .i64 0, .int .i64 200, .int .i64 0, .int .i64 0] 89 (0, 0)) := by rw [h7]; refine old_heap _ ?_; rw [h6]; refine old_heap _ ?_; rw [h5]; refine old_heap _ ?_; exact g4
  have g5 : E5.heap[w.heap.size + 1 + 1 + 1 + 1 + 1]? = some (.cells #[.int .i64 250, .int .i64 1] 58 (0, 0)) := by rw [← z4]; rw [h5]; exact heap_alloc_new _ _
  have G5 : E7.heap[w.heap.size + 1 + 1 + 1 + 1 + 1]? = some (.cells #[.int .i64 250, .int .i64 1] 58 (0, 0)) := by rw [h7]; refine old_heap _ ?_; rw [h6]; refine old_heap _ ?_; exact g5
  have g6 : E6.heap[w.heap.size + 1 + 1 + 1 + 1 + 1 + 1]? = some (.cells #[.int .i64 0, .int .i64 0, .int .i64 0, .int .i64 0, .int .i64 0, .int .i64 1, .int .i64 0, .int .i64 0] 69 (0, 0)) := by rw [← z5]; rw [h6]; exact heap_alloc_new _ _
  have G6 : E7.heap[w.heap.size + 1 + 1 + 1 + 1 + 1 + 1]? = some (.cells #[.int .i64 0, .int .i64 0, .int .i64 0, .int .i64 0, .int .i64 0, .int .i64 1, .int .i64 0, .int .i64 0] 69 (0, 0)) := by rw [h7]; refine old_heap _ ?_; exact g6
  have g7 : E7.heap[w.heap.size + 1 + 1 + 1 + 1 + 1 + 1 + 1]? = some (.cells #[.int .i64 0, .int .i64 4, .int .i64 100, .int .i64 50, .int .i64 1, .int .i64 4, .int .i64 100, .int .i64 50] 71 (0, 0)) := by rw [← z6]; rw [h7]; exact heap_alloc_new _ _
  have G7 : E7.heap[w.heap.size + 1 + 1 + 1 + 1 + 1 + 1 + 1]? = some (.cells #[.int .i64 0, .int .i64 4, .int .i64 100, .int .i64 50, .int .i64 1, .int .i64 4, .int .i64 100, .int .i64 50] 71 (0, 0)) := by exact g7
  have BN : Below w.heap.size w E7 := by rw [h7]; refine Below.alloc ?_ (by omega) _; rw [h6]; refine Below.alloc ?_ (by omega) _; rw [h5]; refine Below.alloc ?_ (by omega) _; rw [h4]; refine Below.alloc ?_ (by omega) _; rw [h3]; refine Below.alloc ?_ (by omega) _; rw [h2]; refine Below.alloc ?_ (by omega) _; rw [h1]; refine Below.alloc ?_ (by omega) _; rw [h0]; exact (Below.refl _ _).alloc (Nat.le_refl _) _
  have HG := Lib.hid (And.intro G0 (And.intro G1 (And.intro G2 (And.intro G3 (And.intro G4 (And.intro G5 (And.intro G6 (G7))))))))
  have HB := Lib.hid BN
  have HE := Lib.hid h7
  clear BN g0 G0 z0 g1 G1 z1 g2 G2 z2 g3 G3 z3 g4 G4 z4 g5 G5 z5 g6 G6 z6 g7 G7 z7 h7
  subst h6 h5 h4 h3 h2 h1 h0
  go_enter Tryz.func21, Tryz.ntmps21
  go_wp2_with (fail)
  rw [← HE.out]
  obtain ⟨G0, G1, G2, G3, G4, G5, G6, G7⟩ := HG.out
  exact ret7 (i := 0) (b := w.heap.size) rfl rfl rfl G0 ⟨rfl, ⟨rw_block14 (α := Int) (k := 1) (F := inF) (l := [300]) G3 (by simp [maxLen]), rw_block14 (α := Brk) (k := 4) (F := brkF) (l := [⟨0, 200, 0, 0⟩, ⟨0, 200, 0, 0⟩]) G4 (by simp [maxLen]), rw_block14 (α := Lp) (k := 2) (F := lpF) (l := [⟨250, 1⟩]) G5 (by simp [maxLen]), rw_block14 (α := Rk) (k := 4) (F := rkF) (l := [⟨0, 0, 0, 0⟩, ⟨0, 1, 0, 0⟩]) G6 (by simp [maxLen]), Rw.nil _ _, rw_block14 (α := Hs) (k := 4) (F := hsF) (l := [⟨0, 4, 100, 50⟩, ⟨1, 4, 100, 50⟩]) G7 (by simp [maxLen])⟩, HB.out⟩
theorem wxs_at {X : World} {b : Nat} (h : X.heap[b]? = some (.cells (cellsV 8 svV wxs).toArray 92 (0, 0))) : WiAt X (some ⟨b, 0, none⟩) 1 wxs := by
  refine ⟨rv_block (l := wxs) h (by simp [wxs, maxLen]), fun x hx => ?_⟩
  rcases List.mem_cons.1 hx with rfl | hx
  · exact ⟨Rv.nil _, Rv.nil _, by decide⟩
  · cases hx
set_option maxHeartbeats 8000000 in
theorem c_wish (w : World) : Calls Tryz.prog 22 #[] w fun e w' => e = .returned (.agg #[.slice (some ⟨w.heap.size + 1, 0, none⟩) 1 1]) ∧ WiAt w' (some ⟨w.heap.size + 1, 0, none⟩) 1 wxs ∧ Below w.heap.size w w' := by
  obtain ⟨E0, h0⟩ : ∃ X, X = w.alloc (.cells #[.slice (some ⟨w.heap.size + 1, 0, none⟩) 1 1] 32) := ⟨_, rfl⟩
  obtain ⟨E1, h1⟩ : ∃ X, X = E0.alloc (.cells #[.int .i64 2, .int .i64 2, .int .i64 0, .int .u8 0, .int .i64 0, .slice none 0 0, .slice none 0 0, .int .i64 0] 92) := ⟨_, rfl⟩
  have z0 : E0.heap.size = w.heap.size + 1 := by rw [h0, World.size_alloc]
  have z1 : E1.heap.size = w.heap.size + 1 + 1 := by rw [h1, World.size_alloc, z0]
  have g0 : E0.heap[w.heap.size]? = some (.cells #[.slice (some ⟨w.heap.size + 1, 0, none⟩) 1 1] 32 (0, 0)) := by rw [h0]; exact heap_alloc_new _ _
  have G0 : E1.heap[w.heap.size]? = some (.cells #[.slice (some ⟨w.heap.size + 1, 0, none⟩) 1 1] 32 (0, 0)) := by rw [h1]; refine old_heap _ ?_; exact g0
  have g1 : E1.heap[w.heap.size + 1]? = some (.cells #[.int .i64 2, .int .i64 2, .int .i64 0, .int .u8 0, .int .i64 0, .slice none 0 0, .slice none 0 0, .int .i64 0] 92 (0, 0)) := by rw [← z0]; rw [h1]; exact heap_alloc_new _ _
  have G1 : E1.heap[w.heap.size + 1]? = some (.cells #[.int .i64 2, .int .i64 2, .int .i64 0, .int .u8 0, .int .i64 0, .slice none 0 0, .slice none 0 0, .int .i64 0] 92 (0, 0)) := by exact g1
  have BN : Below w.heap.size w E1 := by rw [h1]; refine Below.alloc ?_ (by omega) _; rw [h0]; exact (Below.refl _ _).alloc (Nat.le_refl _) _
  have HG := Lib.hid (And.intro G0 (G1))
  have HB := Lib.hid BN
  have HE := Lib.hid h1
  clear BN g0 G0 z0 g1 G1 z1 h1
  subst h0
  go_enter Tryz.func22, Tryz.ntmps22
  go_wp2_with (fail)
  rw [← HE.out]
  obtain ⟨G0, G1⟩ := HG.out
  exact ret1w (i := 0) (b := w.heap.size) rfl rfl rfl G0 ⟨rfl, wxs_at G1, HB.out⟩
theorem made2 : (madeCells (.agg #[.int .u8 0, .int .i64 0] : Value).cells (2 * 2)).toList = cellsV 2 hstV exW.hosts := by kernel_rfl
theorem own_cur2 {w : World} {base n g : Nat} {T : TypeId} {xs : List Value} (h : w.ownsRow base T 2 (.slice (some ⟨g, 0, none⟩) n n) n xs) : w.heap[g]? = some (.cells xs.toArray T (0, 0)) := by
  obtain ⟨k1, ⟨e, -⟩ | ⟨g', cap', cur, e, k3, k4, k5, k6, k7, k8⟩⟩ := h
  · cases e
  · injection e with e1 _ e2
    injection e1 with e1
    injection e1 with e1
    subst e1 e2
    rw [k4]
    have : cur = xs.toArray := by
      apply Array.ext'
      rw [← k8, List.take_of_length_le (by simp; omega)]
    rw [this]
set_option maxHeartbeats 8000000 in
theorem c_example (w : World) : Calls Tryz.prog 23 #[] w fun e w' => ∃ p, e = .returned (.agg (woA p exW)) ∧ OwnW w.heap.size w' p exW ∧ Below w.heap.size w w' := by
  obtain ⟨i0, hi0, hz0, hz1, hz2⟩ := info_parts hst_info
  obtain ⟨E0, h0⟩ : ∃ X, X = w.alloc (.cells #[.slice none 0 0, .slice none 0 0] 36) := ⟨_, rfl⟩
  have B0 : Below w.heap.size w E0 := by rw [h0]; exact (Below.refl _ _).alloc (Nat.le_refl _) _
  have b0 : E0.heap[w.heap.size]? = some (.cells #[.slice none 0 0, .slice none 0 0] 36 (0, 0)) := by rw [h0]; exact box_new _ _ _
  have HS := Lib.hid (show E0.heap.size = w.heap.size + 1 by rw [h0, World.size_alloc])
  have HB := Lib.hid B0
  have HB0 := Lib.hid b0
  clear B0 b0
  go_enter Tryz.func23, Tryz.ntmps23
  go_wp2_with (at_make; rw [← h0]; refine wpList_make_full (P := Tryz.prog) _ rfl _ _ 33 rfl E0.heap.size 83 i0 (.agg #[.int .u8 0, .int .i64 0]) 2 Tryz.underlying33 hi0 hz0 hz1 .i64 .i64 _ _ 2 rfl rfl rfl rfl (by rw [hz2]; decide) (by decide) (Nat.le_refl _) ?_; intro w1 ho1 hg1; have HR1 := Lib.hid (own_cur2 ho1); have HK1 := Lib.hid ((Below.refl E0.heap.size E0).grown hg1 (Nat.le_refl _) (fun k hk => by cases hk)); have HKY := Lib.hid (show Below E0.heap.size E0 (w1.alloc (.cells #[.int .i64 0, .int .i64 0, .int .i64 0, .int .i64 1] 85)) from HK1.out.alloc HK1.out.size _); have v0 : (w1.alloc (.cells #[.int .i64 0, .int .i64 0, .int .i64 0, .int .i64 1] 85)).cell? ⟨w.heap.size, 0, none⟩ = some (.slice none 0 0) := cell_of (box_on HB0.out HKY.out (Nat.le_refl _)) rfl; have v1 : (w1.alloc (.cells #[.int .i64 0, .int .i64 0, .int .i64 0, .int .i64 1] 85)).cell? ⟨w.heap.size, 1, none⟩ = some (.slice none 0 0) := cell_of (box_on HB0.out HKY.out (Nat.le_refl _)) rfl; have u0 : (w1.alloc (.cells #[.int .i64 0, .int .i64 0, .int .i64 0, .int .i64 1] 85)).frozen? ⟨w.heap.size, 0, none⟩ = false := frz (box_on HB0.out HKY.out (Nat.le_refl _)) 0; have u1 : (w1.alloc (.cells #[.int .i64 0, .int .i64 0, .int .i64 0, .int .i64 1] 85)).frozen? ⟨w.heap.size, 1, none⟩ = false := frz (box_on HB0.out HKY.out (Nat.le_refl _)) 1; clear ho1 hg1)
  have e1 := HS.out
  have e2 := HK1.out.size
  have hrow : (w1.alloc (.cells #[.int .i64 0, .int .i64 0, .int .i64 0, .int .i64 1] 85)).heap[w.heap.size + 1]? = some (.cells (cellsV 2 hstV exW.hosts).toArray 83 (0, 0)) := by
    have h := HR1.out
    rw [made2, e1] at h
    exact old_heap _ h
  refine ret2w (i := 0) (b := w.heap.size) rfl rfl rfl (row_store2 (box_on HB0.out HKY.out (Nat.le_refl _)) _ _) ⟨⟨some ⟨w.heap.size + 1, 0, none⟩, 2, some ⟨w1.heap.size, 0, none⟩, 2⟩, rfl, ⟨own_block2 (n := 2) (by omega) (set_else (set_else hrow (by omega)) (by omega)) rfl (by decide), own_block2 (n := 2) (by omega) (set_else (set_else (box_new _ _ _) (by omega)) (by omega)) rfl (by decide)⟩, ?_⟩
  exact (((HB.out.trans (HKY.out.mono HB.out.size)).setCell (p := ⟨w.heap.size, 0, none⟩) (Nat.le_refl _) _).setCell (p := ⟨w.heap.size, 1, none⟩) (Nat.le_refl _) _)
theorem exWish : WishOk (svs wxs) := by
  refine ⟨by decide, fun i s h => ?_, by decide⟩
  match i, h with
  | 0, h => obtain rfl : _ = s := Option.some.inj h; decide +kernel
theorem exOk : WorldOk exD (svs wxs) exW := ⟨by decide +kernel, exWish, by decide, by decide +kernel, by decide, by decide +kernel, by decide +kernel⟩
def exZ (p : SP) (A : Option Addr) (c : Nat) (q : WP) : Sn := ⟨p, exD, A, c, wxs, q, exW⟩
theorem exZ_ok (p : SP) (A : Option Addr) (c : Nat) (q : WP) : true = true ↔ (exZ p A c q).Ok := ⟨fun _ => exOk, fun _ => rfl⟩
theorem ex_heat (p : SP) (A : Option Addr) (c : Nat) (q : WP) : heatV (exZ p A c q) true 0 = 400 := by
  show loadN exD (svs wxs) exW (isLoop exD 0) = 400; decide +kernel
theorem ex_lon : lonE true exD 0 0 200 = 0 ∧ lonV true 400 exD 0 0 200 = 2 := by
  constructor
  · decide +kernel
  · have h0 : hdE true exD 0 0 1000 = 0 := by decide +kernel
    rw [lonV_yes (by decide +kernel)]
    have e1000 : (1000 : Int).toNat = 1000 := by decide
    have hg : ∀ i : Nat, i ≤ 3 → (hdL true 400 exD 0 0 1000)[i]? = some (v6.lvE 250 0 ((v6.amts [(0, 1, 1)] [List.replicate 1000 400] 1000).take i)) := by
      intro i hi
      unfold hdL
      rw [if_pos h0]
      exact crs_get _ _ _ _ _ (by omega)
    have hl : (hdL true 400 exD 0 0 1000).length = 1001 := by rw [hdL_len h0, e1000]
    have ht : ∀ i : Nat, i ≤ 3 → (v6.amts [(0, 1, 1)] [List.replicate 1000 400] 1000).take i = ([0, 400, 400] : List Int).take i := by
      intro i hi
      have h3 : (v6.amts [(0, 1, 1)] [List.replicate 1000 400] 1000).take 3 = [0, 400, 400] := by decide +kernel
      rw [← h3, List.take_take, Nat.min_eq_left hi]
    rw [last_found (m := 3) hl (fun j y hj hy => by
      rw [hg j (by omega), ht j (by omega)] at hy
      injection hy with hy
      subst hy
      match j, hj with
      | 0, _ => decide +kernel
      | 1, _ => decide +kernel
      | 2, _ => decide +kernel) (by omega) (.inr ⟨_, by rw [hg 3 (by omega), ht 3 (by omega)], by decide +kernel⟩)]
    rfl
theorem c_siteTo (w : World) : Calls Tryz.prog 21 #[] w fun e w' => ∃ p, e = .returned (siV p exD) ∧ SiAt w' p exD ∧ Below w.heap.size w w' := (c_site w).mono fun e w' h => ⟨_, h.1, h.2.1, h.2.2⟩
theorem c_wishTo (w : World) : Calls Tryz.prog 22 #[] w fun e w' => ∃ A c, e = .returned (.agg #[.slice A wxs.length c]) ∧ WiAt w' A c wxs ∧ Below w.heap.size w w' := (c_wish w).mono fun e w' h => ⟨_, _, h.1, h.2.1, h.2.2⟩
theorem c_exTo (w : World) : Calls Tryz.prog 23 #[] w fun e w' => ∃ p, e = .returned (.agg #[.slice p.a1 exW.hosts.length p.c1, .slice p.a2 exW.reps.length p.c2]) ∧ WoAt w' p exW ∧ Below w.heap.size w w' := by
  refine (c_example w).mono ?_
  rintro e w' ⟨p, rfl, h, b⟩
  exact ⟨p, rfl, h.wo (by decide), b⟩
theorem exAfter (p : SP) (A : Option Addr) (c : Nat) (q : WP) (k start n r a : Int) (hk : k = 0) (hr : hdE true exD k start n = r) (ha : afV true 400 exD k start n = a) (w : World) (h1 : SiAt w p exD) (h2 : WiAt w A c wxs) (h3 : WoAt w q exW) :
    Calls Tryz.prog 16 #[.agg #[.slice p.a1 exD.feeds.length p.c1, .slice p.a2 exD.brks.length p.c2, .slice p.a3 exD.loops.length p.c3, .slice p.a4 exD.racks.length p.c4, .int .i64 exD.sw, .slice p.a5 exD.links.length p.c5, .slice p.a6 exD.hosts.length p.c6], .agg #[.slice A wxs.length c], .agg #[.slice q.a1 exW.hosts.length q.c1, .slice q.a2 exW.reps.length q.c2], .int .i64 k, .int .i64 start, .int .i64 n] w fun e w' => e = .returned (.tuple #[.int .i64 a, .int .i64 r]) ∧ Below w.heap.size w w' := c_coAfter (exZ p A c q) true (exZ_ok p A c q) k start n w ⟨h1, h2, h3⟩ 400 (by subst hk; exact ex_heat p A c q) r hr a ha
theorem exLon (p : SP) (A : Option Addr) (c : Nat) (q : WP) (start lim r a : Int) (hr : lonE true exD 0 start lim = r) (ha : lonV true 400 exD 0 start lim = a) (w : World) (h1 : SiAt w p exD) (h2 : WiAt w A c wxs) (h3 : WoAt w q exW) :
    Calls Tryz.prog 18 #[.agg #[.slice p.a1 exD.feeds.length p.c1, .slice p.a2 exD.brks.length p.c2, .slice p.a3 exD.loops.length p.c3, .slice p.a4 exD.racks.length p.c4, .int .i64 exD.sw, .slice p.a5 exD.links.length p.c5, .slice p.a6 exD.hosts.length p.c6], .agg #[.slice A wxs.length c], .agg #[.slice q.a1 exW.hosts.length q.c1, .slice q.a2 exW.reps.length q.c2], .int .i64 0, .int .i64 start, .int .i64 lim] w fun e w' => e = .returned (.tuple #[.int .i64 a, .int .i64 r]) ∧ Below w.heap.size w w' := c_coLongest (exZ p A c q) true (exZ_ok p A c q) 0 start lim w ⟨h1, h2, h3⟩ 400 (ex_heat p A c q) r hr a ha
theorem exHeat (p : SP) (A : Option Addr) (c : Nat) (q : WP) (k v : Int) (hv : heatV (exZ p A c q) true k = v) (w : World) (h1 : SiAt w p exD) (h2 : WiAt w A c wxs) (h3 : WoAt w q exW) :
    Calls Tryz.prog 11 #[.agg #[.slice p.a1 exD.feeds.length p.c1, .slice p.a2 exD.brks.length p.c2, .slice p.a3 exD.loops.length p.c3, .slice p.a4 exD.racks.length p.c4, .int .i64 exD.sw, .slice p.a5 exD.links.length p.c5, .slice p.a6 exD.hosts.length p.c6], .agg #[.slice A wxs.length c], .agg #[.slice q.a1 exW.hosts.length q.c1, .slice q.a2 exW.reps.length q.c2], .int .i64 k] w fun e w' => e = .returned (.int .i64 v) ∧ Below w.heap.size w w' := c_coHeat (exZ p A c q) true (exZ_ok p A c q) k w ⟨h1, h2, h3⟩ v hv
theorem ex_a2 : hdE true exD 0 0 2 = 0 ∧ afV true 400 exD 0 0 2 = 150 := by constructor <;> decide +kernel
set_option maxHeartbeats 16000000 in
theorem c_live (w : World) : Calls Tryz.prog 8 #[] w fun e w' => e = .returned (.bool true) ∧ Below w.heap.size w w' := by
  have HBw := Lib.hid (Below.refl w.heap.size w)
  go_enter Tryz.func8, Tryz.ntmps8
  go_wp2_with (fail)
  go_at_call 21
  refine (c_siteTo w).mono ?_
  rintro e v1 ⟨p, rfl, h1, bb⟩
  have HBv1 := Lib.hid (below_join HBw.out bb HBw.out.size)
  have S1v1 := Lib.hid h1; clear h1
  clear bb
  unfold siV
  go_wp2_with (fail)
  go_at_call 22
  refine (c_wishTo v1).mono ?_
  rintro e v2 ⟨A, c, rfl, h1, bb⟩
  have HBv2 := Lib.hid (below_join HBv1.out bb HBv1.out.size)
  have S1v2 := Lib.hid (S1v1.out.on bb (Nat.le_refl _))
  have S2v2 := Lib.hid h1; clear h1
  clear bb
  go_wp2_with (fail)
  go_at_call 23
  refine (c_exTo v2).mono ?_
  rintro e v3 ⟨q, rfl, h1, bb⟩
  have HBv3 := Lib.hid (below_join HBv2.out bb HBv2.out.size)
  have S1v3 := Lib.hid (S1v2.out.on bb (Nat.le_refl _))
  have S2v3 := Lib.hid (S2v2.out.on bb (Nat.le_refl _))
  have S3v3 := Lib.hid h1; clear h1
  clear bb
  go_wp2_with (fail)
  go_at_call 16
  refine (exAfter p A c q 0 0 2 0 150 rfl ex_a2.1 ex_a2.2 v3 S1v3.out S2v3.out S3v3.out).mono ?_
  rintro e v4 ⟨rfl, bb⟩
  have HBv4 := Lib.hid (below_join HBv3.out bb HBv3.out.size)
  have S1v4 := Lib.hid (S1v3.out.on bb (Nat.le_refl _))
  have S2v4 := Lib.hid (S2v3.out.on bb (Nat.le_refl _))
  have S3v4 := Lib.hid (S3v3.out.on bb (Nat.le_refl _))
  clear bb
  go_wp2_with (fail)
  go_at_call 21
  refine (c_siteTo v4).mono ?_
  rintro e v5 ⟨p, rfl, h1, bb⟩
  have HBv5 := Lib.hid (below_join HBv4.out bb HBv4.out.size)
  have S1v5 := Lib.hid h1; clear h1
  clear bb
  unfold siV
  go_wp2_with (fail)
  go_at_call 22
  refine (c_wishTo v5).mono ?_
  rintro e v6 ⟨A, c, rfl, h1, bb⟩
  have HBv6 := Lib.hid (below_join HBv5.out bb HBv5.out.size)
  have S1v6 := Lib.hid (S1v5.out.on bb (Nat.le_refl _))
  have S2v6 := Lib.hid h1; clear h1
  clear bb
  go_wp2_with (fail)
  go_at_call 23
  refine (c_exTo v6).mono ?_
  rintro e v7 ⟨q, rfl, h1, bb⟩
  have HBv7 := Lib.hid (below_join HBv6.out bb HBv6.out.size)
  have S1v7 := Lib.hid (S1v6.out.on bb (Nat.le_refl _))
  have S2v7 := Lib.hid (S2v6.out.on bb (Nat.le_refl _))
  have S3v7 := Lib.hid h1; clear h1
  clear bb
  go_wp2_with (fail)
  go_at_call 18
  refine (exLon p A c q 0 200 0 2 ex_lon.1 ex_lon.2 v7 S1v7.out S2v7.out S3v7.out).mono ?_
  rintro e v8 ⟨rfl, bb⟩
  have HBv8 := Lib.hid (below_join HBv7.out bb HBv7.out.size)
  have S1v8 := Lib.hid (S1v7.out.on bb (Nat.le_refl _))
  have S2v8 := Lib.hid (S2v7.out.on bb (Nat.le_refl _))
  have S3v8 := Lib.hid (S3v7.out.on bb (Nat.le_refl _))
  clear bb
  go_wp2_with (fail)
  go_at_call 21
  refine (c_siteTo v8).mono ?_
  rintro e v9 ⟨p, rfl, h1, bb⟩
  have HBv9 := Lib.hid (below_join HBv8.out bb HBv8.out.size)
  have S1v9 := Lib.hid h1; clear h1
  clear bb
  unfold siV
  go_wp2_with (fail)
  go_at_call 22
  refine (c_wishTo v9).mono ?_
  rintro e v10 ⟨A, c, rfl, h1, bb⟩
  have HBv10 := Lib.hid (below_join HBv9.out bb HBv9.out.size)
  have S1v10 := Lib.hid (S1v9.out.on bb (Nat.le_refl _))
  have S2v10 := Lib.hid h1; clear h1
  clear bb
  go_wp2_with (fail)
  go_at_call 23
  refine (c_exTo v10).mono ?_
  rintro e v11 ⟨q, rfl, h1, bb⟩
  have HBv11 := Lib.hid (below_join HBv10.out bb HBv10.out.size)
  have S1v11 := Lib.hid (S1v10.out.on bb (Nat.le_refl _))
  have S2v11 := Lib.hid (S2v10.out.on bb (Nat.le_refl _))
  have S3v11 := Lib.hid h1; clear h1
  clear bb
  go_wp2_with (fail)
  go_at_call 11
  refine (exHeat p A c q 0 400 (ex_heat p A c q) v11 S1v11.out S2v11.out S3v11.out).mono ?_
  rintro e v12 ⟨rfl, bb⟩
  have HBv12 := Lib.hid (below_join HBv11.out bb HBv11.out.size)
  have S1v12 := Lib.hid (S1v11.out.on bb (Nat.le_refl _))
  have S2v12 := Lib.hid (S2v11.out.on bb (Nat.le_refl _))
  have S3v12 := Lib.hid (S3v11.out.on bb (Nat.le_refl _))
  clear bb
  go_wp2_with (fail)
  go_ret
  exact ⟨rfl, HBv12.out⟩
end Go.Proofs.YtpokpgnclohiiaaGreat

namespace Go.Proofs.YtpokpgnclohiiaaGreat
open Go.RowKit
set_option maxRecDepth 100000
set_option linter.unusedVariables false
set_option linter.unusedSimpArgs false

def zS (p : SP) (s : SiteD) : Sn := ⟨p, s, none, 0, [], ⟨none, 0, none, 0⟩, ⟨[], []⟩⟩
def FewS (s : SiteD) : Prop := s.feeds.length ≤ 60 ∧ s.brks.length ≤ 60 ∧ s.loops.length ≤ 60 ∧ s.racks.length ≤ 60 ∧ s.links.length ≤ 60 ∧ s.hosts.length ≤ 60
theorem zS_at {w : World} {p : SP} {s : SiteD} (h : SiAt w p s) : SnAt w (zS p s) := ⟨h, ⟨Rv.nil _, fun x hx => by cases hx⟩, ⟨Rv.nil _, Rv.nil _, fun h hh => by cases hh⟩⟩
theorem fewS_iff (p : SP) (s : SiteD) : FewZ (zS p s) ↔ FewS s := by
  unfold FewZ FewS zS
  simp
theorem c_fewS (p : SP) (s : SiteD) (r : Bool) (hr : r = true ↔ FewS s) (w : World) (h : SiAt w p s) :
    Calls Tryz.prog 7 #[.agg #[.slice p.a1 s.feeds.length p.c1, .slice p.a2 s.brks.length p.c2, .slice p.a3 s.loops.length p.c3, .slice p.a4 s.racks.length p.c4, .int .i64 s.sw, .slice p.a5 s.links.length p.c5, .slice p.a6 s.hosts.length p.c6], .agg #[.slice none 0 0], .agg #[.slice none 0 0, .slice none 0 0]] w fun e w' => e = .returned (.bool r) ∧ Below w.heap.size w w' :=
  c_fewZ (zS p s) r (hr.trans (fewS_iff p s).symm) w (zS_at h)
end Go.Proofs.YtpokpgnclohiiaaGreat

namespace Go.Proofs.YtpokpgnclohiiaaGreat
open Go.ChangeShapes Go.WideShapes Go.Deep Go.RowKit
set_option maxRecDepth 100000
set_option linter.unusedSimpArgs false
set_option linter.unusedVariables false

section
variable {H : Type} {enc : TypeId × Value → H} {W : World} {base : Nat} {spare : Nat → Bool} {held : Bool} {r : Go.Reach} {b0 : Nat} {v : Value} {d : DataW H} {p : List MemPlace}
theorem open_isl {fuel : Nat} {x : DataW H × List MemPlace} (hf : DataW.trod enc Tryz.prog W base spare held fuel 49 [v] = some x) : ∃ l, v6.IntSl W v l := by
  rcases open_ints Tryz.underlying49 Tryz.underlying3 (by kernel_rfl) hf with ⟨h0, -⟩ | ⟨a, len, cap, zs, hcs, hb, hl, hm, hz, -, hc, hwf⟩
  · simp at h0
    subst h0
    exact ⟨[], v6.IntSl.nil W⟩
  · simp at hcs
    subst hcs
    have hlz : len ≤ zs.length := by rw [hz]; split <;> omega
    have hlen : (zs.take len).length = len := by simp; omega
    refine ⟨zs.take len, some a, cap, by rw [hlen], by rw [hlen]; exact hl, hm, (by intro h; cases h), fun h0 => ?_⟩
    rw [hlen] at h0
    have hc0 := hc 0 (by omega)
    obtain ⟨b, off, rfl, hlt⟩ := add_spot hc0
    refine ⟨b, off, rfl, hlt, fun j x hj => ?_⟩
    have hjl : j < len := by
      have := (List.getElem?_eq_some_iff.1 hj).1
      omega
    rw [List.getElem?_take_of_lt hjl] at hj
    have h1 := hc j (by omega)
    rw [plain_add, List.getD_eq_getElem?_getD, hj] at h1
    exact h1
theorem open_il (h : DataW.Trod enc Tryz.prog W base spare held 49 v d p) (hv : Value.okWide Tryz.prog W r b0 49 v) : ∃ l, v6.IntSl W v l := by
  obtain ⟨a0, len0, cap0, rfl⟩ := okWide_slice Tryz.underlying49 hv
  obtain ⟨fuel, hf⟩ := h
  exact open_isl (by simpa [Value.cells] using hf)
end
end Go.Proofs.YtpokpgnclohiiaaGreat
