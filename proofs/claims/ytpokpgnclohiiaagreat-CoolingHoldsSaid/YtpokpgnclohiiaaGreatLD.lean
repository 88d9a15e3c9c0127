/-
  The law CoolingHolds (written by gen/cool_L.py).
-/
import Derived.Test.YtpokpgnclohiiaaGreatPO2
import Derived.Test.YtpokpgnclohiiaaGreatPB5
set_option linter.unusedVariables false
set_option linter.unusedSimpArgs false
namespace Go.Proofs.YtpokpgnclohiiaaGreat
open Go.RowKit
set_option maxRecDepth 100000
set_option linter.unusedVariables false
set_option linter.unusedSimpArgs false

theorem mod_small (n : Int) : 0 ≤ wrap64 ((IntKind.u64.wrap n).tmod 1001) ∧ wrap64 ((IntKind.u64.wrap n).tmod 1001) ≤ 1000 := by
  have h : 0 ≤ IntKind.u64.wrap n := by
    unfold IntKind.wrap
    have := Int.emod_nonneg n (b := 18446744073709551616) (by omega)
    simp [IntKind.signed, IntKind.bits]
    omega
  have h1 := Int.tmod_eq_emod_of_nonneg (b := 1001) h
  rw [h1]
  have e : wrap64 (IntKind.u64.wrap n % 1001) = IntKind.u64.wrap n % 1001 := by unfold wrap64; omega
  rw [e]
  omega
set_option maxHeartbeats 32000000 in
theorem w_CoolingHolds (z : Sn) (w : World) (hz : SnAt w z) (n : Int) :
    Calls Tryz.prog 6 #[.agg #[.slice z.p.a1 z.s.feeds.length z.p.c1, .slice z.p.a2 z.s.brks.length z.p.c2, .slice z.p.a3 z.s.loops.length z.p.c3, .slice z.p.a4 z.s.racks.length z.p.c4, .int .i64 z.s.sw, .slice z.p.a5 z.s.links.length z.p.c5, .slice z.p.a6 z.s.hosts.length z.p.c6], .agg #[.slice z.A z.xs.length z.c], .agg #[.slice z.q.a1 z.d.hosts.length z.q.c1, .slice z.q.a2 z.d.reps.length z.q.c2], .int .i64 n] w fun e w' => e = .returned (.bool true) ∧ Below w.heap.size w w' := by
  have HLV := Lib.hid (fun (X : World) => c_live X)
  obtain ⟨W1, h1⟩ : ∃ W, W = w.alloc (.cells #[.slice z.p.a1 z.s.feeds.length z.p.c1, .slice z.p.a2 z.s.brks.length z.p.c2, .slice z.p.a3 z.s.loops.length z.p.c3, .slice z.p.a4 z.s.racks.length z.p.c4, .int .i64 z.s.sw, .slice z.p.a5 z.s.links.length z.p.c5, .slice z.p.a6 z.s.hosts.length z.p.c6] 29) := ⟨_, rfl⟩
  obtain ⟨W2, h2⟩ : ∃ W, W = W1.alloc (.cells #[.slice z.A z.xs.length z.c] 32) := ⟨_, rfl⟩
  obtain ⟨W, h3⟩ : ∃ W, W = W2.alloc (.cells #[.slice z.q.a1 z.d.hosts.length z.q.c1, .slice z.q.a2 z.d.reps.length z.q.c2] 36) := ⟨_, rfl⟩
  obtain ⟨B0, X1⟩ := sn_boxes h1 h2 h3
  have z3 : W.heap.size = w.heap.size + 1 + 1 + 1 := sn_size h1 h2 h3
  have HB := Lib.hid B0
  have Z0 := hz.on B0 (Nat.le_refl _)
  have HZ := Lib.hid (fun (X : World) (hX : Below W.heap.size W X) => Z0.on hX (Nat.le_refl _))
  have HF := Lib.hid (fun (X : World) (hX : Below W.heap.size W X) => ((X1.on hX (Nat.le_refl _)).cells : X.cell? ⟨w.heap.size, 0, none⟩ = some (.slice z.p.a1 z.s.feeds.length z.p.c1) ∧ X.cell? ⟨w.heap.size, 1, none⟩ = some (.slice z.p.a2 z.s.brks.length z.p.c2) ∧ X.cell? ⟨w.heap.size, 2, none⟩ = some (.slice z.p.a3 z.s.loops.length z.p.c3) ∧ X.cell? ⟨w.heap.size, 3, none⟩ = some (.slice z.p.a4 z.s.racks.length z.p.c4) ∧ X.cell? ⟨w.heap.size, 4, none⟩ = some (.int .i64 z.s.sw) ∧ X.cell? ⟨w.heap.size, 5, none⟩ = some (.slice z.p.a5 z.s.links.length z.p.c5) ∧ X.cell? ⟨w.heap.size, 6, none⟩ = some (.slice z.p.a6 z.s.hosts.length z.p.c6) ∧ X.cell? ⟨w.heap.size + 1, 0, none⟩ = some (.slice z.A z.xs.length z.c) ∧ X.cell? ⟨w.heap.size + 1 + 1, 0, none⟩ = some (.slice z.q.a1 z.d.hosts.length z.q.c1) ∧ X.cell? ⟨w.heap.size + 1 + 1, 1, none⟩ = some (.slice z.q.a2 z.d.reps.length z.q.c2)))
  have HX := Lib.hid (fun (X : World) (hX : Below W.heap.size W X) => X1.on hX (Nat.le_refl _))
  have HKW := Lib.hid (Below.refl W.heap.size W)
  have hle := HB.out.size
  obtain ⟨n1, n2, n3, n4, n5, n6, n7, n8⟩ := hz.bounds
  clear hz B0 X1 z3 Z0
  obtain ⟨f0, f1, f2, f3, f4, f5, f6, g0, g1, g2⟩ := HF.out W HKW.out
  rw [h3, h2, h1] at f0 f1 f2 f3 f4 f5 f6 g0 g1 g2
  generalize hBB : w.heap.size = B at *
  go_enter Tryz.func6, Tryz.ntmps6
  go_wp2_with (fail)
  rw [← h1, ← h2, ← h3]
  clear h1 h2 h3 f0 f1 f2 f3 f4 f5 f6 g0 g1 g2
  obtain ⟨r, hr⟩ := bool_of (FewZ z)
  have HR := Lib.hid hr
  clear hr
  go_at_call 7
  refine (c_fewZ z r HR.out W (HZ.out W HKW.out)).mono ?_
  rintro e v1 ⟨rfl, bb⟩
  have HKv1 := Lib.hid (below_join HKW.out bb HKW.out.size)
  clear bb
  cases r
  · skip
    go_wp2_with (fail)
    go_at_call 8
    refine (HLV.out v1).mono ?_
    rintro e v102 ⟨rfl, bb⟩
    have HKv102 := Lib.hid (below_join HKv1.out bb HKv1.out.size)
    clear bb
    go_wp2_with (fail)
    go_ret
    exact ⟨rfl, below_join HB.out HKv102.out hle⟩
  obtain ⟨r0, hr0⟩ := bool_of z.Ok
  have HR0 := Lib.hid hr0
  clear hr0
  obtain ⟨f0, f1, f2, f3, f4, f5, f6, g0, g1, g2⟩ := HF.out v1 HKv1.out
  go_wp2_with (fail)
  clear f0 f1 f2 f3 f4 f5 f6 g0 g1 g2
  go_at_call 20
  refine (c_wvTo z r0 HR0.out v1 (HZ.out v1 HKv1.out)).mono ?_
  rintro e v153 ⟨rfl, bb⟩
  have HKv153 := Lib.hid (below_join HKv1.out bb HKv1.out.size)
  clear bb
  cases r0
  · skip
    go_wp2_with (fail)
    go_at_call 8
    refine (HLV.out v153).mono ?_
    rintro e v254 ⟨rfl, bb⟩
    have HKv254 := Lib.hid (below_join HKv153.out bb HKv153.out.size)
    clear bb
    go_wp2_with (fail)
    go_ret
    exact ⟨rfl, below_join HB.out HKv254.out hle⟩
  have HOK := Lib.hid (HR0.out.1 (by trivial))
  go_wp2_with (fail)
  have hl4 := (siteOk_iff.1 HOK.out.1).nloops.2
  go_loopw [9] (fun i wr => ∃ k : Nat, k ≤ z.s.loops.length ∧ i = .int .i64 (k : Int) ∧ Hid (Below W.heap.size W wr)) (fun i _ => z.s.loops.length - (intOf i).toNat)
  case atStart => exact ⟨0, Nat.zero_le _, rfl, HKv153⟩
  case round =>
    obtain ⟨k, hk, rfl, HKwr⟩ := hrel
    have hki : ((k : Nat) : Int).toNat = k := by omega
    obtain ⟨f0, f1, f2, f3, f4, f5, f6, g0, g1, g2⟩ := HF.out wr HKwr.out
    by_cases hlt : k < z.s.loops.length
    · obtain ⟨x, hx⟩ : ∃ x, z.s.loops[k]? = some x := ⟨_, List.getElem?_eq_getElem hlt⟩
      have HXX := Lib.hid hx
      obtain ⟨pb, po, e1, hpb, x0, -⟩ := lp_at (HZ.out W HKW.out).si hx
      have HX1 := Lib.hid (fun (X : World) (h : Below W.heap.size W X) => ((h.cell (p := ⟨pb, po + k * 2, none⟩) hpb).trans x0 : X.cell? ⟨pb, po + k * 2, none⟩ = some (.int .i64 x.carry)))
      have hki2 : (k : Int) < (z.s.loops.length : Int) := by omega
      obtain ⟨ht, hht⟩ : ∃ y, heatV z true (k : Int) = y := ⟨_, rfl⟩
      have HT := Lib.hid hht
      obtain ⟨m, hm⟩ : ∃ t, wrap64 ((IntKind.u64.wrap n).tmod 1001) = t := ⟨_, rfl⟩
      have HM := Lib.hid hm
      have bm : 0 ≤ m ∧ m ≤ 1000 := by rw [← hm]; exact mod_small n
      have HCH := Lib.hid (fun (X : World) (h : Below W.heap.size W X) => c_coHeat z true (⟨fun _ => HOK.out, fun _ => rfl⟩) (k : Int) X (HZ.out X h) ht HT.out)
      have hF2 : (wr.cell? ⟨B, 0, none⟩ = some (.slice z.p.a1 z.s.feeds.length z.p.c1) ∧ wr.cell? ⟨B, 1, none⟩ = some (.slice z.p.a2 z.s.brks.length z.p.c2) ∧ wr.cell? ⟨B, 2, none⟩ = some (.slice (some ⟨pb, po, none⟩) z.s.loops.length z.p.c3) ∧ wr.cell? ⟨B, 3, none⟩ = some (.slice z.p.a4 z.s.racks.length z.p.c4) ∧ wr.cell? ⟨B, 4, none⟩ = some (.int .i64 z.s.sw) ∧ wr.cell? ⟨B, 5, none⟩ = some (.slice z.p.a5 z.s.links.length z.p.c5) ∧ wr.cell? ⟨B, 6, none⟩ = some (.slice z.p.a6 z.s.hosts.length z.p.c6) ∧ wr.cell? ⟨B + 1, 0, none⟩ = some (.slice z.A z.xs.length z.c) ∧ wr.cell? ⟨B + 1 + 1, 0, none⟩ = some (.slice z.q.a1 z.d.hosts.length z.q.c1) ∧ wr.cell? ⟨B + 1 + 1, 1, none⟩ = some (.slice z.q.a2 z.d.reps.length z.q.c2)) ∧ wr.cell? ⟨pb, po + k * 2, none⟩ = some (.int .i64 x.carry) := by
        rw [← e1]; exact ⟨HF.out wr HKwr.out, HX1.out wr HKwr.out⟩
      have HFF := Lib.hid (fun (X : World) (h : Below W.heap.size W X) => (by rw [← e1]; exact ⟨HF.out X h, HX1.out X h⟩ : (X.cell? ⟨B, 0, none⟩ = some (.slice z.p.a1 z.s.feeds.length z.p.c1) ∧ X.cell? ⟨B, 1, none⟩ = some (.slice z.p.a2 z.s.brks.length z.p.c2) ∧ X.cell? ⟨B, 2, none⟩ = some (.slice (some ⟨pb, po, none⟩) z.s.loops.length z.p.c3) ∧ X.cell? ⟨B, 3, none⟩ = some (.slice z.p.a4 z.s.racks.length z.p.c4) ∧ X.cell? ⟨B, 4, none⟩ = some (.int .i64 z.s.sw) ∧ X.cell? ⟨B, 5, none⟩ = some (.slice z.p.a5 z.s.links.length z.p.c5) ∧ X.cell? ⟨B, 6, none⟩ = some (.slice z.p.a6 z.s.hosts.length z.p.c6) ∧ X.cell? ⟨B + 1, 0, none⟩ = some (.slice z.A z.xs.length z.c) ∧ X.cell? ⟨B + 1 + 1, 0, none⟩ = some (.slice z.q.a1 z.d.hosts.length z.q.c1) ∧ X.cell? ⟨B + 1 + 1, 1, none⟩ = some (.slice z.q.a2 z.d.reps.length z.q.c2)) ∧ X.cell? ⟨pb, po + k * 2, none⟩ = some (.int .i64 x.carry)))
      have HCA := Lib.hid (fun (r a : Int) (hr : hdE true z.s (k : Int) 0 m = r) (ha : afV true ht z.s (k : Int) 0 m = a) (X : World) (h : Below W.heap.size W X) => c_coAfter z true (⟨fun _ => HOK.out, fun _ => rfl⟩) (k : Int) 0 m X (HZ.out X h) ht HT.out r hr a ha)
      rw [e1] at HCH HCA
      clear hx hht hm x0 f0 f1 f2 f3 f4 f5 f6 g0 g1 g2 e1
      obtain ⟨⟨f0, f1, f2, f3, f4, f5, f6, g0, g1, g2⟩, x1⟩ := hF2
      go_wp2_with (fail)
      go_region_held3 (fun X => (X.cell? ⟨B, 0, none⟩ = some (.slice z.p.a1 z.s.feeds.length z.p.c1) ∧ X.cell? ⟨B, 1, none⟩ = some (.slice z.p.a2 z.s.brks.length z.p.c2) ∧ X.cell? ⟨B, 2, none⟩ = some (.slice (some ⟨pb, po, none⟩) z.s.loops.length z.p.c3) ∧ X.cell? ⟨B, 3, none⟩ = some (.slice z.p.a4 z.s.racks.length z.p.c4) ∧ X.cell? ⟨B, 4, none⟩ = some (.int .i64 z.s.sw) ∧ X.cell? ⟨B, 5, none⟩ = some (.slice z.p.a5 z.s.links.length z.p.c5) ∧ X.cell? ⟨B, 6, none⟩ = some (.slice z.p.a6 z.s.hosts.length z.p.c6) ∧ X.cell? ⟨B + 1, 0, none⟩ = some (.slice z.A z.xs.length z.c) ∧ X.cell? ⟨B + 1 + 1, 0, none⟩ = some (.slice z.q.a1 z.d.hosts.length z.q.c1) ∧ X.cell? ⟨B + 1 + 1, 1, none⟩ = some (.slice z.q.a2 z.d.reps.length z.q.c2)) ∧ X.cell? ⟨pb, po + k * 2, none⟩ = some (.int .i64 x.carry))
        (first | exact HFF.out v305 HKv305.out | exact HFF.out wr HKwr.out | fail)
        (first
          | (go_at_call 11; (with_reducible refine (HCH.out wr.drew HKwr.out.drew).mono ?_); rintro e v305 ⟨rfl, bb0⟩; have bb := below_join (Below.refl wr.heap.size wr).drew bb0 (Nat.le_refl _); have HKv305 := Lib.hid (below_join HKwr.out bb HKwr.out.size); clear bb bb0)
          | fail)
      clear f0 f1 f2 f3 f4 f5 f6 g0 g1 g2 x1
      rcases hp : decide (x.carry < ht) with _ | _
      rotate_left
      · skip
        go_wp2_with (fail)
        go_roundw
        case rel => exact ⟨k + 1, by omega, by go_num, HKv305⟩
        case measure => simp only [intOf]; omega
      have hp' := of_decide_eq_false hp
      have hlo : lpOk z.s (k : Int) = true := by unfold lpOk; rw [HOK.out.1, Bool.true_and]; exact ixB_iff.2 (by omega)
      have hE : hdE true z.s (k : Int) 0 m = 0 := hdE_zero.2 ⟨hdOk_iff.2 ⟨⟨rfl, by omega, by omega⟩, bm⟩, hlo⟩
      have hA : afV true ht z.s (k : Int) 0 m = 0 := after_cold hE (by rw [← HT.out]; exact (heatV_bd (r0 := true) ⟨fun _ => HOK.out, fun _ => rfl⟩ _).1) (by rw [lpAt_eq (x := x) (by rw [Int.toNat_natCast]; exact HXX.out)]; omega)
      have HE := Lib.hid hE
      have HA0 := Lib.hid hA
      clear hE hA hlo
      obtain ⟨⟨f0, f1, f2, f3, f4, f5, f6, g0, g1, g2⟩, x1⟩ := HFF.out v305 HKv305.out
      go_wp2_with (fail)
      clear f0 f1 f2 f3 f4 f5 f6 g0 g1 g2 x1
      rw [HM.out]
      go_at_call 16
      refine (HCA.out 0 0 HE.out HA0.out v305 HKv305.out).mono ?_
      rintro e v456 ⟨rfl, bb⟩
      have HKv456 := Lib.hid (below_join HKv305.out bb HKv305.out.size)
      clear bb
      go_wp2_with (fail)
      go_roundw
      case rel => exact ⟨k + 1, by omega, by go_num, HKv456⟩
      case measure => simp only [intOf]; omega
    · obtain rfl : k = z.s.loops.length := by omega
      go_wp2_with (fail)
      go_at_call 8
      refine (HLV.out wr).mono ?_
      rintro e v457 ⟨rfl, bb⟩
      have HKv457 := Lib.hid (below_join HKwr.out bb HKwr.out.size)
      clear bb
      go_wp2_with (fail)
      go_ret
      exact ⟨rfl, below_join HB.out HKv457.out hle⟩
theorem row_CoolingHolds (w : World) (p : SP) (s : SiteD) (hs : SiAt w p s) (A : Option Addr) (c : Nat) (xs : List (Svc × SvA)) (hx : WiAt w A c xs) (q : WP) (d : WorldD) (hd : WoAt w q d) (n : Int) :
    Calls Tryz.prog 6 #[siV p s, .agg #[.slice A xs.length c], .agg #[.slice q.a1 d.hosts.length q.c1, .slice q.a2 d.reps.length q.c2], .int .i64 n] w fun e w' => e = .returned (.bool true) ∧ Below w.heap.size w w' := w_CoolingHolds ⟨p, s, A, c, xs, q, d⟩ w ⟨hs, hx, hd⟩ n
end Go.Proofs.YtpokpgnclohiiaaGreat
