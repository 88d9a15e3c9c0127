/-
  The law PowerBears (written by gen/power_H.py).
-/
import Derived.Test.YtidpiokkfnhobaaGreatPO4
set_option linter.unusedVariables false
set_option linter.unusedSimpArgs false
namespace Go.Proofs.YtidpiokkfnhobaaGreat
open Go.RowKit
set_option maxRecDepth 100000
set_option linter.unusedVariables false
set_option linter.unusedSimpArgs false

theorem okT {z : Sn} (ok : z.Ok) : true = true ↔ z.Ok := ⟨fun _ => ok, fun _ => rfl⟩
theorem bears_iff {z : Sn} (ok : z.Ok) {b : Nat} (hb : b < z.s.brks.length) : (bearV z true (b : Int) == -1) = decide (ldB z.s z.ss z.d b ≤ bkL z.s b) := by
  obtain ⟨x, hx⟩ : ∃ x, z.s.brks[b]? = some x := ⟨_, List.getElem?_eq_getElem hb⟩
  have h := (siteOk_iff.1 ok.1).brks _ (List.mem_of_getElem? hx)
  have hl := load_bd ok (isBrk z.s (b : Int))
  have e1 : bkL z.s b = x.limit := by unfold bkL; rw [hx]; rfl
  have e2 : pwV z true (isBrk z.s (b : Int)) = ldB z.s z.ss z.d b := rfl
  have e3 : ldB z.s z.ss z.d b = loadN z.s z.ss z.d (isBrk z.s (b : Int)) := rfl
  unfold bearV
  rw [if_pos ⟨rfl, by omega, by omega⟩, Int.toNat_natCast, bkAt_eq hx, e2, e1]
  generalize hL : ldB z.s z.ss z.d b = L at *
  have hf : v7.fltH x.limit x.slow (max x.fast x.limit) 0 [L] = 0 := by
    unfold v7.fltH
    rw [if_pos (v7.bOk_iff.2 ⟨h.2.1.1, h.2.1.2, h.2.2.1.1, h.2.2.1.2, by omega, by omega⟩), if_pos]
    rw [v7.lsOk_single]
    simp only [Bool.and_eq_true, decide_eq_true_eq, v7.wOk_iff]
    omega
  unfold v7.lastsP
  rw [if_pos hf]
  unfold v7.lst
  by_cases hle : L ≤ x.limit
  · rw [if_pos hle, decide_eq_true hle]; rfl
  · rw [if_neg hle, decide_eq_false hle]
    split
    · rfl
    · have h0 : 0 ≤ (x.slow - 0) / (L - x.limit) := Int.ediv_nonneg (by omega) (by omega)
      rw [beq_eq_false_iff_ne]
      omega
set_option maxHeartbeats 32000000 in
theorem w_PowerBears (z : Sn) (w : World) (hz : SnAt w z) :
    Calls Tryz.prog 6 #[.agg #[.slice z.p.a1 z.s.feeds.length z.p.c1, .slice z.p.a2 z.s.brks.length z.p.c2, .slice z.p.a3 z.s.loops.length z.p.c3, .slice z.p.a4 z.s.racks.length z.p.c4, .int .i64 z.s.sw, .slice z.p.a5 z.s.links.length z.p.c5, .slice z.p.a6 z.s.hosts.length z.p.c6], .agg #[.slice z.A z.xs.length z.c], .agg #[.slice z.q.a1 z.d.hosts.length z.q.c1, .slice z.q.a2 z.d.reps.length z.q.c2]] w fun e w' => e = .returned (.bool true) ∧ Below w.heap.size w w' := by
  have HLV := Lib.hid (fun (X : World) => c_live X)
  obtain ⟨W1, h1⟩ : ∃ W, W = w.alloc (.cells #[.slice z.p.a1 z.s.feeds.length z.p.c1, .slice z.p.a2 z.s.brks.length z.p.c2, .slice z.p.a3 z.s.loops.length z.p.c3, .slice z.p.a4 z.s.racks.length z.p.c4, .int .i64 z.s.sw, .slice z.p.a5 z.s.links.length z.p.c5, .slice z.p.a6 z.s.hosts.length z.p.c6] 29) := ⟨_, rfl⟩
  obtain ⟨W2, h2⟩ : ∃ W, W = W1.alloc (.cells #[.slice z.A z.xs.length z.c] 32) := ⟨_, rfl⟩
  obtain ⟨W, h3⟩ : ∃ W, W = W2.alloc (.cells #[.slice z.q.a1 z.d.hosts.length z.q.c1, .slice z.q.a2 z.d.reps.length z.q.c2] 36) := ⟨_, rfl⟩
  obtain ⟨B0, X1⟩ := sn_boxes h1 h2 h3
  have z3 : W.heap.size = w.heap.size + 1 + 1 + 1 := sn_size h1 h2 h3
  have HB := Lib.hid B0
  have Z0 := hz.on B0 (Nat.le_refl _)
  have HZ := Lib.hid (fun (X : World) (hX : Below W.heap.size W X) => Z0.on hX (Nat.le_refl _))
  have HF := Lib.hid (fun (X : World) (hX : Below W.heap.size W X) => ((X1.on hX (Nat.le_refl _)).cells : X.cell? ⟨w.heap.size, 0, none⟩ = some (.slice z.p.a1 z.s.feeds.length z.p.c1) ∧ X.cell? ⟨w.heap.size, 1, none⟩ = some (.slice z.p.a2 z.s.brks.length z.p.c2) ∧ X.cell? ⟨w.heap.size, 2, none⟩ = some (.slice z.p.a3 z.s.loops.length z.p.c3) ∧ X.cell? ⟨w.heap.size, 3, none⟩ = some (.slice z.p.a4 z.s.racks.length z.p.c4) ∧ X.cell? ⟨w.heap.size, 4, none⟩ = some (.int .i64 z.s.sw) ∧ X.cell? ⟨w.heap.size, 5, none⟩ = some (.slice z.p.a5 z.s.links.length z.p.c5) ∧ X.cell? ⟨w.heap.size, 6, none⟩ = some (.slice z.p.a6 z.s.hosts.length z.p.c6) ∧ X.cell? ⟨w.heap.size + 1, 0, none⟩ = some (.slice z.A z.xs.length z.c) ∧ X.cell? ⟨w.heap.size + 1 + 1, 0, none⟩ = some (.slice z.q.a1 z.d.hosts.length z.q.c1) ∧ X.cell? ⟨w.heap.size + 1 + 1, 1, none⟩ = some (.slice z.q.a2 z.d.reps.length z.q.c2)))
  have HX := Lib.hid (fun (X : World) (hX : Below W.heap.size W X) => X1.on hX (Nat.le_refl _))
  have HKW := Lib.hid (Below.refl W.heap.size W)
  have hle := HB.out.size
  obtain ⟨n1, n2, n3, n4, n5, n6, n7, n8⟩ := hz.bounds
  clear hz B0 X1 z3 Z0
  obtain ⟨f0, f1, f2, f3, f4, f5, f6, g0, g1, g2⟩ := HF.out W HKW.out
  rw [h3, h2, h1] at f0 f1 f2 f3 f4 f5 f6 g0 g1 g2
  generalize hBB : w.heap.size = B at *
  go_enter Tryz.func6, Tryz.ntmps6
  go_wp2_with (fail)
  rw [← h1, ← h2, ← h3]
  clear h1 h2 h3 f0 f1 f2 f3 f4 f5 f6 g0 g1 g2
  obtain ⟨r, hr⟩ := bool_of (FewZ z)
  have HR := Lib.hid hr
  obtain ⟨r0, hr0⟩ := bool_of z.Ok
  have HR0 := Lib.hid hr0
  clear hr hr0
  go_at_call 8
  refine (c_fewZ z r HR.out W (HZ.out W HKW.out)).mono ?_
  rintro e v1 ⟨rfl, bb⟩
  have HKv1 := Lib.hid (below_join HKW.out bb HKW.out.size)
  clear bb
  cases r
  · skip
    go_wp2_with (fail)
    go_at_call 9
    refine (HLV.out v1).mono ?_
    rintro e v102 ⟨rfl, bb⟩
    have HKv102 := Lib.hid (below_join HKv1.out bb HKv1.out.size)
    clear bb
    go_wp2_with (fail)
    go_ret
    exact ⟨rfl, below_join HB.out HKv102.out hle⟩
  obtain ⟨f0, f1, f2, f3, f4, f5, f6, g0, g1, g2⟩ := HF.out v1 HKv1.out
  go_wp2_with (fail)
  clear f0 f1 f2 f3 f4 f5 f6 g0 g1 g2
  go_at_call 25
  refine (c_wvTo z r0 HR0.out v1 (HZ.out v1 HKv1.out)).mono ?_
  rintro e v153 ⟨rfl, bb⟩
  have HKv153 := Lib.hid (below_join HKv1.out bb HKv1.out.size)
  clear bb
  cases r0
  · skip
    go_wp2_with (fail)
    go_at_call 9
    refine (HLV.out v153).mono ?_
    rintro e v254 ⟨rfl, bb⟩
    have HKv254 := Lib.hid (below_join HKv153.out bb HKv153.out.size)
    clear bb
    go_wp2_with (fail)
    go_ret
    exact ⟨rfl, below_join HB.out HKv254.out hle⟩
  have HOK := Lib.hid (HR0.out.1 (by trivial))
  go_wp2_with (fail)
  go_loopw [7] (fun i wr => ∃ k : Nat, k ≤ z.s.brks.length ∧ i = .int .i64 (k : Int) ∧ Hid (Below W.heap.size W wr)) (fun i _ => z.s.brks.length - (intOf i).toNat)
  case atStart => exact ⟨0, Nat.zero_le _, rfl, HKv153⟩
  case round =>
    obtain ⟨k, hk, rfl, HKwr⟩ := hrel
    have hki : ((k : Nat) : Int).toNat = k := by omega
    obtain ⟨f0, f1, f2, f3, f4, f5, f6, g0, g1, g2⟩ := HF.out wr HKwr.out
    by_cases hlt : k < z.s.brks.length
    · obtain ⟨x, hx⟩ : ∃ x, z.s.brks[k]? = some x := ⟨_, List.getElem?_eq_getElem hlt⟩
      have HXX := Lib.hid hx
      obtain ⟨pb, po, e1, hpb, -, x1, -, -⟩ := bk_at (HZ.out W HKW.out) hx
      have HX1 := Lib.hid (fun (X : World) (h : Below W.heap.size W X) => ((h.cell (p := ⟨pb, po + k * 4 + 1, none⟩) hpb).trans x1 : X.cell? ⟨pb, po + k * 4 + 1, none⟩ = some (.int .i64 x.limit)))
      have HE1 := Lib.hid e1
      have hki2 : (k : Int) < (z.s.brks.length : Int) := by omega
      obtain ⟨y, hy⟩ : ∃ y, bearV z true (k : Int) = y := ⟨_, rfl⟩
      have HY := Lib.hid hy
      obtain ⟨ld, hld⟩ : ∃ y, pwV z true (isBrk z.s (k : Int)) = y := ⟨_, rfl⟩
      have HLD := Lib.hid hld
      have HIF := bears_iff HOK.out hlt
      have hbl : bkL z.s k = x.limit := by unfold bkL; rw [hx]; rfl
      rw [hy, show ldB z.s z.ss z.d k = ld from hld, hbl] at HIF
      have hF2 : (wr.cell? ⟨B, 0, none⟩ = some (.slice z.p.a1 z.s.feeds.length z.p.c1) ∧ wr.cell? ⟨B, 1, none⟩ = some (.slice (some ⟨pb, po, none⟩) z.s.brks.length z.p.c2) ∧ wr.cell? ⟨B, 2, none⟩ = some (.slice z.p.a3 z.s.loops.length z.p.c3) ∧ wr.cell? ⟨B, 3, none⟩ = some (.slice z.p.a4 z.s.racks.length z.p.c4) ∧ wr.cell? ⟨B, 4, none⟩ = some (.int .i64 z.s.sw) ∧ wr.cell? ⟨B, 5, none⟩ = some (.slice z.p.a5 z.s.links.length z.p.c5) ∧ wr.cell? ⟨B, 6, none⟩ = some (.slice z.p.a6 z.s.hosts.length z.p.c6) ∧ wr.cell? ⟨B + 1, 0, none⟩ = some (.slice z.A z.xs.length z.c) ∧ wr.cell? ⟨B + 1 + 1, 0, none⟩ = some (.slice z.q.a1 z.d.hosts.length z.q.c1) ∧ wr.cell? ⟨B + 1 + 1, 1, none⟩ = some (.slice z.q.a2 z.d.reps.length z.q.c2)) ∧ wr.cell? ⟨pb, po + k * 4 + 1, none⟩ = some (.int .i64 x.limit) := by
        rw [← e1]; exact ⟨HF.out wr HKwr.out, HX1.out wr HKwr.out⟩
      have HFF := Lib.hid (fun (X : World) (h : Below W.heap.size W X) => (by rw [← e1]; exact ⟨HF.out X h, HX1.out X h⟩ : (X.cell? ⟨B, 0, none⟩ = some (.slice z.p.a1 z.s.feeds.length z.p.c1) ∧ X.cell? ⟨B, 1, none⟩ = some (.slice (some ⟨pb, po, none⟩) z.s.brks.length z.p.c2) ∧ X.cell? ⟨B, 2, none⟩ = some (.slice z.p.a3 z.s.loops.length z.p.c3) ∧ X.cell? ⟨B, 3, none⟩ = some (.slice z.p.a4 z.s.racks.length z.p.c4) ∧ X.cell? ⟨B, 4, none⟩ = some (.int .i64 z.s.sw) ∧ X.cell? ⟨B, 5, none⟩ = some (.slice z.p.a5 z.s.links.length z.p.c5) ∧ X.cell? ⟨B, 6, none⟩ = some (.slice z.p.a6 z.s.hosts.length z.p.c6) ∧ X.cell? ⟨B + 1, 0, none⟩ = some (.slice z.A z.xs.length z.c) ∧ X.cell? ⟨B + 1 + 1, 0, none⟩ = some (.slice z.q.a1 z.d.hosts.length z.q.c1) ∧ X.cell? ⟨B + 1 + 1, 1, none⟩ = some (.slice z.q.a2 z.d.reps.length z.q.c2)) ∧ X.cell? ⟨pb, po + k * 4 + 1, none⟩ = some (.int .i64 x.limit)))
      have HCB := Lib.hid (fun (X : World) (h : Below W.heap.size W X) => c_pw_Bears z true (okT HOK.out) (k : Int) X (HZ.out X h) y HY.out)
      have HCO := Lib.hid (fun (X : World) (h : Below W.heap.size W X) => c_pwOfBreaker z true (okT HOK.out) (k : Int) X (HZ.out X h) ld HLD.out)
      rw [e1] at HCB HCO
      clear hx hy hld hbl x1 f0 f1 f2 f3 f4 f5 f6 g0 g1 g2 e1
      obtain ⟨⟨f0, f1, f2, f3, f4, f5, f6, g0, g1, g2⟩, x1⟩ := hF2
      go_wp2_with (fail)
      go_region_held3 (fun X => (X.cell? ⟨B, 0, none⟩ = some (.slice z.p.a1 z.s.feeds.length z.p.c1) ∧ X.cell? ⟨B, 1, none⟩ = some (.slice (some ⟨pb, po, none⟩) z.s.brks.length z.p.c2) ∧ X.cell? ⟨B, 2, none⟩ = some (.slice z.p.a3 z.s.loops.length z.p.c3) ∧ X.cell? ⟨B, 3, none⟩ = some (.slice z.p.a4 z.s.racks.length z.p.c4) ∧ X.cell? ⟨B, 4, none⟩ = some (.int .i64 z.s.sw) ∧ X.cell? ⟨B, 5, none⟩ = some (.slice z.p.a5 z.s.links.length z.p.c5) ∧ X.cell? ⟨B, 6, none⟩ = some (.slice z.p.a6 z.s.hosts.length z.p.c6) ∧ X.cell? ⟨B + 1, 0, none⟩ = some (.slice z.A z.xs.length z.c) ∧ X.cell? ⟨B + 1 + 1, 0, none⟩ = some (.slice z.q.a1 z.d.hosts.length z.q.c1) ∧ X.cell? ⟨B + 1 + 1, 1, none⟩ = some (.slice z.q.a2 z.d.reps.length z.q.c2)) ∧ X.cell? ⟨pb, po + k * 4 + 1, none⟩ = some (.int .i64 x.limit))
        (first | exact HFF.out v306 HKv306.out | exact HFF.out v305 HKv305.out | exact HFF.out wr HKwr.out | fail)
        (first
          | (go_at_call 23; (with_reducible refine (HCB.out wr.drew HKwr.out.drew).mono ?_); rintro e v305 ⟨rfl, bb0⟩; have bb := below_join (Below.refl wr.heap.size wr).drew bb0 (Nat.le_refl _); have HKv305 := Lib.hid (below_join HKwr.out bb HKwr.out.size); clear bb bb0)
          | (go_at_call 14; (with_reducible refine (HCO.out v305 HKv305.out).mono ?_); rintro e v306 ⟨rfl, bb0⟩; have bb := below_join (Below.refl v305.heap.size v305) bb0 (Nat.le_refl _); have HKv306 := Lib.hid (below_join HKv305.out bb HKv305.out.size); clear bb bb0)
          | fail)
      go_wp2_with (fail)
      go_roundw
      case rel => exact ⟨k + 1, by omega, by go_num, HKv306⟩
      case measure => simp only [intOf]; omega
    · obtain rfl : k = z.s.brks.length := by omega
      go_wp2_with (fail)
      go_at_call 9
      refine (HLV.out wr).mono ?_
      rintro e v307 ⟨rfl, bb⟩
      have HKv307 := Lib.hid (below_join HKwr.out bb HKwr.out.size)
      clear bb
      go_wp2_with (fail)
      go_ret
      exact ⟨rfl, below_join HB.out HKv307.out hle⟩
theorem row_PowerBears (w : World) (p : SP) (s : SiteD) (hs : SiAt w p s) (A : Option Addr) (c : Nat) (xs : List (Svc × SvA)) (hx : WiAt w A c xs) (q : WP) (d : WorldD) (hd : WoAt w q d) :
    Calls Tryz.prog 6 #[siV p s, .agg #[.slice A xs.length c], .agg #[.slice q.a1 d.hosts.length q.c1, .slice q.a2 d.reps.length q.c2]] w fun e w' => e = .returned (.bool true) ∧ Below w.heap.size w w' := w_PowerBears ⟨p, s, A, c, xs, q, d⟩ w ⟨hs, hx, hd⟩
end Go.Proofs.YtidpiokkfnhobaaGreat
