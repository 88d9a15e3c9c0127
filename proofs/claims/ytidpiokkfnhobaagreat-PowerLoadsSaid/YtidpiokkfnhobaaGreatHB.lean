/-
  The law PowerLoads (written by gen/power_H.py).
-/
import Derived.Test.YtidpiokkfnhobaaGreatHA
set_option linter.unusedVariables false
set_option linter.unusedSimpArgs false
namespace Go.Proofs.YtidpiokkfnhobaaGreat
open Go.RowKit
set_option maxRecDepth 100000
set_option linter.unusedVariables false
set_option linter.unusedSimpArgs false

set_option maxHeartbeats 32000000 in
theorem w_PowerLoads (z : Sn) (w : World) (hz : SnAt w z) (n : Int) :
    Calls Tryz.prog 3 #[.agg #[.slice z.p.a1 z.s.feeds.length z.p.c1, .slice z.p.a2 z.s.brks.length z.p.c2, .slice z.p.a3 z.s.loops.length z.p.c3, .slice z.p.a4 z.s.racks.length z.p.c4, .int .i64 z.s.sw, .slice z.p.a5 z.s.links.length z.p.c5, .slice z.p.a6 z.s.hosts.length z.p.c6], .agg #[.slice z.A z.xs.length z.c], .agg #[.slice z.q.a1 z.d.hosts.length z.q.c1, .slice z.q.a2 z.d.reps.length z.q.c2], .int .i64 n] w fun e w' => e = .returned (.bool true) ∧ Below w.heap.size w w' := by
  have HLV := Lib.hid (fun (X : World) => c_live X)
  obtain ⟨W1, h1⟩ : ∃ W, W = w.alloc (.cells #[.slice z.p.a1 z.s.feeds.length z.p.c1, .slice z.p.a2 z.s.brks.length z.p.c2, .slice z.p.a3 z.s.loops.length z.p.c3, .slice z.p.a4 z.s.racks.length z.p.c4, .int .i64 z.s.sw, .slice z.p.a5 z.s.links.length z.p.c5, .slice z.p.a6 z.s.hosts.length z.p.c6] 29) := ⟨_, rfl⟩
  obtain ⟨W2, h2⟩ : ∃ W, W = W1.alloc (.cells #[.slice z.A z.xs.length z.c] 32) := ⟨_, rfl⟩
  obtain ⟨W, h3⟩ : ∃ W, W = W2.alloc (.cells #[.slice z.q.a1 z.d.hosts.length z.q.c1, .slice z.q.a2 z.d.reps.length z.q.c2] 36) := ⟨_, rfl⟩
  obtain ⟨B0, X1⟩ := sn_boxes h1 h2 h3
  have z3 : W.heap.size = w.heap.size + 1 + 1 + 1 := sn_size h1 h2 h3
  have HB := Lib.hid B0
  have Z0 := hz.on B0 (Nat.le_refl _)
  have HZ := Lib.hid (fun (X : World) (hX : Below W.heap.size W X) => Z0.on hX (Nat.le_refl _))
  have HF := Lib.hid (fun (X : World) (hX : Below W.heap.size W X) => ((X1.on hX (Nat.le_refl _)).cells : X.cell? ⟨w.heap.size, 0, none⟩ = some (.slice z.p.a1 z.s.feeds.length z.p.c1) ∧ X.cell? ⟨w.heap.size, 1, none⟩ = some (.slice z.p.a2 z.s.brks.length z.p.c2) ∧ X.cell? ⟨w.heap.size, 2, none⟩ = some (.slice z.p.a3 z.s.loops.length z.p.c3) ∧ X.cell? ⟨w.heap.size, 3, none⟩ = some (.slice z.p.a4 z.s.racks.length z.p.c4) ∧ X.cell? ⟨w.heap.size, 4, none⟩ = some (.int .i64 z.s.sw) ∧ X.cell? ⟨w.heap.size, 5, none⟩ = some (.slice z.p.a5 z.s.links.length z.p.c5) ∧ X.cell? ⟨w.heap.size, 6, none⟩ = some (.slice z.p.a6 z.s.hosts.length z.p.c6) ∧ X.cell? ⟨w.heap.size + 1, 0, none⟩ = some (.slice z.A z.xs.length z.c) ∧ X.cell? ⟨w.heap.size + 1 + 1, 0, none⟩ = some (.slice z.q.a1 z.d.hosts.length z.q.c1) ∧ X.cell? ⟨w.heap.size + 1 + 1, 1, none⟩ = some (.slice z.q.a2 z.d.reps.length z.q.c2)))
  have HX := Lib.hid (fun (X : World) (hX : Below W.heap.size W X) => X1.on hX (Nat.le_refl _))
  have HKW := Lib.hid (Below.refl W.heap.size W)
  have hle := HB.out.size
  obtain ⟨n1, n2, n3, n4, n5, n6, n7, n8⟩ := hz.bounds
  clear hz B0 X1 z3 Z0
  obtain ⟨f0, f1, f2, f3, f4, f5, f6, g0, g1, g2⟩ := HF.out W HKW.out
  rw [h3, h2, h1] at f0 f1 f2 f3 f4 f5 f6 g0 g1 g2
  generalize hBB : w.heap.size = B at *
  go_enter Tryz.func3, Tryz.ntmps3
  go_wp2_with (fail)
  rw [← h1, ← h2, ← h3]
  clear h1 h2 h3 f0 f1 f2 f3 f4 f5 f6 g0 g1 g2
  obtain ⟨r, hr⟩ := bool_of (FewZ z)
  have HR := Lib.hid hr
  obtain ⟨r0, hr0⟩ := bool_of z.Ok
  have HR0 := Lib.hid hr0
  clear hr hr0
  go_at_call 8
  refine (c_fewZ z r HR.out W (HZ.out W HKW.out)).mono ?_
  rintro e v1 ⟨rfl, bb⟩
  have HKv1 := Lib.hid (below_join HKW.out bb HKW.out.size)
  clear bb
  cases r
  · skip
    go_wp2_with (fail)
    go_at_call 9
    refine (HLV.out v1).mono ?_
    rintro e v102 ⟨rfl, bb⟩
    have HKv102 := Lib.hid (below_join HKv1.out bb HKv1.out.size)
    clear bb
    go_wp2_with (fail)
    go_ret
    exact ⟨rfl, below_join HB.out HKv102.out hle⟩
  go_wp2_with (fail)
  go_loopw [9] (fun i wr => ∃ m : Nat, m ≤ 10 ∧ i = .int .i64 ((m : Int) - 1) ∧ Hid (Below W.heap.size W wr)) (fun i _ => (9 - intOf i).toNat)
  case atStart => exact ⟨0, by omega, rfl, HKv1⟩
  case round =>
    obtain ⟨m, hm, rfl, HKwr⟩ := hrel
    obtain ⟨iv, hiv⟩ : ∃ t, (m : Int) - 1 = t := ⟨_, rfl⟩
    have HIV := Lib.hid hiv
    have hb : -1 ≤ iv ∧ iv ≤ 9 := by omega
    rw [hiv]
    clear hiv
    by_cases hlt : iv < 9
    · by_cases h1 : iv = -1
      · subst h1
        obtain ⟨a1, ha1⟩ : ∃ y, pwV z r0 (isHost n) = y := ⟨_, rfl⟩
        have Ha1 := Lib.hid ha1
        clear ha1
        obtain ⟨a2, ha2⟩ : ∃ y, pwV z r0 (isRack z.s n) = y := ⟨_, rfl⟩
        have Ha2 := Lib.hid ha2
        clear ha2
        obtain ⟨a3, ha3⟩ : ∃ y, pwV z r0 (isBrk z.s n) = y := ⟨_, rfl⟩
        have Ha3 := Lib.hid ha3
        clear ha3
        obtain ⟨a4, ha4⟩ : ∃ y, pwV z r0 (isFeed z.s n) = y := ⟨_, rfl⟩
        have Ha4 := Lib.hid ha4
        clear ha4
        obtain ⟨f0, f1, f2, f3, f4, f5, f6, g0, g1, g2⟩ := HF.out wr HKwr.out
        go_wp2_with (fail)
        go_region_held3 (fun X => X.cell? ⟨B, 0, none⟩ = some (.slice z.p.a1 z.s.feeds.length z.p.c1) ∧ X.cell? ⟨B, 1, none⟩ = some (.slice z.p.a2 z.s.brks.length z.p.c2) ∧ X.cell? ⟨B, 2, none⟩ = some (.slice z.p.a3 z.s.loops.length z.p.c3) ∧ X.cell? ⟨B, 3, none⟩ = some (.slice z.p.a4 z.s.racks.length z.p.c4) ∧ X.cell? ⟨B, 4, none⟩ = some (.int .i64 z.s.sw) ∧ X.cell? ⟨B, 5, none⟩ = some (.slice z.p.a5 z.s.links.length z.p.c5) ∧ X.cell? ⟨B, 6, none⟩ = some (.slice z.p.a6 z.s.hosts.length z.p.c6) ∧ X.cell? ⟨B + 1, 0, none⟩ = some (.slice z.A z.xs.length z.c) ∧ X.cell? ⟨B + 1 + 1, 0, none⟩ = some (.slice z.q.a1 z.d.hosts.length z.q.c1) ∧ X.cell? ⟨B + 1 + 1, 1, none⟩ = some (.slice z.q.a2 z.d.reps.length z.q.c2))
          (first | exact HF.out v360 HKv360.out | exact HF.out v359 HKv359.out | exact HF.out v358 HKv358.out | exact HF.out v357 HKv357.out | exact HF.out v356 HKv356.out | exact HF.out v355 HKv355.out | exact HF.out v354 HKv354.out | exact HF.out v353 HKv353.out | exact HF.out wr HKwr.out | fail)
          (first
            | (go_at_call 10; (with_reducible refine (c_pwWatts z r0 HR0.out n wr.drew (HZ.out _ HKwr.out.drew) a1 Ha1.out).mono ?_); rintro e v353 ⟨rfl, bb0⟩; have bb := below_join (Below.refl wr.heap.size wr).drew bb0 (Nat.le_refl _); have HKv353 := Lib.hid (below_join HKwr.out bb HKwr.out.size); clear bb bb0)
            | (go_at_call 11; (with_reducible refine (d_Watts z r0 HR0.out n v353 (HZ.out _ HKv353.out) a1 Ha1.out).mono ?_); rintro e v354 ⟨rfl, bb0⟩; have bb := below_join (Below.refl v353.heap.size v353) bb0 (Nat.le_refl _); have HKv354 := Lib.hid (below_join HKv353.out bb HKv353.out.size); clear bb bb0)
            | (go_at_call 12; (with_reducible refine (c_pwOfRack z r0 HR0.out n v354 (HZ.out _ HKv354.out) a2 Ha2.out).mono ?_); rintro e v355 ⟨rfl, bb0⟩; have bb := below_join (Below.refl v354.heap.size v354) bb0 (Nat.le_refl _); have HKv355 := Lib.hid (below_join HKv354.out bb HKv354.out.size); clear bb bb0)
            | (go_at_call 13; (with_reducible refine (d_OfRack z r0 HR0.out n v355 (HZ.out _ HKv355.out) a2 Ha2.out).mono ?_); rintro e v356 ⟨rfl, bb0⟩; have bb := below_join (Below.refl v355.heap.size v355) bb0 (Nat.le_refl _); have HKv356 := Lib.hid (below_join HKv355.out bb HKv355.out.size); clear bb bb0)
            | (go_at_call 14; (with_reducible refine (c_pwOfBreaker z r0 HR0.out n v356 (HZ.out _ HKv356.out) a3 Ha3.out).mono ?_); rintro e v357 ⟨rfl, bb0⟩; have bb := below_join (Below.refl v356.heap.size v356) bb0 (Nat.le_refl _); have HKv357 := Lib.hid (below_join HKv356.out bb HKv356.out.size); clear bb bb0)
            | (go_at_call 15; (with_reducible refine (d_OfBreaker z r0 HR0.out n v357 (HZ.out _ HKv357.out) a3 Ha3.out).mono ?_); rintro e v358 ⟨rfl, bb0⟩; have bb := below_join (Below.refl v357.heap.size v357) bb0 (Nat.le_refl _); have HKv358 := Lib.hid (below_join HKv357.out bb HKv357.out.size); clear bb bb0)
            | (go_at_call 16; (with_reducible refine (c_pwOfFeed z r0 HR0.out n v358 (HZ.out _ HKv358.out) a4 Ha4.out).mono ?_); rintro e v359 ⟨rfl, bb0⟩; have bb := below_join (Below.refl v358.heap.size v358) bb0 (Nat.le_refl _); have HKv359 := Lib.hid (below_join HKv358.out bb HKv358.out.size); clear bb bb0)
            | (go_at_call 17; (with_reducible refine (d_OfFeed z r0 HR0.out n v359 (HZ.out _ HKv359.out) a4 Ha4.out).mono ?_); rintro e v360 ⟨rfl, bb0⟩; have bb := below_join (Below.refl v359.heap.size v359) bb0 (Nat.le_refl _); have HKv360 := Lib.hid (below_join HKv359.out bb HKv359.out.size); clear bb bb0)
            | fail)
        go_wp2_with (fail)
        go_roundw
        case rel => exact ⟨m + 1, by have h := HIV.out; omega, congrArg (Value.int .i64) (by have h := HIV.out; omega), HKv360⟩
        case measure => simp only [intOf]; omega
      · skip
        obtain ⟨a1, ha1⟩ : ∃ y, pwV z r0 (isHost iv) = y := ⟨_, rfl⟩
        have Ha1 := Lib.hid ha1
        clear ha1
        obtain ⟨a2, ha2⟩ : ∃ y, pwV z r0 (isRack z.s iv) = y := ⟨_, rfl⟩
        have Ha2 := Lib.hid ha2
        clear ha2
        obtain ⟨a3, ha3⟩ : ∃ y, pwV z r0 (isBrk z.s iv) = y := ⟨_, rfl⟩
        have Ha3 := Lib.hid ha3
        clear ha3
        obtain ⟨a4, ha4⟩ : ∃ y, pwV z r0 (isFeed z.s iv) = y := ⟨_, rfl⟩
        have Ha4 := Lib.hid ha4
        clear ha4
        obtain ⟨f0, f1, f2, f3, f4, f5, f6, g0, g1, g2⟩ := HF.out wr HKwr.out
        go_wp2_with (fail)
        go_region_held3 (fun X => X.cell? ⟨B, 0, none⟩ = some (.slice z.p.a1 z.s.feeds.length z.p.c1) ∧ X.cell? ⟨B, 1, none⟩ = some (.slice z.p.a2 z.s.brks.length z.p.c2) ∧ X.cell? ⟨B, 2, none⟩ = some (.slice z.p.a3 z.s.loops.length z.p.c3) ∧ X.cell? ⟨B, 3, none⟩ = some (.slice z.p.a4 z.s.racks.length z.p.c4) ∧ X.cell? ⟨B, 4, none⟩ = some (.int .i64 z.s.sw) ∧ X.cell? ⟨B, 5, none⟩ = some (.slice z.p.a5 z.s.links.length z.p.c5) ∧ X.cell? ⟨B, 6, none⟩ = some (.slice z.p.a6 z.s.hosts.length z.p.c6) ∧ X.cell? ⟨B + 1, 0, none⟩ = some (.slice z.A z.xs.length z.c) ∧ X.cell? ⟨B + 1 + 1, 0, none⟩ = some (.slice z.q.a1 z.d.hosts.length z.q.c1) ∧ X.cell? ⟨B + 1 + 1, 1, none⟩ = some (.slice z.q.a2 z.d.reps.length z.q.c2))
          (first | exact HF.out v360 HKv360.out | exact HF.out v359 HKv359.out | exact HF.out v358 HKv358.out | exact HF.out v357 HKv357.out | exact HF.out v356 HKv356.out | exact HF.out v355 HKv355.out | exact HF.out v354 HKv354.out | exact HF.out v353 HKv353.out | exact HF.out wr HKwr.out | fail)
          (first
            | (go_at_call 10; (with_reducible refine (c_pwWatts z r0 HR0.out iv wr.drew (HZ.out _ HKwr.out.drew) a1 Ha1.out).mono ?_); rintro e v353 ⟨rfl, bb0⟩; have bb := below_join (Below.refl wr.heap.size wr).drew bb0 (Nat.le_refl _); have HKv353 := Lib.hid (below_join HKwr.out bb HKwr.out.size); clear bb bb0)
            | (go_at_call 11; (with_reducible refine (d_Watts z r0 HR0.out iv v353 (HZ.out _ HKv353.out) a1 Ha1.out).mono ?_); rintro e v354 ⟨rfl, bb0⟩; have bb := below_join (Below.refl v353.heap.size v353) bb0 (Nat.le_refl _); have HKv354 := Lib.hid (below_join HKv353.out bb HKv353.out.size); clear bb bb0)
            | (go_at_call 12; (with_reducible refine (c_pwOfRack z r0 HR0.out iv v354 (HZ.out _ HKv354.out) a2 Ha2.out).mono ?_); rintro e v355 ⟨rfl, bb0⟩; have bb := below_join (Below.refl v354.heap.size v354) bb0 (Nat.le_refl _); have HKv355 := Lib.hid (below_join HKv354.out bb HKv354.out.size); clear bb bb0)
            | (go_at_call 13; (with_reducible refine (d_OfRack z r0 HR0.out iv v355 (HZ.out _ HKv355.out) a2 Ha2.out).mono ?_); rintro e v356 ⟨rfl, bb0⟩; have bb := below_join (Below.refl v355.heap.size v355) bb0 (Nat.le_refl _); have HKv356 := Lib.hid (below_join HKv355.out bb HKv355.out.size); clear bb bb0)
            | (go_at_call 14; (with_reducible refine (c_pwOfBreaker z r0 HR0.out iv v356 (HZ.out _ HKv356.out) a3 Ha3.out).mono ?_); rintro e v357 ⟨rfl, bb0⟩; have bb := below_join (Below.refl v356.heap.size v356) bb0 (Nat.le_refl _); have HKv357 := Lib.hid (below_join HKv356.out bb HKv356.out.size); clear bb bb0)
            | (go_at_call 15; (with_reducible refine (d_OfBreaker z r0 HR0.out iv v357 (HZ.out _ HKv357.out) a3 Ha3.out).mono ?_); rintro e v358 ⟨rfl, bb0⟩; have bb := below_join (Below.refl v357.heap.size v357) bb0 (Nat.le_refl _); have HKv358 := Lib.hid (below_join HKv357.out bb HKv357.out.size); clear bb bb0)
            | (go_at_call 16; (with_reducible refine (c_pwOfFeed z r0 HR0.out iv v358 (HZ.out _ HKv358.out) a4 Ha4.out).mono ?_); rintro e v359 ⟨rfl, bb0⟩; have bb := below_join (Below.refl v358.heap.size v358) bb0 (Nat.le_refl _); have HKv359 := Lib.hid (below_join HKv358.out bb HKv358.out.size); clear bb bb0)
            | (go_at_call 17; (with_reducible refine (d_OfFeed z r0 HR0.out iv v359 (HZ.out _ HKv359.out) a4 Ha4.out).mono ?_); rintro e v360 ⟨rfl, bb0⟩; have bb := below_join (Below.refl v359.heap.size v359) bb0 (Nat.le_refl _); have HKv360 := Lib.hid (below_join HKv359.out bb HKv359.out.size); clear bb bb0)
            | fail)
        go_wp2_with (fail)
        go_roundw
        case rel => exact ⟨m + 1, by have h := HIV.out; omega, congrArg (Value.int .i64) (by have h := HIV.out; omega), HKv360⟩
        case measure => simp only [intOf]; omega
    · skip
      go_wp2_with (fail)
      go_at_call 9
      refine (HLV.out wr).mono ?_
      rintro e v153 ⟨rfl, bb⟩
      have HKv153 := Lib.hid (below_join HKwr.out bb HKwr.out.size)
      clear bb
      go_wp2_with (fail)
      go_ret
      exact ⟨rfl, below_join HB.out HKv153.out hle⟩
theorem row_PowerLoads (w : World) (p : SP) (s : SiteD) (hs : SiAt w p s) (A : Option Addr) (c : Nat) (xs : List (Svc × SvA)) (hx : WiAt w A c xs) (q : WP) (d : WorldD) (hd : WoAt w q d) (n : Int) :
    Calls Tryz.prog 3 #[siV p s, .agg #[.slice A xs.length c], .agg #[.slice q.a1 d.hosts.length q.c1, .slice q.a2 d.reps.length q.c2], .int .i64 n] w fun e w' => e = .returned (.bool true) ∧ Below w.heap.size w w' := w_PowerLoads ⟨p, s, A, c, xs, q, d⟩ w ⟨hs, hx, hd⟩ n
end Go.Proofs.YtidpiokkfnhobaaGreat
