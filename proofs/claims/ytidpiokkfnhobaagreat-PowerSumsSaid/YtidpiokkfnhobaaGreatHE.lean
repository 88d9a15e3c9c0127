/-
  The law PowerSums (written by gen/power_H.py).
-/
import Derived.Test.YtidpiokkfnhobaaGreatHA
set_option linter.unusedVariables false
set_option linter.unusedSimpArgs false
namespace Go.Proofs.YtidpiokkfnhobaaGreat
open Go.RowKit
set_option maxRecDepth 100000
set_option linter.unusedVariables false
set_option linter.unusedSimpArgs false

def sH (z : Sn) (f : Nat → Nat → Bool) (k : Nat) : Int := sumN (fun i => pwV z true (f i)) k
theorem sH_bd {z : Sn} (ok : z.Ok) (f : Nat → Nat → Bool) (k : Nat) : 0 ≤ sH z f k ∧ sH z f k ≤ 24160000 * k := by
  unfold sH
  exact sumN_bound fun i _ => pw_bd (okT ok) (f i)
theorem sH_succ (z : Sn) (f : Nat → Nat → Bool) (k : Nat) : sH z f (k + 1) = sH z f k + pwV z true (f k) := rfl
def fH (i : Nat) : Nat → Bool := isHost (i : Int)
def fR (z : Sn) (i : Nat) : Nat → Bool := isRack z.s (i : Int)
def fB (z : Sn) (i : Nat) : Nat → Bool := isBrk z.s (i : Int)
def fF (z : Sn) (i : Nat) : Nat → Bool := isFeed z.s (i : Int)
theorem sH_all {z : Sn} (ok : z.Ok) : sH z fH 16 = sumN (watN z.s z.ss z.d) z.s.hosts.length ∧ sH z (fR z) 16 = sumN (watN z.s z.ss z.d) z.s.hosts.length ∧ sH z (fB z) 16 = sumN (watN z.s z.ss z.d) z.s.hosts.length ∧ sH z (fF z) 16 = sumN (watN z.s z.ss z.d) z.s.hosts.length := by
  have h := siteOk_iff.1 ok.1
  have h1 := h.nhosts; have h2 := h.nracks; have h3 := h.nbrks; have h4 := h.nfeeds
  exact ⟨load_all (g := fun h => (h : Int)) (m := 16) (fun h hh => by omega), load_all (g := rackAt z.s) (m := 16) (fun h hh => by have := rack_in ok hh; omega), load_all (g := brkAt z.s) (m := 16) (fun h hh => by have := brk_in ok hh; omega), load_all (g := feedAt z.s) (m := 16) (fun h hh => by have := feed_in ok hh; omega)⟩
set_option maxHeartbeats 32000000 in
theorem w_PowerSums (z : Sn) (w : World) (hz : SnAt w z) :
    Calls Tryz.prog 7 #[.agg #[.slice z.p.a1 z.s.feeds.length z.p.c1, .slice z.p.a2 z.s.brks.length z.p.c2, .slice z.p.a3 z.s.loops.length z.p.c3, .slice z.p.a4 z.s.racks.length z.p.c4, .int .i64 z.s.sw, .slice z.p.a5 z.s.links.length z.p.c5, .slice z.p.a6 z.s.hosts.length z.p.c6], .agg #[.slice z.A z.xs.length z.c], .agg #[.slice z.q.a1 z.d.hosts.length z.q.c1, .slice z.q.a2 z.d.reps.length z.q.c2]] w fun e w' => e = .returned (.bool true) ∧ Below w.heap.size w w' := by
  have HLV := Lib.hid (fun (X : World) => c_live X)
  obtain ⟨W1, h1⟩ : ∃ W, W = w.alloc (.cells #[.slice z.p.a1 z.s.feeds.length z.p.c1, .slice z.p.a2 z.s.brks.length z.p.c2, .slice z.p.a3 z.s.loops.length z.p.c3, .slice z.p.a4 z.s.racks.length z.p.c4, .int .i64 z.s.sw, .slice z.p.a5 z.s.links.length z.p.c5, .slice z.p.a6 z.s.hosts.length z.p.c6] 29) := ⟨_, rfl⟩
  obtain ⟨W2, h2⟩ : ∃ W, W = W1.alloc (.cells #[.slice z.A z.xs.length z.c] 32) := ⟨_, rfl⟩
  obtain ⟨W, h3⟩ : ∃ W, W = W2.alloc (.cells #[.slice z.q.a1 z.d.hosts.length z.q.c1, .slice z.q.a2 z.d.reps.length z.q.c2] 36) := ⟨_, rfl⟩
  obtain ⟨B0, X1⟩ := sn_boxes h1 h2 h3
  have z3 : W.heap.size = w.heap.size + 1 + 1 + 1 := sn_size h1 h2 h3
  have HB := Lib.hid B0
  have Z0 := hz.on B0 (Nat.le_refl _)
  have HZ := Lib.hid (fun (X : World) (hX : Below W.heap.size W X) => Z0.on hX (Nat.le_refl _))
  have HF := Lib.hid (fun (X : World) (hX : Below W.heap.size W X) => ((X1.on hX (Nat.le_refl _)).cells : X.cell? ⟨w.heap.size, 0, none⟩ = some (.slice z.p.a1 z.s.feeds.length z.p.c1) ∧ X.cell? ⟨w.heap.size, 1, none⟩ = some (.slice z.p.a2 z.s.brks.length z.p.c2) ∧ X.cell? ⟨w.heap.size, 2, none⟩ = some (.slice z.p.a3 z.s.loops.length z.p.c3) ∧ X.cell? ⟨w.heap.size, 3, none⟩ = some (.slice z.p.a4 z.s.racks.length z.p.c4) ∧ X.cell? ⟨w.heap.size, 4, none⟩ = some (.int .i64 z.s.sw) ∧ X.cell? ⟨w.heap.size, 5, none⟩ = some (.slice z.p.a5 z.s.links.length z.p.c5) ∧ X.cell? ⟨w.heap.size, 6, none⟩ = some (.slice z.p.a6 z.s.hosts.length z.p.c6) ∧ X.cell? ⟨w.heap.size + 1, 0, none⟩ = some (.slice z.A z.xs.length z.c) ∧ X.cell? ⟨w.heap.size + 1 + 1, 0, none⟩ = some (.slice z.q.a1 z.d.hosts.length z.q.c1) ∧ X.cell? ⟨w.heap.size + 1 + 1, 1, none⟩ = some (.slice z.q.a2 z.d.reps.length z.q.c2)))
  have HX := Lib.hid (fun (X : World) (hX : Below W.heap.size W X) => X1.on hX (Nat.le_refl _))
  have HKW := Lib.hid (Below.refl W.heap.size W)
  have hle := HB.out.size
  obtain ⟨n1, n2, n3, n4, n5, n6, n7, n8⟩ := hz.bounds
  have hfm : Tryz.prog.follows Departure.mixedOrders = true := by kernel_rfl
  clear hz B0 X1 z3 Z0
  obtain ⟨f0, f1, f2, f3, f4, f5, f6, g0, g1, g2⟩ := HF.out W HKW.out
  rw [h3, h2, h1] at f0 f1 f2 f3 f4 f5 f6 g0 g1 g2
  generalize hBB : w.heap.size = B at *
  go_enter Tryz.func7, Tryz.ntmps7
  go_wp2_with (fail)
  rw [← h1, ← h2, ← h3]
  clear h1 h2 h3 f0 f1 f2 f3 f4 f5 f6 g0 g1 g2
  obtain ⟨r, hr⟩ := bool_of (FewZ z)
  have HR := Lib.hid hr
  obtain ⟨r0, hr0⟩ := bool_of z.Ok
  have HR0 := Lib.hid hr0
  clear hr hr0
  go_at_call 8
  refine (c_fewZ z r HR.out W (HZ.out W HKW.out)).mono ?_
  rintro e v1 ⟨rfl, bb⟩
  have HKv1 := Lib.hid (below_join HKW.out bb HKW.out.size)
  clear bb
  cases r
  · skip
    go_wp2_with (fail)
    go_at_call 9
    refine (HLV.out v1).mono ?_
    rintro e v102 ⟨rfl, bb⟩
    have HKv102 := Lib.hid (below_join HKv1.out bb HKv1.out.size)
    clear bb
    go_wp2_with (fail)
    go_ret
    exact ⟨rfl, below_join HB.out HKv102.out hle⟩
  obtain ⟨f0, f1, f2, f3, f4, f5, f6, g0, g1, g2⟩ := HF.out v1 HKv1.out
  go_wp2_with (fail)
  clear f0 f1 f2 f3 f4 f5 f6 g0 g1 g2
  go_at_call 25
  refine (c_wvTo z r0 HR0.out v1 (HZ.out v1 HKv1.out)).mono ?_
  rintro e v153 ⟨rfl, bb⟩
  have HKv153 := Lib.hid (below_join HKv1.out bb HKv1.out.size)
  clear bb
  cases r0
  · skip
    go_wp2_with (fail)
    go_at_call 9
    refine (HLV.out v153).mono ?_
    rintro e v254 ⟨rfl, bb⟩
    have HKv254 := Lib.hid (below_join HKv153.out bb HKv153.out.size)
    clear bb
    go_wp2_with (fail)
    go_ret
    exact ⟨rfl, below_join HB.out HKv254.out hle⟩
  have HOK := Lib.hid (HR0.out.1 (by trivial))
  obtain ⟨V, hV⟩ : ∃ X, X = v153.alloc (.cells #[.int .i64 0, .int .i64 0, .int .i64 0, .int .i64 0] 51) := ⟨_, rfl⟩
  have HBV := Lib.hid (show V.heap[v153.heap.size]? = some (.cells #[.int .i64 0, .int .i64 0, .int .i64 0, .int .i64 0] 51 (0, 0)) by rw [hV]; exact box_new _ _ _)
  have HKV := Lib.hid (show Below v153.heap.size v153 V by rw [hV]; exact (Below.refl _ _).alloc (Nat.le_refl _) _)
  have HSC := Lib.hid (fun (X : World) (h : Below v153.heap.size v153 X) => below_join HKv153.out h HKv153.out.size)
  go_wp2_with (fail)
  rw [← hV]
  clear hV
  generalize hP : v153.heap.size = P at *
  go_loopw [8] (fun i wr => ∃ k : Nat, k ≤ 16 ∧ i = .int .i64 (k : Int) ∧ Hid (Below P v153 wr) ∧ Hid (wr.heap[P]? = some (.cells #[.int .i64 (sH z fH k), .int .i64 (sH z (fR z) k), .int .i64 (sH z (fB z) k), .int .i64 (sH z (fF z) k)] 51 (0, 0)))) (fun i _ => 16 - (intOf i).toNat)
  case atStart => exact ⟨0, by omega, rfl, HKV, HBV⟩
  case round =>
    obtain ⟨k, hk, rfl, HKwr, hbx⟩ := hrel
    have hki : ((k : Nat) : Int).toNat = k := by omega
    obtain ⟨a1, ha1⟩ : ∃ t, sH z fH k = t := ⟨_, rfl⟩
    have Ha1 := Lib.hid ha1
    have ba1 := sH_bd HOK.out fH k
    rw [ha1] at hbx ba1
    clear ha1
    obtain ⟨a2, ha2⟩ : ∃ t, sH z (fR z) k = t := ⟨_, rfl⟩
    have Ha2 := Lib.hid ha2
    have ba2 := sH_bd HOK.out (fR z) k
    rw [ha2] at hbx ba2
    clear ha2
    obtain ⟨a3, ha3⟩ : ∃ t, sH z (fB z) k = t := ⟨_, rfl⟩
    have Ha3 := Lib.hid ha3
    have ba3 := sH_bd HOK.out (fB z) k
    rw [ha3] at hbx ba3
    clear ha3
    obtain ⟨a4, ha4⟩ : ∃ t, sH z (fF z) k = t := ⟨_, rfl⟩
    have Ha4 := Lib.hid ha4
    have ba4 := sH_bd HOK.out (fF z) k
    rw [ha4] at hbx ba4
    clear ha4
    by_cases hlt : k < 16
    · have hki2 : (k : Int) < 16 := by omega
      obtain ⟨c1, hc1⟩ : ∃ t, pwV z true (fH k) = t := ⟨_, rfl⟩
      have bc1 := pw_bd (okT HOK.out) (fH k)
      rw [hc1] at bc1
      have Hc1 := Lib.hid hc1
      clear hc1
      obtain ⟨c2, hc2⟩ : ∃ t, pwV z true ((fR z) k) = t := ⟨_, rfl⟩
      have bc2 := pw_bd (okT HOK.out) ((fR z) k)
      rw [hc2] at bc2
      have Hc2 := Lib.hid hc2
      clear hc2
      obtain ⟨c3, hc3⟩ : ∃ t, pwV z true ((fB z) k) = t := ⟨_, rfl⟩
      have bc3 := pw_bd (okT HOK.out) ((fB z) k)
      rw [hc3] at bc3
      have Hc3 := Lib.hid hc3
      clear hc3
      obtain ⟨c4, hc4⟩ : ∃ t, pwV z true ((fF z) k) = t := ⟨_, rfl⟩
      have bc4 := pw_bd (okT HOK.out) ((fF z) k)
      rw [hc4] at bc4
      have Hc4 := Lib.hid hc4
      clear hc4
      go_wp2_with (fail)
      have hw0 : IntKind.i64.wrap (a1 + c1) = a1 + c1 := wrap_in (by omega) (by omega)
      have HS0 := Lib.hid (fun (X : World) (h : Below P v153 X) (hb : X.heap[P]? = some (.cells #[.int .i64 a1, .int .i64 a2, .int .i64 a3, .int .i64 a4] 51 (0, 0))) => (by
        obtain ⟨f0, f1, f2, f3, f4, f5, f6, g0, g1, g2⟩ := HF.out X (HSC.out X h)
        exact ⟨f0, f1, f2, f3, f4, f5, f6, g0, g1, g2, cell_of hb rfl, cell_of hb rfl, cell_of hb rfl, cell_of hb rfl⟩ : (fun (X : World) => X.cell? ⟨B, 0, none⟩ = some (.slice z.p.a1 z.s.feeds.length z.p.c1) ∧ X.cell? ⟨B, 1, none⟩ = some (.slice z.p.a2 z.s.brks.length z.p.c2) ∧ X.cell? ⟨B, 2, none⟩ = some (.slice z.p.a3 z.s.loops.length z.p.c3) ∧ X.cell? ⟨B, 3, none⟩ = some (.slice z.p.a4 z.s.racks.length z.p.c4) ∧ X.cell? ⟨B, 4, none⟩ = some (.int .i64 z.s.sw) ∧ X.cell? ⟨B, 5, none⟩ = some (.slice z.p.a5 z.s.links.length z.p.c5) ∧ X.cell? ⟨B, 6, none⟩ = some (.slice z.p.a6 z.s.hosts.length z.p.c6) ∧ X.cell? ⟨B + 1, 0, none⟩ = some (.slice z.A z.xs.length z.c) ∧ X.cell? ⟨B + 1 + 1, 0, none⟩ = some (.slice z.q.a1 z.d.hosts.length z.q.c1) ∧ X.cell? ⟨B + 1 + 1, 1, none⟩ = some (.slice z.q.a2 z.d.reps.length z.q.c2) ∧ X.cell? ⟨P, 0, none⟩ = some (.int .i64 a1) ∧ X.cell? ⟨P, 1, none⟩ = some (.int .i64 a2) ∧ X.cell? ⟨P, 2, none⟩ = some (.int .i64 a3) ∧ X.cell? ⟨P, 3, none⟩ = some (.int .i64 a4)) X))
      refine v5.region_z 9 hfm (S := fun (X : World) => X.cell? ⟨B, 0, none⟩ = some (.slice z.p.a1 z.s.feeds.length z.p.c1) ∧ X.cell? ⟨B, 1, none⟩ = some (.slice z.p.a2 z.s.brks.length z.p.c2) ∧ X.cell? ⟨B, 2, none⟩ = some (.slice z.p.a3 z.s.loops.length z.p.c3) ∧ X.cell? ⟨B, 3, none⟩ = some (.slice z.p.a4 z.s.racks.length z.p.c4) ∧ X.cell? ⟨B, 4, none⟩ = some (.int .i64 z.s.sw) ∧ X.cell? ⟨B, 5, none⟩ = some (.slice z.p.a5 z.s.links.length z.p.c5) ∧ X.cell? ⟨B, 6, none⟩ = some (.slice z.p.a6 z.s.hosts.length z.p.c6) ∧ X.cell? ⟨B + 1, 0, none⟩ = some (.slice z.A z.xs.length z.c) ∧ X.cell? ⟨B + 1 + 1, 0, none⟩ = some (.slice z.q.a1 z.d.hosts.length z.q.c1) ∧ X.cell? ⟨B + 1 + 1, 1, none⟩ = some (.slice z.q.a2 z.d.reps.length z.q.c2) ∧ X.cell? ⟨P, 0, none⟩ = some (.int .i64 a1) ∧ X.cell? ⟨P, 1, none⟩ = some (.int .i64 a2) ∧ X.cell? ⟨P, 2, none⟩ = some (.int .i64 a3) ∧ X.cell? ⟨P, 3, none⟩ = some (.int .i64 a4)) (HS0.out wr.drew HKwr.out.drew hbx.out) (fun hHeld => ?_)
      refine v5.takeZ 0 (some 26) (by kernel_rfl) rfl rfl (by kernel_rfl) (by kernel_rfl) (by kernel_rfl) (fun _ _ _ h => h) (by rfl) (by intro w ⟨g0, g1, g2, g3, g4, g5, g6, g7, g8, g9, g10, g11, g12, g13⟩; go_simp; try with_reducible rfl) hHeld ?_
      simp only [Act.put, List.setIfInBounds_toArray, List.set_cons_zero, List.set_cons_succ]
      refine v5.takeZ 1 (some 27) (by kernel_rfl) rfl rfl (by kernel_rfl) (by kernel_rfl) (by kernel_rfl) (fun _ _ _ h => h) (by rfl) (by intro w ⟨g0, g1, g2, g3, g4, g5, g6, g7, g8, g9, g10, g11, g12, g13⟩; go_simp; try with_reducible rfl) hHeld ?_
      simp only [Act.put, List.setIfInBounds_toArray, List.set_cons_zero, List.set_cons_succ]
      refine v5.takeZ 2 (some 28) (by kernel_rfl) rfl rfl (by kernel_rfl) (by kernel_rfl) (by kernel_rfl) (fun _ _ _ h => h) (by rfl) (by intro w ⟨g0, g1, g2, g3, g4, g5, g6, g7, g8, g9, g10, g11, g12, g13⟩; go_simp; try with_reducible rfl) hHeld ?_
      simp only [Act.put, List.setIfInBounds_toArray, List.set_cons_zero, List.set_cons_succ]
      refine v5.takeZ 3 (some 29) (by kernel_rfl) rfl rfl (by kernel_rfl) (by kernel_rfl) (by kernel_rfl) (fun _ _ _ h => h) (by rfl) (by intro w ⟨g0, g1, g2, g3, g4, g5, g6, g7, g8, g9, g10, g11, g12, g13⟩; go_simp; try with_reducible rfl) hHeld ?_
      simp only [Act.put, List.setIfInBounds_toArray, List.set_cons_zero, List.set_cons_succ]
      refine v5.takeZ 4 (some 30) (by kernel_rfl) rfl rfl (by kernel_rfl) (by kernel_rfl) (by kernel_rfl) (fun _ _ _ h => h) (by rfl) (by intro w ⟨g0, g1, g2, g3, g4, g5, g6, g7, g8, g9, g10, g11, g12, g13⟩; go_simp; try with_reducible rfl) hHeld ?_
      simp only [Act.put, List.setIfInBounds_toArray, List.set_cons_zero, List.set_cons_succ]
      refine v5.takeZ 5 (some 31) (by kernel_rfl) rfl rfl (by kernel_rfl) (by kernel_rfl) (by kernel_rfl) (fun _ _ _ h => h) (by rfl) (by intro w ⟨g0, g1, g2, g3, g4, g5, g6, g7, g8, g9, g10, g11, g12, g13⟩; go_simp; try with_reducible rfl) hHeld ?_
      simp only [Act.put, List.setIfInBounds_toArray, List.set_cons_zero, List.set_cons_succ]
      refine v5.oneZ 6 rfl (by kernel_rfl) (fun K hK => ?_)
      go_simp
      go_at_call 10
      refine (c_pwWatts z true (okT HOK.out) (k : Int) wr.drew (HZ.out _ (HSC.out _ HKwr.out.drew)) c1 Hc1.out).mono ?_
      rintro e y0 ⟨rfl, bb⟩
      have HKy0 := Lib.hid (HKwr.out.drew.trans (bb.mono (Nat.le_of_lt (at_lt hbx.out))))
      have hby0 := Lib.hid (box_on (show wr.drew.heap[P]? = _ from hbx.out) bb (Nat.le_refl _))
      clear bb hHeld
      have hHeld := HS0.out y0 HKy0.out hby0.out
      refine hK.out _ _ (.inr hHeld) ?_
      clear hK K
      try simp only [Act.put, List.setIfInBounds_toArray, List.set_cons_zero, List.set_cons_succ]
      refine v5.takeZ 7 (some 33) (by kernel_rfl) rfl rfl (by kernel_rfl) (by kernel_rfl) (by kernel_rfl) (fun _ _ _ h => h) (by rfl) (by intro w ⟨g0, g1, g2, g3, g4, g5, g6, g7, g8, g9, g10, g11, g12, g13⟩; go_simp; try with_reducible rfl) hHeld ?_
      simp only [Act.put, List.setIfInBounds_toArray, List.set_cons_zero, List.set_cons_succ]
      refine v5.takeZ 8 (some 34) (by kernel_rfl) rfl rfl (by kernel_rfl) (by kernel_rfl) (by kernel_rfl) (fun _ _ _ h => h) (by rfl) (by intro w ⟨g0, g1, g2, g3, g4, g5, g6, g7, g8, g9, g10, g11, g12, g13⟩; go_simp; try with_reducible rfl) hHeld ?_
      simp only [Act.put, List.setIfInBounds_toArray, List.set_cons_zero, List.set_cons_succ]
      clear hHeld
      have d1 := cell_of (o := 0) hby0.out rfl
      have q1 := frz hby0.out 0
      refine v5.oneZ 9 rfl (by kernel_rfl) (fun K hK => ?_)
      go_simp
      refine hK.out _ _ (.inl rfl) ?_
      clear hK K d1 q1
      refine v5.doneZ (by kernel_rfl) ?_ _
      obtain ⟨t0, ht0⟩ : ∃ t, a1 + c1 = t := ⟨_, rfl⟩
      have HT0 := Lib.hid ht0
      obtain ⟨X0, hX⟩ : ∃ X, X = y0.setCell ⟨P, 0, none⟩ (.int .i64 (a1 + c1)) := ⟨_, rfl⟩
      have HKX0 := Lib.hid (show Below P v153 X0 by rw [hX]; exact HKy0.out.setCell (p := ⟨P, 0, none⟩) (Nat.le_refl _) _)
      have hb1 := Lib.hid (show X0.heap[P]? = some (.cells #[.int .i64 t0, .int .i64 a2, .int .i64 a3, .int .i64 a4] 51 (0, 0)) by rw [hX, ht0]; exact set_field hby0.out _)
      rw [← hX]
      clear hX ht0
      go_wp2_with (fail)
      have hw1 : IntKind.i64.wrap (a2 + c2) = a2 + c2 := wrap_in (by omega) (by omega)
      have HS1 := Lib.hid (fun (X : World) (h : Below P v153 X) (hb : X.heap[P]? = some (.cells #[.int .i64 t0, .int .i64 a2, .int .i64 a3, .int .i64 a4] 51 (0, 0))) => (by
        obtain ⟨f0, f1, f2, f3, f4, f5, f6, g0, g1, g2⟩ := HF.out X (HSC.out X h)
        exact ⟨f0, f1, f2, f3, f4, f5, f6, g0, g1, g2, cell_of hb rfl, cell_of hb rfl, cell_of hb rfl, cell_of hb rfl⟩ : (fun (X : World) => X.cell? ⟨B, 0, none⟩ = some (.slice z.p.a1 z.s.feeds.length z.p.c1) ∧ X.cell? ⟨B, 1, none⟩ = some (.slice z.p.a2 z.s.brks.length z.p.c2) ∧ X.cell? ⟨B, 2, none⟩ = some (.slice z.p.a3 z.s.loops.length z.p.c3) ∧ X.cell? ⟨B, 3, none⟩ = some (.slice z.p.a4 z.s.racks.length z.p.c4) ∧ X.cell? ⟨B, 4, none⟩ = some (.int .i64 z.s.sw) ∧ X.cell? ⟨B, 5, none⟩ = some (.slice z.p.a5 z.s.links.length z.p.c5) ∧ X.cell? ⟨B, 6, none⟩ = some (.slice z.p.a6 z.s.hosts.length z.p.c6) ∧ X.cell? ⟨B + 1, 0, none⟩ = some (.slice z.A z.xs.length z.c) ∧ X.cell? ⟨B + 1 + 1, 0, none⟩ = some (.slice z.q.a1 z.d.hosts.length z.q.c1) ∧ X.cell? ⟨B + 1 + 1, 1, none⟩ = some (.slice z.q.a2 z.d.reps.length z.q.c2) ∧ X.cell? ⟨P, 0, none⟩ = some (.int .i64 t0) ∧ X.cell? ⟨P, 1, none⟩ = some (.int .i64 a2) ∧ X.cell? ⟨P, 2, none⟩ = some (.int .i64 a3) ∧ X.cell? ⟨P, 3, none⟩ = some (.int .i64 a4)) X))
      refine v5.region_z 9 hfm (S := fun (X : World) => X.cell? ⟨B, 0, none⟩ = some (.slice z.p.a1 z.s.feeds.length z.p.c1) ∧ X.cell? ⟨B, 1, none⟩ = some (.slice z.p.a2 z.s.brks.length z.p.c2) ∧ X.cell? ⟨B, 2, none⟩ = some (.slice z.p.a3 z.s.loops.length z.p.c3) ∧ X.cell? ⟨B, 3, none⟩ = some (.slice z.p.a4 z.s.racks.length z.p.c4) ∧ X.cell? ⟨B, 4, none⟩ = some (.int .i64 z.s.sw) ∧ X.cell? ⟨B, 5, none⟩ = some (.slice z.p.a5 z.s.links.length z.p.c5) ∧ X.cell? ⟨B, 6, none⟩ = some (.slice z.p.a6 z.s.hosts.length z.p.c6) ∧ X.cell? ⟨B + 1, 0, none⟩ = some (.slice z.A z.xs.length z.c) ∧ X.cell? ⟨B + 1 + 1, 0, none⟩ = some (.slice z.q.a1 z.d.hosts.length z.q.c1) ∧ X.cell? ⟨B + 1 + 1, 1, none⟩ = some (.slice z.q.a2 z.d.reps.length z.q.c2) ∧ X.cell? ⟨P, 0, none⟩ = some (.int .i64 t0) ∧ X.cell? ⟨P, 1, none⟩ = some (.int .i64 a2) ∧ X.cell? ⟨P, 2, none⟩ = some (.int .i64 a3) ∧ X.cell? ⟨P, 3, none⟩ = some (.int .i64 a4)) (HS1.out X0.drew HKX0.out.drew hb1.out) (fun hHeld => ?_)
      refine v5.takeZ 0 (some 35) (by kernel_rfl) rfl rfl (by kernel_rfl) (by kernel_rfl) (by kernel_rfl) (fun _ _ _ h => h) (by rfl) (by intro w ⟨g0, g1, g2, g3, g4, g5, g6, g7, g8, g9, g10, g11, g12, g13⟩; go_simp; try with_reducible rfl) hHeld ?_
      simp only [Act.put, List.setIfInBounds_toArray, List.set_cons_zero, List.set_cons_succ]
      refine v5.takeZ 1 (some 36) (by kernel_rfl) rfl rfl (by kernel_rfl) (by kernel_rfl) (by kernel_rfl) (fun _ _ _ h => h) (by rfl) (by intro w ⟨g0, g1, g2, g3, g4, g5, g6, g7, g8, g9, g10, g11, g12, g13⟩; go_simp; try with_reducible rfl) hHeld ?_
      simp only [Act.put, List.setIfInBounds_toArray, List.set_cons_zero, List.set_cons_succ]
      refine v5.takeZ 2 (some 37) (by kernel_rfl) rfl rfl (by kernel_rfl) (by kernel_rfl) (by kernel_rfl) (fun _ _ _ h => h) (by rfl) (by intro w ⟨g0, g1, g2, g3, g4, g5, g6, g7, g8, g9, g10, g11, g12, g13⟩; go_simp; try with_reducible rfl) hHeld ?_
      simp only [Act.put, List.setIfInBounds_toArray, List.set_cons_zero, List.set_cons_succ]
      refine v5.takeZ 3 (some 38) (by kernel_rfl) rfl rfl (by kernel_rfl) (by kernel_rfl) (by kernel_rfl) (fun _ _ _ h => h) (by rfl) (by intro w ⟨g0, g1, g2, g3, g4, g5, g6, g7, g8, g9, g10, g11, g12, g13⟩; go_simp; try with_reducible rfl) hHeld ?_
      simp only [Act.put, List.setIfInBounds_toArray, List.set_cons_zero, List.set_cons_succ]
      refine v5.takeZ 4 (some 39) (by kernel_rfl) rfl rfl (by kernel_rfl) (by kernel_rfl) (by kernel_rfl) (fun _ _ _ h => h) (by rfl) (by intro w ⟨g0, g1, g2, g3, g4, g5, g6, g7, g8, g9, g10, g11, g12, g13⟩; go_simp; try with_reducible rfl) hHeld ?_
      simp only [Act.put, List.setIfInBounds_toArray, List.set_cons_zero, List.set_cons_succ]
      refine v5.takeZ 5 (some 40) (by kernel_rfl) rfl rfl (by kernel_rfl) (by kernel_rfl) (by kernel_rfl) (fun _ _ _ h => h) (by rfl) (by intro w ⟨g0, g1, g2, g3, g4, g5, g6, g7, g8, g9, g10, g11, g12, g13⟩; go_simp; try with_reducible rfl) hHeld ?_
      simp only [Act.put, List.setIfInBounds_toArray, List.set_cons_zero, List.set_cons_succ]
      refine v5.oneZ 6 rfl (by kernel_rfl) (fun K hK => ?_)
      go_simp
      go_at_call 12
      refine (c_pwOfRack z true (okT HOK.out) (k : Int) X0.drew (HZ.out _ (HSC.out _ HKX0.out.drew)) c2 Hc2.out).mono ?_
      rintro e y1 ⟨rfl, bb⟩
      have HKy1 := Lib.hid (HKX0.out.drew.trans (bb.mono (Nat.le_of_lt (at_lt hb1.out))))
      have hby1 := Lib.hid (box_on (show X0.drew.heap[P]? = _ from hb1.out) bb (Nat.le_refl _))
      clear bb hHeld
      have hHeld := HS1.out y1 HKy1.out hby1.out
      refine hK.out _ _ (.inr hHeld) ?_
      clear hK K
      try simp only [Act.put, List.setIfInBounds_toArray, List.set_cons_zero, List.set_cons_succ]
      refine v5.takeZ 7 (some 42) (by kernel_rfl) rfl rfl (by kernel_rfl) (by kernel_rfl) (by kernel_rfl) (fun _ _ _ h => h) (by rfl) (by intro w ⟨g0, g1, g2, g3, g4, g5, g6, g7, g8, g9, g10, g11, g12, g13⟩; go_simp; try with_reducible rfl) hHeld ?_
      simp only [Act.put, List.setIfInBounds_toArray, List.set_cons_zero, List.set_cons_succ]
      refine v5.takeZ 8 (some 43) (by kernel_rfl) rfl rfl (by kernel_rfl) (by kernel_rfl) (by kernel_rfl) (fun _ _ _ h => h) (by rfl) (by intro w ⟨g0, g1, g2, g3, g4, g5, g6, g7, g8, g9, g10, g11, g12, g13⟩; go_simp; try with_reducible rfl) hHeld ?_
      simp only [Act.put, List.setIfInBounds_toArray, List.set_cons_zero, List.set_cons_succ]
      clear hHeld
      have d1 := cell_of (o := 1) hby1.out rfl
      have q1 := frz hby1.out 1
      refine v5.oneZ 9 rfl (by kernel_rfl) (fun K hK => ?_)
      go_simp
      refine hK.out _ _ (.inl rfl) ?_
      clear hK K d1 q1
      refine v5.doneZ (by kernel_rfl) ?_ _
      obtain ⟨t1, ht1⟩ : ∃ t, a2 + c2 = t := ⟨_, rfl⟩
      have HT1 := Lib.hid ht1
      obtain ⟨X1, hX⟩ : ∃ X, X = y1.setCell ⟨P, 1, none⟩ (.int .i64 (a2 + c2)) := ⟨_, rfl⟩
      have HKX1 := Lib.hid (show Below P v153 X1 by rw [hX]; exact HKy1.out.setCell (p := ⟨P, 1, none⟩) (Nat.le_refl _) _)
      have hb2 := Lib.hid (show X1.heap[P]? = some (.cells #[.int .i64 t0, .int .i64 t1, .int .i64 a3, .int .i64 a4] 51 (0, 0)) by rw [hX, ht1]; exact set_field hby1.out _)
      rw [← hX]
      clear hX ht1
      go_wp2_with (fail)
      have hw2 : IntKind.i64.wrap (a3 + c3) = a3 + c3 := wrap_in (by omega) (by omega)
      have HS2 := Lib.hid (fun (X : World) (h : Below P v153 X) (hb : X.heap[P]? = some (.cells #[.int .i64 t0, .int .i64 t1, .int .i64 a3, .int .i64 a4] 51 (0, 0))) => (by
        obtain ⟨f0, f1, f2, f3, f4, f5, f6, g0, g1, g2⟩ := HF.out X (HSC.out X h)
        exact ⟨f0, f1, f2, f3, f4, f5, f6, g0, g1, g2, cell_of hb rfl, cell_of hb rfl, cell_of hb rfl, cell_of hb rfl⟩ : (fun (X : World) => X.cell? ⟨B, 0, none⟩ = some (.slice z.p.a1 z.s.feeds.length z.p.c1) ∧ X.cell? ⟨B, 1, none⟩ = some (.slice z.p.a2 z.s.brks.length z.p.c2) ∧ X.cell? ⟨B, 2, none⟩ = some (.slice z.p.a3 z.s.loops.length z.p.c3) ∧ X.cell? ⟨B, 3, none⟩ = some (.slice z.p.a4 z.s.racks.length z.p.c4) ∧ X.cell? ⟨B, 4, none⟩ = some (.int .i64 z.s.sw) ∧ X.cell? ⟨B, 5, none⟩ = some (.slice z.p.a5 z.s.links.length z.p.c5) ∧ X.cell? ⟨B, 6, none⟩ = some (.slice z.p.a6 z.s.hosts.length z.p.c6) ∧ X.cell? ⟨B + 1, 0, none⟩ = some (.slice z.A z.xs.length z.c) ∧ X.cell? ⟨B + 1 + 1, 0, none⟩ = some (.slice z.q.a1 z.d.hosts.length z.q.c1) ∧ X.cell? ⟨B + 1 + 1, 1, none⟩ = some (.slice z.q.a2 z.d.reps.length z.q.c2) ∧ X.cell? ⟨P, 0, none⟩ = some (.int .i64 t0) ∧ X.cell? ⟨P, 1, none⟩ = some (.int .i64 t1) ∧ X.cell? ⟨P, 2, none⟩ = some (.int .i64 a3) ∧ X.cell? ⟨P, 3, none⟩ = some (.int .i64 a4)) X))
      refine v5.region_z 9 hfm (S := fun (X : World) => X.cell? ⟨B, 0, none⟩ = some (.slice z.p.a1 z.s.feeds.length z.p.c1) ∧ X.cell? ⟨B, 1, none⟩ = some (.slice z.p.a2 z.s.brks.length z.p.c2) ∧ X.cell? ⟨B, 2, none⟩ = some (.slice z.p.a3 z.s.loops.length z.p.c3) ∧ X.cell? ⟨B, 3, none⟩ = some (.slice z.p.a4 z.s.racks.length z.p.c4) ∧ X.cell? ⟨B, 4, none⟩ = some (.int .i64 z.s.sw) ∧ X.cell? ⟨B, 5, none⟩ = some (.slice z.p.a5 z.s.links.length z.p.c5) ∧ X.cell? ⟨B, 6, none⟩ = some (.slice z.p.a6 z.s.hosts.length z.p.c6) ∧ X.cell? ⟨B + 1, 0, none⟩ = some (.slice z.A z.xs.length z.c) ∧ X.cell? ⟨B + 1 + 1, 0, none⟩ = some (.slice z.q.a1 z.d.hosts.length z.q.c1) ∧ X.cell? ⟨B + 1 + 1, 1, none⟩ = some (.slice z.q.a2 z.d.reps.length z.q.c2) ∧ X.cell? ⟨P, 0, none⟩ = some (.int .i64 t0) ∧ X.cell? ⟨P, 1, none⟩ = some (.int .i64 t1) ∧ X.cell? ⟨P, 2, none⟩ = some (.int .i64 a3) ∧ X.cell? ⟨P, 3, none⟩ = some (.int .i64 a4)) (HS2.out X1.drew HKX1.out.drew hb2.out) (fun hHeld => ?_)
      refine v5.takeZ 0 (some 44) (by kernel_rfl) rfl rfl (by kernel_rfl) (by kernel_rfl) (by kernel_rfl) (fun _ _ _ h => h) (by rfl) (by intro w ⟨g0, g1, g2, g3, g4, g5, g6, g7, g8, g9, g10, g11, g12, g13⟩; go_simp; try with_reducible rfl) hHeld ?_
      simp only [Act.put, List.setIfInBounds_toArray, List.set_cons_zero, List.set_cons_succ]
      refine v5.takeZ 1 (some 45) (by kernel_rfl) rfl rfl (by kernel_rfl) (by kernel_rfl) (by kernel_rfl) (fun _ _ _ h => h) (by rfl) (by intro w ⟨g0, g1, g2, g3, g4, g5, g6, g7, g8, g9, g10, g11, g12, g13⟩; go_simp; try with_reducible rfl) hHeld ?_
      simp only [Act.put, List.setIfInBounds_toArray, List.set_cons_zero, List.set_cons_succ]
      refine v5.takeZ 2 (some 46) (by kernel_rfl) rfl rfl (by kernel_rfl) (by kernel_rfl) (by kernel_rfl) (fun _ _ _ h => h) (by rfl) (by intro w ⟨g0, g1, g2, g3, g4, g5, g6, g7, g8, g9, g10, g11, g12, g13⟩; go_simp; try with_reducible rfl) hHeld ?_
      simp only [Act.put, List.setIfInBounds_toArray, List.set_cons_zero, List.set_cons_succ]
      refine v5.takeZ 3 (some 47) (by kernel_rfl) rfl rfl (by kernel_rfl) (by kernel_rfl) (by kernel_rfl) (fun _ _ _ h => h) (by rfl) (by intro w ⟨g0, g1, g2, g3, g4, g5, g6, g7, g8, g9, g10, g11, g12, g13⟩; go_simp; try with_reducible rfl) hHeld ?_
      simp only [Act.put, List.setIfInBounds_toArray, List.set_cons_zero, List.set_cons_succ]
      refine v5.takeZ 4 (some 48) (by kernel_rfl) rfl rfl (by kernel_rfl) (by kernel_rfl) (by kernel_rfl) (fun _ _ _ h => h) (by rfl) (by intro w ⟨g0, g1, g2, g3, g4, g5, g6, g7, g8, g9, g10, g11, g12, g13⟩; go_simp; try with_reducible rfl) hHeld ?_
      simp only [Act.put, List.setIfInBounds_toArray, List.set_cons_zero, List.set_cons_succ]
      refine v5.takeZ 5 (some 49) (by kernel_rfl) rfl rfl (by kernel_rfl) (by kernel_rfl) (by kernel_rfl) (fun _ _ _ h => h) (by rfl) (by intro w ⟨g0, g1, g2, g3, g4, g5, g6, g7, g8, g9, g10, g11, g12, g13⟩; go_simp; try with_reducible rfl) hHeld ?_
      simp only [Act.put, List.setIfInBounds_toArray, List.set_cons_zero, List.set_cons_succ]
      refine v5.oneZ 6 rfl (by kernel_rfl) (fun K hK => ?_)
      go_simp
      go_at_call 14
      refine (c_pwOfBreaker z true (okT HOK.out) (k : Int) X1.drew (HZ.out _ (HSC.out _ HKX1.out.drew)) c3 Hc3.out).mono ?_
      rintro e y2 ⟨rfl, bb⟩
      have HKy2 := Lib.hid (HKX1.out.drew.trans (bb.mono (Nat.le_of_lt (at_lt hb2.out))))
      have hby2 := Lib.hid (box_on (show X1.drew.heap[P]? = _ from hb2.out) bb (Nat.le_refl _))
      clear bb hHeld
      have hHeld := HS2.out y2 HKy2.out hby2.out
      refine hK.out _ _ (.inr hHeld) ?_
      clear hK K
      try simp only [Act.put, List.setIfInBounds_toArray, List.set_cons_zero, List.set_cons_succ]
      refine v5.takeZ 7 (some 51) (by kernel_rfl) rfl rfl (by kernel_rfl) (by kernel_rfl) (by kernel_rfl) (fun _ _ _ h => h) (by rfl) (by intro w ⟨g0, g1, g2, g3, g4, g5, g6, g7, g8, g9, g10, g11, g12, g13⟩; go_simp; try with_reducible rfl) hHeld ?_
      simp only [Act.put, List.setIfInBounds_toArray, List.set_cons_zero, List.set_cons_succ]
      refine v5.takeZ 8 (some 52) (by kernel_rfl) rfl rfl (by kernel_rfl) (by kernel_rfl) (by kernel_rfl) (fun _ _ _ h => h) (by rfl) (by intro w ⟨g0, g1, g2, g3, g4, g5, g6, g7, g8, g9, g10, g11, g12, g13⟩; go_simp; try with_reducible rfl) hHeld ?_
      simp only [Act.put, List.setIfInBounds_toArray, List.set_cons_zero, List.set_cons_succ]
      clear hHeld
      have d1 := cell_of (o := 2) hby2.out rfl
      have q1 := frz hby2.out 2
      refine v5.oneZ 9 rfl (by kernel_rfl) (fun K hK => ?_)
      go_simp
      refine hK.out _ _ (.inl rfl) ?_
      clear hK K d1 q1
      refine v5.doneZ (by kernel_rfl) ?_ _
      obtain ⟨t2, ht2⟩ : ∃ t, a3 + c3 = t := ⟨_, rfl⟩
      have HT2 := Lib.hid ht2
      obtain ⟨X2, hX⟩ : ∃ X, X = y2.setCell ⟨P, 2, none⟩ (.int .i64 (a3 + c3)) := ⟨_, rfl⟩
      have HKX2 := Lib.hid (show Below P v153 X2 by rw [hX]; exact HKy2.out.setCell (p := ⟨P, 2, none⟩) (Nat.le_refl _) _)
      have hb3 := Lib.hid (show X2.heap[P]? = some (.cells #[.int .i64 t0, .int .i64 t1, .int .i64 t2, .int .i64 a4] 51 (0, 0)) by rw [hX, ht2]; exact set_field hby2.out _)
      rw [← hX]
      clear hX ht2
      go_wp2_with (fail)
      have hw3 : IntKind.i64.wrap (a4 + c4) = a4 + c4 := wrap_in (by omega) (by omega)
      have HS3 := Lib.hid (fun (X : World) (h : Below P v153 X) (hb : X.heap[P]? = some (.cells #[.int .i64 t0, .int .i64 t1, .int .i64 t2, .int .i64 a4] 51 (0, 0))) => (by
        obtain ⟨f0, f1, f2, f3, f4, f5, f6, g0, g1, g2⟩ := HF.out X (HSC.out X h)
        exact ⟨f0, f1, f2, f3, f4, f5, f6, g0, g1, g2, cell_of hb rfl, cell_of hb rfl, cell_of hb rfl, cell_of hb rfl⟩ : (fun (X : World) => X.cell? ⟨B, 0, none⟩ = some (.slice z.p.a1 z.s.feeds.length z.p.c1) ∧ X.cell? ⟨B, 1, none⟩ = some (.slice z.p.a2 z.s.brks.length z.p.c2) ∧ X.cell? ⟨B, 2, none⟩ = some (.slice z.p.a3 z.s.loops.length z.p.c3) ∧ X.cell? ⟨B, 3, none⟩ = some (.slice z.p.a4 z.s.racks.length z.p.c4) ∧ X.cell? ⟨B, 4, none⟩ = some (.int .i64 z.s.sw) ∧ X.cell? ⟨B, 5, none⟩ = some (.slice z.p.a5 z.s.links.length z.p.c5) ∧ X.cell? ⟨B, 6, none⟩ = some (.slice z.p.a6 z.s.hosts.length z.p.c6) ∧ X.cell? ⟨B + 1, 0, none⟩ = some (.slice z.A z.xs.length z.c) ∧ X.cell? ⟨B + 1 + 1, 0, none⟩ = some (.slice z.q.a1 z.d.hosts.length z.q.c1) ∧ X.cell? ⟨B + 1 + 1, 1, none⟩ = some (.slice z.q.a2 z.d.reps.length z.q.c2) ∧ X.cell? ⟨P, 0, none⟩ = some (.int .i64 t0) ∧ X.cell? ⟨P, 1, none⟩ = some (.int .i64 t1) ∧ X.cell? ⟨P, 2, none⟩ = some (.int .i64 t2) ∧ X.cell? ⟨P, 3, none⟩ = some (.int .i64 a4)) X))
      refine v5.region_z 9 hfm (S := fun (X : World) => X.cell? ⟨B, 0, none⟩ = some (.slice z.p.a1 z.s.feeds.length z.p.c1) ∧ X.cell? ⟨B, 1, none⟩ = some (.slice z.p.a2 z.s.brks.length z.p.c2) ∧ X.cell? ⟨B, 2, none⟩ = some (.slice z.p.a3 z.s.loops.length z.p.c3) ∧ X.cell? ⟨B, 3, none⟩ = some (.slice z.p.a4 z.s.racks.length z.p.c4) ∧ X.cell? ⟨B, 4, none⟩ = some (.int .i64 z.s.sw) ∧ X.cell? ⟨B, 5, none⟩ = some (.slice z.p.a5 z.s.links.length z.p.c5) ∧ X.cell? ⟨B, 6, none⟩ = some (.slice z.p.a6 z.s.hosts.length z.p.c6) ∧ X.cell? ⟨B + 1, 0, none⟩ = some (.slice z.A z.xs.length z.c) ∧ X.cell? ⟨B + 1 + 1, 0, none⟩ = some (.slice z.q.a1 z.d.hosts.length z.q.c1) ∧ X.cell? ⟨B + 1 + 1, 1, none⟩ = some (.slice z.q.a2 z.d.reps.length z.q.c2) ∧ X.cell? ⟨P, 0, none⟩ = some (.int .i64 t0) ∧ X.cell? ⟨P, 1, none⟩ = some (.int .i64 t1) ∧ X.cell? ⟨P, 2, none⟩ = some (.int .i64 t2) ∧ X.cell? ⟨P, 3, none⟩ = some (.int .i64 a4)) (HS3.out X2.drew HKX2.out.drew hb3.out) (fun hHeld => ?_)
      refine v5.takeZ 0 (some 53) (by kernel_rfl) rfl rfl (by kernel_rfl) (by kernel_rfl) (by kernel_rfl) (fun _ _ _ h => h) (by rfl) (by intro w ⟨g0, g1, g2, g3, g4, g5, g6, g7, g8, g9, g10, g11, g12, g13⟩; go_simp; try with_reducible rfl) hHeld ?_
      simp only [Act.put, List.setIfInBounds_toArray, List.set_cons_zero, List.set_cons_succ]
      refine v5.takeZ 1 (some 54) (by kernel_rfl) rfl rfl (by kernel_rfl) (by kernel_rfl) (by kernel_rfl) (fun _ _ _ h => h) (by rfl) (by intro w ⟨g0, g1, g2, g3, g4, g5, g6, g7, g8, g9, g10, g11, g12, g13⟩; go_simp; try with_reducible rfl) hHeld ?_
      simp only [Act.put, List.setIfInBounds_toArray, List.set_cons_zero, List.set_cons_succ]
      refine v5.takeZ 2 (some 55) (by kernel_rfl) rfl rfl (by kernel_rfl) (by kernel_rfl) (by kernel_rfl) (fun _ _ _ h => h) (by rfl) (by intro w ⟨g0, g1, g2, g3, g4, g5, g6, g7, g8, g9, g10, g11, g12, g13⟩; go_simp; try with_reducible rfl) hHeld ?_
      simp only [Act.put, List.setIfInBounds_toArray, List.set_cons_zero, List.set_cons_succ]
      refine v5.takeZ 3 (some 56) (by kernel_rfl) rfl rfl (by kernel_rfl) (by kernel_rfl) (by kernel_rfl) (fun _ _ _ h => h) (by rfl) (by intro w ⟨g0, g1, g2, g3, g4, g5, g6, g7, g8, g9, g10, g11, g12, g13⟩; go_simp; try with_reducible rfl) hHeld ?_
      simp only [Act.put, List.setIfInBounds_toArray, List.set_cons_zero, List.set_cons_succ]
      refine v5.takeZ 4 (some 57) (by kernel_rfl) rfl rfl (by kernel_rfl) (by kernel_rfl) (by kernel_rfl) (fun _ _ _ h => h) (by rfl) (by intro w ⟨g0, g1, g2, g3, g4, g5, g6, g7, g8, g9, g10, g11, g12, g13⟩; go_simp; try with_reducible rfl) hHeld ?_
      simp only [Act.put, List.setIfInBounds_toArray, List.set_cons_zero, List.set_cons_succ]
      refine v5.takeZ 5 (some 58) (by kernel_rfl) rfl rfl (by kernel_rfl) (by kernel_rfl) (by kernel_rfl) (fun _ _ _ h => h) (by rfl) (by intro w ⟨g0, g1, g2, g3, g4, g5, g6, g7, g8, g9, g10, g11, g12, g13⟩; go_simp; try with_reducible rfl) hHeld ?_
      simp only [Act.put, List.setIfInBounds_toArray, List.set_cons_zero, List.set_cons_succ]
      refine v5.oneZ 6 rfl (by kernel_rfl) (fun K hK => ?_)
      go_simp
      go_at_call 16
      refine (c_pwOfFeed z true (okT HOK.out) (k : Int) X2.drew (HZ.out _ (HSC.out _ HKX2.out.drew)) c4 Hc4.out).mono ?_
      rintro e y3 ⟨rfl, bb⟩
      have HKy3 := Lib.hid (HKX2.out.drew.trans (bb.mono (Nat.le_of_lt (at_lt hb3.out))))
      have hby3 := Lib.hid (box_on (show X2.drew.heap[P]? = _ from hb3.out) bb (Nat.le_refl _))
      clear bb hHeld
      have hHeld := HS3.out y3 HKy3.out hby3.out
      refine hK.out _ _ (.inr hHeld) ?_
      clear hK K
      try simp only [Act.put, List.setIfInBounds_toArray, List.set_cons_zero, List.set_cons_succ]
      refine v5.takeZ 7 (some 60) (by kernel_rfl) rfl rfl (by kernel_rfl) (by kernel_rfl) (by kernel_rfl) (fun _ _ _ h => h) (by rfl) (by intro w ⟨g0, g1, g2, g3, g4, g5, g6, g7, g8, g9, g10, g11, g12, g13⟩; go_simp; try with_reducible rfl) hHeld ?_
      simp only [Act.put, List.setIfInBounds_toArray, List.set_cons_zero, List.set_cons_succ]
      refine v5.takeZ 8 (some 61) (by kernel_rfl) rfl rfl (by kernel_rfl) (by kernel_rfl) (by kernel_rfl) (fun _ _ _ h => h) (by rfl) (by intro w ⟨g0, g1, g2, g3, g4, g5, g6, g7, g8, g9, g10, g11, g12, g13⟩; go_simp; try with_reducible rfl) hHeld ?_
      simp only [Act.put, List.setIfInBounds_toArray, List.set_cons_zero, List.set_cons_succ]
      clear hHeld
      have d1 := cell_of (o := 3) hby3.out rfl
      have q1 := frz hby3.out 3
      refine v5.oneZ 9 rfl (by kernel_rfl) (fun K hK => ?_)
      go_simp
      refine hK.out _ _ (.inl rfl) ?_
      clear hK K d1 q1
      refine v5.doneZ (by kernel_rfl) ?_ _
      obtain ⟨t3, ht3⟩ : ∃ t, a4 + c4 = t := ⟨_, rfl⟩
      have HT3 := Lib.hid ht3
      obtain ⟨X3, hX⟩ : ∃ X, X = y3.setCell ⟨P, 3, none⟩ (.int .i64 (a4 + c4)) := ⟨_, rfl⟩
      have HKX3 := Lib.hid (show Below P v153 X3 by rw [hX]; exact HKy3.out.setCell (p := ⟨P, 3, none⟩) (Nat.le_refl _) _)
      have hb4 := Lib.hid (show X3.heap[P]? = some (.cells #[.int .i64 t0, .int .i64 t1, .int .i64 t2, .int .i64 t3] 51 (0, 0)) by rw [hX, ht3]; exact set_field hby3.out _)
      rw [← hX]
      clear hX ht3
      go_wp2_with (fail)
      have HBE := Lib.hid (show X3.heap[P]? = some (.cells #[.int .i64 (sH z fH (k + 1)), .int .i64 (sH z (fR z) (k + 1)), .int .i64 (sH z (fB z) (k + 1)), .int .i64 (sH z (fF z) (k + 1))] 51 (0, 0)) by
        rw [sH_succ, sH_succ, sH_succ, sH_succ, Ha1.out, Ha2.out, Ha3.out, Ha4.out, Hc1.out, Hc2.out, Hc3.out, Hc4.out, HT0.out, HT1.out, HT2.out, HT3.out]
        exact hb4.out)
      first
        | exact ⟨⟨k + 1, by omega, by go_num, HKX3, HBE⟩, by simp only [intOf]; omega⟩
        | (go_roundw; case rel => exact ⟨k + 1, by omega, by go_num, HKX3, HBE⟩; case measure => simp only [intOf]; omega)
    · obtain rfl : k = 16 := by omega
      obtain ⟨e1, e2, e3, e4⟩ := sH_all HOK.out
      rw [Ha1.out] at e1
      rw [Ha2.out, ← e1] at e2
      rw [Ha3.out, ← e1] at e3
      rw [Ha4.out, ← e1] at e4
      clear e1
      subst e2 e3 e4
      have d0 := cell_of (o := 0) hbx.out rfl
      have d1 := cell_of (o := 1) hbx.out rfl
      have d2 := cell_of (o := 2) hbx.out rfl
      have d3 := cell_of (o := 3) hbx.out rfl
      go_wp2_with (fail)
      go_at_call 9
      refine (HLV.out wr).mono ?_
      rintro e v3 ⟨rfl, bb⟩
      have HKv3 := Lib.hid (below_join (HSC.out wr HKwr.out) bb (HSC.out wr HKwr.out).size)
      clear bb
      go_wp2_with (fail)
      go_ret
      exact ⟨rfl, below_join HB.out HKv3.out hle⟩
theorem row_PowerSums (w : World) (p : SP) (s : SiteD) (hs : SiAt w p s) (A : Option Addr) (c : Nat) (xs : List (Svc × SvA)) (hx : WiAt w A c xs) (q : WP) (d : WorldD) (hd : WoAt w q d) :
    Calls Tryz.prog 7 #[siV p s, .agg #[.slice A xs.length c], .agg #[.slice q.a1 d.hosts.length q.c1, .slice q.a2 d.reps.length q.c2]] w fun e w' => e = .returned (.bool true) ∧ Below w.heap.size w w' := w_PowerSums ⟨p, s, A, c, xs, q, d⟩ w ⟨hs, hx, hd⟩
end Go.Proofs.YtidpiokkfnhobaaGreat
