/-
  The law InvariantStarts (written by gen/inv_QC.py; stage 17).
-/
import Derived.Test.YtbbadnlaelgmlaaGreatQB
import Derived.Test.YtbbadnlaelgmlaaGreatPZB4
set_option linter.unusedVariables false
set_option linter.unusedSimpArgs false
namespace Go.Proofs.YtbbadnlaelgmlaaGreat
open Go.RowKit
set_option maxRecDepth 100000
set_option linter.unusedVariables false
set_option linter.unusedSimpArgs false

theorem c_ofT (A : Option Addr) (c : Nat) (l : List Bn) (kd : Nat) (kq : Int) (hq : (kd : Int) = kq) (hkd : kd < 256) (hm : l.length ≤ 10000) (w : World) (h : Rv 3 bnF w A c l) :
    Calls Tryz.prog 19 #[.slice A l.length c, .int .u8 kq] w fun e w' => ∃ A' c', e = .returned (.slice A' (ofL l kd).length c') ∧ Rv 3 bnF w' A' c' (ofL l kd) ∧ Below w.heap.size w w' := by subst hq; exact c_ivOf A c l kd hkd hm w h
theorem bnV_len {z : Sn} {r : Bool} (hr : r = true → z.Ok) : (bnV z.s z.ss z.d r).length ≤ 4000 := by
  unfold bnV
  split
  · rename_i h; exact bnTo_len (hr h) (Nat.le_refl _)
  · simp
@[reducible] def reW (z : Sn) (p : WP) (d : WorldD) : Sn := ⟨z.p, z.s, z.A, z.c, z.xs, p, d⟩
theorem reW_at {z : Sn} {p : WP} {d : WorldD} {X : World} (h : SnAt X z) (k : WoAt X p d) : SnAt X (reW z p d) := ⟨h.si, h.wi, k⟩
theorem start_ok {d d' : WorldD} {x : Rep} (h : startP d x = (d', 0)) : d'.hosts = d.hosts ∧ d'.reps = startL d.reps x := by
  unfold startP at h
  split at h
  · split at h
    · injection h with _ h; cases h
    · split at h
      · injection h with _ h; cases h
      · injection h with h _; subst h; exact ⟨rfl, rfl⟩
  · injection h with _ h; cases h
theorem c_startT (z : Sn) (x : Rep) (d' : WorldD) (er : Int) (hq : startP z.d x = (d', er)) (hm : z.d.reps.length ≤ 1000) (hm2 : z.d.hosts.length ≤ 1000) (w : World) (h : SnAt w z) :
    Calls Tryz.prog 23 #[.agg #[.slice z.q.a1 z.d.hosts.length z.q.c1, .slice z.q.a2 z.d.reps.length z.q.c2], .agg #[.int .i64 x.svc, .int .i64 x.host]] w fun e w' => ∃ p, e = .returned (.tuple #[.agg #[.slice p.a1 d'.hosts.length p.c1, .slice p.a2 d'.reps.length p.c2], .int .i64 er]) ∧ OwnW w.heap.size w' p d' ∧ Below w.heap.size w w' := by
  refine (c_wrStart z.q z.d x hm hm2 w h.wo).mono fun e w' q => ?_
  obtain ⟨p, e1, e2, e3⟩ := q
  rw [hq] at e1 e2
  exact ⟨p, e1, e2, e3⟩
set_option maxHeartbeats 64000000 in
theorem w_InvariantStarts (z : Sn) (w : World) (hz : SnAt w z) (x : Rep) :
    Calls Tryz.prog 7 #[.agg #[.slice z.p.a1 z.s.feeds.length z.p.c1, .slice z.p.a2 z.s.brks.length z.p.c2, .slice z.p.a3 z.s.loops.length z.p.c3, .slice z.p.a4 z.s.racks.length z.p.c4, .int .i64 z.s.sw, .slice z.p.a5 z.s.links.length z.p.c5, .slice z.p.a6 z.s.hosts.length z.p.c6], .agg #[.slice z.A z.xs.length z.c], .agg #[.slice z.q.a1 z.d.hosts.length z.q.c1, .slice z.q.a2 z.d.reps.length z.q.c2], .agg #[.int .i64 x.svc, .int .i64 x.host]] w fun e w' => e = .returned (.bool true) ∧ Below w.heap.size w w' := by
  have HPH := Lib.hid hz.wo.phase
  obtain ⟨W1, h1⟩ : ∃ W, W = w.alloc (.cells #[.slice z.p.a1 z.s.feeds.length z.p.c1, .slice z.p.a2 z.s.brks.length z.p.c2, .slice z.p.a3 z.s.loops.length z.p.c3, .slice z.p.a4 z.s.racks.length z.p.c4, .int .i64 z.s.sw, .slice z.p.a5 z.s.links.length z.p.c5, .slice z.p.a6 z.s.hosts.length z.p.c6] 29) := ⟨_, rfl⟩
  obtain ⟨W2, h2⟩ : ∃ W, W = W1.alloc (.cells #[.slice z.A z.xs.length z.c] 32) := ⟨_, rfl⟩
  obtain ⟨W3, h3⟩ : ∃ W, W = W2.alloc (.cells #[.slice z.q.a1 z.d.hosts.length z.q.c1, .slice z.q.a2 z.d.reps.length z.q.c2] 36) := ⟨_, rfl⟩
  obtain ⟨B0, X1⟩ := sn_boxes h1 h2 h3
  have z3 : W3.heap.size = w.heap.size + 1 + 1 + 1 := sn_size h1 h2 h3
  obtain ⟨W, h4⟩ : ∃ W, W = W3.alloc (.cells #[.int .i64 x.svc, .int .i64 x.host] 53) := ⟨_, rfl⟩
  have B1 : Below w.heap.size w W := by rw [h4]; exact B0.alloc B0.size _
  have M0 : W.heap[w.heap.size + 1 + 1 + 1]? = some (.cells #[.int .i64 x.svc, .int .i64 x.host] 53 (0, 0)) := by rw [h4, ← z3]; exact box_new _ _ _
  have z4 : W.heap.size = w.heap.size + 1 + 1 + 1 + 1 := by rw [h4, World.size_alloc, z3]
  have X2 : SnBx W w.heap.size z := by rw [h4]; exact X1.alloc _
  have HB := Lib.hid B1
  have Z0 := hz.on B1 (Nat.le_refl _)
  have HZ := Lib.hid (fun (X : World) (hX : Below W.heap.size W X) => Z0.on hX (Nat.le_refl _))
  have HF := Lib.hid (fun (X : World) (hX : Below W.heap.size W X) => ((X2.on hX (Nat.le_refl _)).cells : X.cell? ⟨w.heap.size, 0, none⟩ = some (.slice z.p.a1 z.s.feeds.length z.p.c1) ∧ X.cell? ⟨w.heap.size, 1, none⟩ = some (.slice z.p.a2 z.s.brks.length z.p.c2) ∧ X.cell? ⟨w.heap.size, 2, none⟩ = some (.slice z.p.a3 z.s.loops.length z.p.c3) ∧ X.cell? ⟨w.heap.size, 3, none⟩ = some (.slice z.p.a4 z.s.racks.length z.p.c4) ∧ X.cell? ⟨w.heap.size, 4, none⟩ = some (.int .i64 z.s.sw) ∧ X.cell? ⟨w.heap.size, 5, none⟩ = some (.slice z.p.a5 z.s.links.length z.p.c5) ∧ X.cell? ⟨w.heap.size, 6, none⟩ = some (.slice z.p.a6 z.s.hosts.length z.p.c6) ∧ X.cell? ⟨w.heap.size + 1, 0, none⟩ = some (.slice z.A z.xs.length z.c) ∧ X.cell? ⟨w.heap.size + 1 + 1, 0, none⟩ = some (.slice z.q.a1 z.d.hosts.length z.q.c1) ∧ X.cell? ⟨w.heap.size + 1 + 1, 1, none⟩ = some (.slice z.q.a2 z.d.reps.length z.q.c2)))
  have HX := Lib.hid (fun (X : World) (hX : Below W.heap.size W X) => X2.on hX (Nat.le_refl _))
  have HM0 := Lib.hid (fun (X : World) (hX : Below W.heap.size W X) => (box_on M0 hX (Nat.le_refl _) : X.heap[w.heap.size + 1 + 1 + 1]? = some (.cells #[.int .i64 x.svc, .int .i64 x.host] 53 (0, 0))))
  have HKW := Lib.hid (Below.refl W.heap.size W)
  have hle := HB.out.size
  obtain ⟨n1, n2, n3, n4, n5, n6, n7, n8⟩ := hz.bounds
  clear hz B0 X1 z3 Z0 B1 M0 z4 X2
  obtain ⟨f0, f1, f2, f3, f4, f5, f6, g0, g1, g2⟩ := HF.out W HKW.out
  have m00 := cell_of (HM0.out W HKW.out) (o := 0) rfl
  have m01 := cell_of (HM0.out W HKW.out) (o := 1) rfl
  rw [h4, h3, h2, h1] at f0 f1 f2 f3 f4 f5 f6 g0 g1 g2 m00 m01
  generalize hBB : w.heap.size = B at *
  go_enter Tryz.func7, Tryz.ntmps7
  go_wp2_with (fail)
  rw [← h1, ← h2, ← h3, ← h4]
  clear h1 h2 h3 h4 f0 f1 f2 f3 f4 f5 f6 g0 g1 g2 m00 m01
  have HXB := Lib.hid (fun (X : World) (hX : Below W.heap.size W X) => (⟨cell_of (HM0.out X hX) rfl, cell_of (HM0.out X hX) rfl⟩ : X.cell? ⟨B + 1 + 1 + 1, 0, none⟩ = some (.int .i64 x.svc) ∧ X.cell? ⟨B + 1 + 1 + 1, 1, none⟩ = some (.int .i64 x.host)))
  obtain ⟨r, hr⟩ := bool_of (FewI z)
  have HR := Lib.hid hr
  obtain ⟨r0, hr0⟩ := bool_of z.Ok
  have HR0 := Lib.hid hr0
  clear hr hr0
  go_at_call 10
  refine (c_few z r HR.out W (HZ.out _ HKW.out)).mono ?_
  rintro e v1 ⟨rfl, bb⟩
  have HKv1 := Lib.hid (below_join HKW.out bb HKW.out.size)
  clear bb
  rcases r with _ | _
  · go_wp2_with (fail)
    go_at_call 11
    refine (c_live v1).mono ?_
    rintro e v2 ⟨rfl, bb⟩
    have HKv2 := Lib.hid (below_join HKv1.out bb HKv1.out.size)
    clear bb
    go_wp2_with (fail)
    go_ret
    exact ⟨rfl, below_join HB.out HKv2.out hle⟩
  have hfew := HR.out.1 (by trivial)
  unfold FewI at hfew
  have hfr : z.d.reps.length ≤ 60 := hfew.2.2.2.2.2.2.2.2
  have hfh : z.d.hosts.length ≤ 60 := hfew.2.2.2.2.2.2.2.1
  clear hfew
  obtain ⟨f0, f1, f2, f3, f4, f5, f6, g0, g1, g2⟩ := HF.out v1 HKv1.out
  obtain ⟨r0c, r1c⟩ := HXB.out v1 HKv1.out
  go_wp2_with (fail)
  clear f0 f1 f2 f3 f4 f5 f6 g0 g1 g2 r0c r1c
  go_at_call 21
  refine (c_wvTo z r0 HR0.out v1 (HZ.out _ HKv1.out)).mono ?_
  rintro e v3 ⟨rfl, bb⟩
  have HKv3 := Lib.hid (below_join HKv1.out bb HKv1.out.size)
  clear bb
  rcases r0 with _ | _
  · go_wp2_with (fail)
    go_at_call 11
    refine (c_live v3).mono ?_
    rintro e v4 ⟨rfl, bb⟩
    have HKv4 := Lib.hid (below_join HKv3.out bb HKv3.out.size)
    clear bb
    go_wp2_with (fail)
    go_ret
    exact ⟨rfl, below_join HB.out HKv4.out hle⟩
  have HOK := Lib.hid (HR0.out.1 (by trivial))
  obtain ⟨d', er, hst⟩ : ∃ d' er, startP z.d x = (d', er) := ⟨_, _, rfl⟩
  have HST := Lib.hid hst
  clear hst
  obtain ⟨f0, f1, f2, f3, f4, f5, f6, g0, g1, g2⟩ := HF.out v3 HKv3.out
  obtain ⟨r0c, r1c⟩ := HXB.out v3 HKv3.out
  go_wp2_with (fail)
  clear f0 f1 f2 f3 f4 f5 f6 g0 g1 g2 r0c r1c
  go_at_call 23
  refine (c_startT z x d' er HST.out (by omega) (by omega) v3 (HZ.out _ HKv3.out)).mono ?_
  rintro e v5 ⟨p', rfl, ow, bb⟩
  have HKv5 := Lib.hid (below_join HKv3.out bb HKv3.out.size)
  have OWv5 := Lib.hid ow
  clear ow
  clear bb
  obtain ⟨X6, hX6⟩ : ∃ X, X = v5.alloc (.cells #[.slice p'.a1 d'.hosts.length p'.c1, .slice p'.a2 d'.reps.length p'.c2] 36) := ⟨_, rfl⟩
  have b6 : Below v5.heap.size v5 X6 := by subst hX6; exact (Below.refl _ _).alloc (Nat.le_refl _) _
  have HKX6 := Lib.hid (below_join HKv5.out b6 HKv5.out.size)
  have OWX6 := Lib.hid (OWv5.out.on b6 (Nat.le_refl _))
  clear b6
  rcases her : (er != 0) with _ | _
  rotate_left
  · go_wp2_with (fail)
    rw [← hX6]
    clear hX6
    go_at_call 11
    refine (c_live X6).mono ?_
    rintro e v7 ⟨rfl, bb⟩
    have HKv7 := Lib.hid (below_join HKX6.out bb HKX6.out.size)
    have OWv7 := Lib.hid (OWX6.out.on bb (Nat.le_refl _))
    clear bb
    go_wp2_with (fail)
    go_ret
    exact ⟨rfl, below_join HB.out HKv7.out hle⟩
  have her0 : er = 0 := by rw [bne_eq_false_iff_eq] at her; exact her
  subst her0
  have HSO := Lib.hid (start_ok HST.out)
  obtain ⟨r1, hr1⟩ := bool_of (reW z p' d').Ok
  have HR1 := Lib.hid hr1
  clear hr1
  have hbA : X6.heap[v5.heap.size]? = some (.cells #[.slice p'.a1 d'.hosts.length p'.c1, .slice p'.a2 d'.reps.length p'.c2] 36 (0, 0)) := by rw [hX6]; exact box_new _ _ _
  have HVB := Lib.hid (fun (Y : World) (hY : Below X6.heap.size X6 Y) => (⟨cell_of (box_on hbA hY (Nat.le_refl _)) rfl, cell_of (box_on hbA hY (Nat.le_refl _)) rfl⟩ : Y.cell? ⟨v5.heap.size, 0, none⟩ = some (.slice p'.a1 d'.hosts.length p'.c1) ∧ Y.cell? ⟨v5.heap.size, 1, none⟩ = some (.slice p'.a2 d'.reps.length p'.c2)))
  have HZ2 := Lib.hid (fun (Y : World) (hY : Below X6.heap.size X6 Y) => reW_at (HZ.out Y (below_join HKX6.out hY HKX6.out.size)) ((OWX6.out.wo (by rw [HSO.out.1]; exact HPH.out)).on hY (Nat.le_refl _)))
  have HJX6 := Lib.hid (Below.refl X6.heap.size X6)
  clear hbA
  obtain ⟨f0, f1, f2, f3, f4, f5, f6, g0, g1, g2⟩ := HF.out X6 HKX6.out
  obtain ⟨v0, v1⟩ := HVB.out X6 HJX6.out
  rw [hX6] at f0 f1 f2 f3 f4 f5 f6 g0 g1 g2 v0 v1
  go_wp2_with (fail)
  rw [← hX6]
  clear hX6
  clear f0 f1 f2 f3 f4 f5 f6 g0 g1 g2 v0 v1
  go_at_call 21
  refine (c_wvTo (reW z p' d') r1 HR1.out X6 (HZ2.out _ HJX6.out)).mono ?_
  rintro e v8 ⟨rfl, bb⟩
  have HKv8 := Lib.hid (below_join HKX6.out bb HKX6.out.size)
  have HJv8 := Lib.hid (below_join HJX6.out bb HJX6.out.size)
  clear bb
  rcases r1 with _ | _
  · go_wp2_with (fail)
    go_at_call 11
    refine (c_live v8).mono ?_
    rintro e v9 ⟨rfl, bb⟩
    have HKv9 := Lib.hid (below_join HKv8.out bb HKv8.out.size)
    have HJv9 := Lib.hid (below_join HJv8.out bb HJv8.out.size)
    clear bb
    go_wp2_with (fail)
    go_ret
    exact ⟨rfl, below_join HB.out HKv9.out hle⟩
  have HOK2 := Lib.hid (HR1.out.1 (by trivial))
  have hxin : 0 ≤ x.host ∧ x.host < z.d.hosts.length := by
    have h := HOK2.out.2.2.2.2.2.1 x (show x ∈ d'.reps by rw [HSO.out.2]; exact startL_mem.2 (.inl rfl))
    unfold repOk at h
    rw [Bool.and_eq_true, ixB_iff, ixB_iff] at h
    have h2 := hosts_same HOK.out
    have h3 : x.host < z.s.hosts.length := h.2.2
    exact ⟨h.2.1, by omega⟩
  obtain ⟨hn, hhn⟩ : ∃ hn : Nat, x.host = (hn : Int) := ⟨x.host.toNat, by omega⟩
  have hnl : hn < z.d.hosts.length := by omega
  obtain ⟨y, hy⟩ : ∃ y, z.d.hosts[hn]? = some y := ⟨_, List.getElem?_eq_getElem hnl⟩
  have hni : ((hn : Nat) : Int).toNat = hn := by omega
  have hni2 : (hn : Int) < (z.d.hosts.length : Int) := by omega
  obtain ⟨pb, po, e6, hpb, x0⟩ := ho_at (HZ.out W HKW.out) hy
  have HHN := Lib.hid hhn
  have HY := Lib.hid (phAt_eq hy)
  clear hxin hy
  obtain ⟨f0, f1, f2, f3, f4, f5, f6, g0, g1, g2⟩ := HF.out v8 HKv8.out
  obtain ⟨r0c, r1c⟩ := HXB.out v8 HKv8.out
  have c0 := (HKv8.out.cell (p := ⟨pb, po + hn * 2, none⟩) hpb).trans x0
  rw [e6] at g1
  rw [hhn] at r1c
  clear e6 x0 hhn
  rcases hph : ((y.phase : Int) != 0) with _ | _
  rotate_left
  · go_wp2_with (fail)
    go_at_call 11
    refine (c_live v8).mono ?_
    rintro e v10 ⟨rfl, bb⟩
    have HKv10 := Lib.hid (below_join HKv8.out bb HKv8.out.size)
    have HJv10 := Lib.hid (below_join HJv8.out bb HJv8.out.size)
    clear bb
    go_wp2_with (fail)
    go_ret
    exact ⟨rfl, below_join HB.out HKv10.out hle⟩
  have hp0 : y.phase = 0 := by rw [bne_eq_false_iff_eq] at hph; omega
  have HP0 := Lib.hid hp0
  clear hp0
  have HSB := Lib.hid (show z.d.reps.Sublist d'.reps by rw [HSO.out.2]; exact startL_sub _ _)
  have HK3 := Lib.hid (show ∀ k, (k = 2 ∨ k = 3) → keptB (bnV z.s z.ss z.d true) (ofL (bnV z.s z.ss d' true) k) = true from fun k hk => kept_of rfl fun _ y hy => more_ok HSB.out HSO.out.1 (fun q hq => startL_of (by rw [HSO.out.2] at hq; exact hq)) (by rw [HHN.out, Int.toNat_natCast, HY.out]; exact HP0.out) (by rw [HHN.out]; omega) hk hy)
  obtain ⟨L, hL⟩ : ∃ L, bnV z.s z.ss z.d true = L := ⟨_, rfl⟩
  obtain ⟨M, hM⟩ : ∃ M, bnV z.s z.ss d' true = M := ⟨_, rfl⟩
  have hLn : L.length ≤ 4000 := by rw [← hL]; exact bnV_len fun _ => HOK.out
  have hMn : M.length ≤ 4000 := by rw [← hM]; exact bnV_len (z := reW z p' d') fun _ => HOK2.out
  rw [hL, hM] at HK3
  have HLL := Lib.hid hL
  have HMM := Lib.hid hM
  clear hL hM
  obtain ⟨x3, hx3⟩ : ∃ x, keptX L (ofL M 3) = x := ⟨_, rfl⟩
  obtain ⟨x2, hx2⟩ : ∃ x, keptX L (ofL M 2) = x := ⟨_, rfl⟩
  have HX3 := Lib.hid hx3
  have HX2 := Lib.hid hx2
  clear hx3 hx2
  obtain ⟨v0, v1⟩ := HVB.out v8 HJv8.out
  go_wp2_with (fail)
  clear f0 f1 f2 f3 f4 f5 f6 g0 g1 g2 r0c r1c c0 v0 v1
  have HS2 := Lib.hid (fun (X : World) (hX : Below W.heap.size W X) (hY : Below X6.heap.size X6 X) => (by obtain ⟨f0, f1, f2, f3, f4, f5, f6, g0, g1, g2⟩ := HF.out X hX; exact ⟨f0, f1, f2, f3, f4, f5, f6, g0, g1, g2, HVB.out X hY⟩ : X.cell? ⟨B, 0, none⟩ = some (.slice z.p.a1 z.s.feeds.length z.p.c1) ∧ X.cell? ⟨B, 1, none⟩ = some (.slice z.p.a2 z.s.brks.length z.p.c2) ∧ X.cell? ⟨B, 2, none⟩ = some (.slice z.p.a3 z.s.loops.length z.p.c3) ∧ X.cell? ⟨B, 3, none⟩ = some (.slice z.p.a4 z.s.racks.length z.p.c4) ∧ X.cell? ⟨B, 4, none⟩ = some (.int .i64 z.s.sw) ∧ X.cell? ⟨B, 5, none⟩ = some (.slice z.p.a5 z.s.links.length z.p.c5) ∧ X.cell? ⟨B, 6, none⟩ = some (.slice z.p.a6 z.s.hosts.length z.p.c6) ∧ X.cell? ⟨B + 1, 0, none⟩ = some (.slice z.A z.xs.length z.c) ∧ X.cell? ⟨B + 1 + 1, 0, none⟩ = some (.slice z.q.a1 z.d.hosts.length z.q.c1) ∧ X.cell? ⟨B + 1 + 1, 1, none⟩ = some (.slice z.q.a2 z.d.reps.length z.q.c2) ∧ X.cell? ⟨v5.heap.size, 0, none⟩ = some (.slice p'.a1 d'.hosts.length p'.c1) ∧ X.cell? ⟨v5.heap.size, 1, none⟩ = some (.slice p'.a2 d'.reps.length p'.c2)))
  have HCB := Lib.hid (fun (Y : World) (hY : Below X6.heap.size X6 Y) => (c_Broken (reW z p' d') true ⟨fun _ => HOK2.out, fun _ => rfl⟩ M HMM.out Y (HZ2.out Y hY) : Calls Tryz.prog 13 #[.agg #[.slice z.p.a1 z.s.feeds.length z.p.c1, .slice z.p.a2 z.s.brks.length z.p.c2, .slice z.p.a3 z.s.loops.length z.p.c3, .slice z.p.a4 z.s.racks.length z.p.c4, .int .i64 z.s.sw, .slice z.p.a5 z.s.links.length z.p.c5, .slice z.p.a6 z.s.hosts.length z.p.c6], .agg #[.slice z.A z.xs.length z.c], .agg #[.slice p'.a1 d'.hosts.length p'.c1, .slice p'.a2 d'.reps.length p'.c2]] Y fun e w' => ∃ A c, e = .returned (.slice A M.length c) ∧ Rv 3 bnF w' A c M ∧ Below Y.heap.size Y w'))
  go_region_held3 (fun X => X.cell? ⟨B, 0, none⟩ = some (.slice z.p.a1 z.s.feeds.length z.p.c1) ∧ X.cell? ⟨B, 1, none⟩ = some (.slice z.p.a2 z.s.brks.length z.p.c2) ∧ X.cell? ⟨B, 2, none⟩ = some (.slice z.p.a3 z.s.loops.length z.p.c3) ∧ X.cell? ⟨B, 3, none⟩ = some (.slice z.p.a4 z.s.racks.length z.p.c4) ∧ X.cell? ⟨B, 4, none⟩ = some (.int .i64 z.s.sw) ∧ X.cell? ⟨B, 5, none⟩ = some (.slice z.p.a5 z.s.links.length z.p.c5) ∧ X.cell? ⟨B, 6, none⟩ = some (.slice z.p.a6 z.s.hosts.length z.p.c6) ∧ X.cell? ⟨B + 1, 0, none⟩ = some (.slice z.A z.xs.length z.c) ∧ X.cell? ⟨B + 1 + 1, 0, none⟩ = some (.slice z.q.a1 z.d.hosts.length z.q.c1) ∧ X.cell? ⟨B + 1 + 1, 1, none⟩ = some (.slice z.q.a2 z.d.reps.length z.q.c2) ∧ X.cell? ⟨v5.heap.size, 0, none⟩ = some (.slice p'.a1 d'.hosts.length p'.c1) ∧ X.cell? ⟨v5.heap.size, 1, none⟩ = some (.slice p'.a2 d'.reps.length p'.c2))
    (first | exact HS2.out v12 HKv12.out HJv12.out | exact HS2.out v11 HKv11.out HJv11.out | exact HS2.out v8 HKv8.out HJv8.out | fail)
    (first
      | (go_at_call 13; (with_reducible refine (c_Broken z true ⟨fun _ => HOK.out, fun _ => rfl⟩ L HLL.out v8.drew (HZ.out _ HKv8.out.drew)).mono ?_); rintro e v11 ⟨A1, q1, rfl, rv1, bb0⟩; have bb := below_join (Below.refl v8.heap.size v8).drew bb0 (Nat.le_refl _); have HKv11 := Lib.hid (below_join HKv8.out bb HKv8.out.size); have HJv11 := Lib.hid (below_join HJv8.out bb HJv8.out.size); have RAv11 := Lib.hid rv1; clear rv1; clear bb bb0)
      | (go_at_call 13; (with_reducible refine (HCB.out v11 HJv11.out).mono ?_); rintro e v12 ⟨A2, q2, rfl, rv2, bb0⟩; have bb := below_join (Below.refl v11.heap.size v11) bb0 (Nat.le_refl _); have HKv12 := Lib.hid (below_join HKv11.out bb HKv11.out.size); have HJv12 := Lib.hid (below_join HJv11.out bb HJv11.out.size); have RAv12 := Lib.hid (RAv11.out.on bb (Nat.le_refl _)); have RBv12 := Lib.hid rv2; clear rv2; clear bb bb0)
      | fail)
  go_wp2_with (fail)
  go_at_call 19
  refine (c_ofT A2 q2 M 3 3 rfl (by omega) (by omega) v12 RBv12.out).mono ?_
  rintro e v13 ⟨A39, c39, rfl, r9, bb⟩
  have HKv13 := Lib.hid (below_join HKv12.out bb HKv12.out.size)
  have HJv13 := Lib.hid (below_join HJv12.out bb HJv12.out.size)
  have RAv13 := Lib.hid (RAv12.out.on bb (Nat.le_refl _))
  have RBv13 := Lib.hid (RBv12.out.on bb (Nat.le_refl _))
  have R9v13 := Lib.hid r9
  clear r9
  clear bb
  go_wp2_with (fail)
  go_at_call 17
  refine (c_kT A1 q1 L A39 c39 (ofL M 3) x3 true HX3.out (HK3.out 3 (by omega)) v13 RAv13.out R9v13.out).mono ?_
  rintro e v14 ⟨rfl, bb⟩
  have HKv14 := Lib.hid (below_join HKv13.out bb HKv13.out.size)
  have HJv14 := Lib.hid (below_join HJv13.out bb HJv13.out.size)
  have RAv14 := Lib.hid (RAv13.out.on bb (Nat.le_refl _))
  have RBv14 := Lib.hid (RBv13.out.on bb (Nat.le_refl _))
  have R9v14 := Lib.hid (R9v13.out.on bb (Nat.le_refl _))
  clear bb
  obtain ⟨X15, hX15⟩ : ∃ X, X = v14.alloc (.cells #[.int .u8 (x3.kind : Int), .int .i64 x3.a, .int .i64 x3.b] 44) := ⟨_, rfl⟩
  have b15 : Below v14.heap.size v14 X15 := by subst hX15; exact (Below.refl _ _).alloc (Nat.le_refl _) _
  have HKX15 := Lib.hid (below_join HKv14.out b15 HKv14.out.size)
  have HJX15 := Lib.hid (below_join HJv14.out b15 HJv14.out.size)
  have RAX15 := Lib.hid (RAv14.out.on b15 (Nat.le_refl _))
  have RBX15 := Lib.hid (RBv14.out.on b15 (Nat.le_refl _))
  clear b15
  go_wp2_with (fail)
  rw [← hX15]
  clear hX15
  go_at_call 19
  refine (c_ofT A2 q2 M 2 2 rfl (by omega) (by omega) X15 RBX15.out).mono ?_
  rintro e v16 ⟨A29, c29, rfl, r9, bb⟩
  have HKv16 := Lib.hid (below_join HKX15.out bb HKX15.out.size)
  have HJv16 := Lib.hid (below_join HJX15.out bb HJX15.out.size)
  have RAv16 := Lib.hid (RAX15.out.on bb (Nat.le_refl _))
  have RBv16 := Lib.hid (RBX15.out.on bb (Nat.le_refl _))
  have R9v16 := Lib.hid r9
  clear r9
  clear bb
  go_wp2_with (fail)
  go_at_call 17
  refine (c_kT A1 q1 L A29 c29 (ofL M 2) x2 true HX2.out (HK3.out 2 (by omega)) v16 RAv16.out R9v16.out).mono ?_
  rintro e v17 ⟨rfl, bb⟩
  have HKv17 := Lib.hid (below_join HKv16.out bb HKv16.out.size)
  have HJv17 := Lib.hid (below_join HJv16.out bb HJv16.out.size)
  have RAv17 := Lib.hid (RAv16.out.on bb (Nat.le_refl _))
  have RBv17 := Lib.hid (RBv16.out.on bb (Nat.le_refl _))
  have R9v17 := Lib.hid (R9v16.out.on bb (Nat.le_refl _))
  clear bb
  obtain ⟨X18, hX18⟩ : ∃ X, X = v17.alloc (.cells #[.int .u8 (x2.kind : Int), .int .i64 x2.a, .int .i64 x2.b] 44) := ⟨_, rfl⟩
  have b18 : Below v17.heap.size v17 X18 := by subst hX18; exact (Below.refl _ _).alloc (Nat.le_refl _) _
  have HKX18 := Lib.hid (below_join HKv17.out b18 HKv17.out.size)
  have HJX18 := Lib.hid (below_join HJv17.out b18 HJv17.out.size)
  have RAX18 := Lib.hid (RAv17.out.on b18 (Nat.le_refl _))
  have RBX18 := Lib.hid (RBv17.out.on b18 (Nat.le_refl _))
  clear b18
  go_wp2_with (fail)
  rw [← hX18]
  clear hX18
  go_at_call 11
  refine (c_live X18).mono ?_
  rintro e v19 ⟨rfl, bb⟩
  have HKv19 := Lib.hid (below_join HKX18.out bb HKX18.out.size)
  have HJv19 := Lib.hid (below_join HJX18.out bb HJX18.out.size)
  have RAv19 := Lib.hid (RAX18.out.on bb (Nat.le_refl _))
  have RBv19 := Lib.hid (RBX18.out.on bb (Nat.le_refl _))
  clear bb
  go_wp2_with (fail)
  go_ret
  exact ⟨rfl, below_join HB.out HKv19.out hle⟩
theorem row_InvariantStarts (w : World) (p : SP) (s : SiteD) (hs : SiAt w p s) (A : Option Addr) (c : Nat) (xs : List (Svc × SvA)) (hx : WiAt w A c xs) (q : WP) (d : WorldD) (hd : WoAt w q d) (x : Rep) :
    Calls Tryz.prog 7 #[siV p s, .agg #[.slice A xs.length c], .agg #[.slice q.a1 d.hosts.length q.c1, .slice q.a2 d.reps.length q.c2], .agg #[.int .i64 x.svc, .int .i64 x.host]] w fun e w' => e = .returned (.bool true) ∧ Below w.heap.size w w' := w_InvariantStarts ⟨p, s, A, c, xs, q, d⟩ w ⟨hs, hx, hd⟩ x
end Go.Proofs.YtbbadnlaelgmlaaGreat
