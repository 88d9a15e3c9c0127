/-
  The law PowerKnown (written by gen/power_HF.py).
-/
import Derived.Test.YtidpiokkfnhobaaPO2
set_option linter.unusedVariables false
set_option linter.unusedSimpArgs false
namespace Go.Proofs.Ytidpiokkfnhobaa
open Go.RowKit
set_option maxRecDepth 100000
set_option linter.unusedVariables false
set_option linter.unusedSimpArgs false

theorem okTrue {z : Sn} (ok : z.Ok) : true = true ↔ z.Ok := ⟨fun _ => ok, fun _ => rfl⟩
/-- The example with host 0 broken. -/
def brW : WorldD := ⟨[⟨4, 0⟩, ⟨0, 0⟩], [⟨0, 0⟩, ⟨0, 1⟩]⟩
theorem brOk : WorldOk exD (svs wxs) brW := ⟨by decide +kernel, exWish, by decide, by decide +kernel, by decide, by decide +kernel, by decide +kernel⟩
def brZ (p : SP) (A : Option Addr) (c : Nat) (q : WP) : Sn := ⟨p, exD, A, c, wxs, q, brW⟩
theorem break_own {X : World} {base : Nat} {p : WP} (h : OwnW base X p exW) : ∃ g, p.a1 = some ⟨g, 0, none⟩ ∧ base ≤ g ∧ g < X.heap.size ∧ X.cell? ⟨g, 0, none⟩ = some (.int .u8 0) ∧ X.frozen? ⟨g, 0, none⟩ = false ∧ WoAt (X.setCell ⟨g, 0, none⟩ (.int .u8 4)) p brW := by
  obtain ⟨h1, h2⟩ := h
  obtain ⟨pa, pc, pb, pd⟩ := p
  obtain ⟨g, cap, hv, hb, hlt⟩ := h1.form (by decide)
  obtain ⟨g2, cap2, hv2, hb2, hlt2⟩ := h2.form (by decide)
  injection hv with e1 _ e2
  injection hv2 with e3 _ e4
  simp only at e1 e2 e3 e4
  subst e1 e2 e3 e4
  have s1 := v5.own_set (i := 0) (v := .int .u8 4) h1
  have hne : g2 ≠ g := by
    rintro rfl
    obtain ⟨-, ⟨q, -⟩ | ⟨g', cap', cur, q, k3, k4, -⟩⟩ := h1
    · cases q
    · obtain ⟨-, ⟨r, -⟩ | ⟨g'', cap'', cur', r, k3', k4', -⟩⟩ := h2
      · cases r
      · injection q with q1
        injection q1 with q1
        injection q1 with q1
        injection r with r1
        injection r1 with r1
        injection r1 with r1
        subst q1
        rw [← r1, k4] at k4'
        injection k4' with k4'
        injection k4' with _ k5
        exact absurd k5 (by decide)
  have s2 := own_else (b := g) (i := 0) (v := .int .u8 4) h2 hne
  have c0 := h1.cellAt 0 (by decide)
  have fz : X.frozen? ⟨g, 0, none⟩ = false := by
    obtain ⟨-, ⟨q, -⟩ | ⟨g', cap', cur, q, k3, k4, -⟩⟩ := h1
    · cases q
    · injection q with q1
      injection q1 with q1
      injection q1 with q1
      subst q1
      exact frz k4 0
  refine ⟨g, rfl, hb, hlt, c0, fz, ?_⟩
  exact OwnW.wo (base := base) (p := ⟨some ⟨g, 0, none⟩, pc, some ⟨g2, 0, none⟩, pd⟩) (d := brW) ⟨s1, s2⟩ (by decide)
theorem c_site2 (w : World) : Calls Try.prog 6 #[] w fun e w' => ∃ p : SP, e = .returned (.agg #[.slice p.a1 exD.feeds.length p.c1, .slice p.a2 exD.brks.length p.c2, .slice p.a3 exD.loops.length p.c3, .slice p.a4 exD.racks.length p.c4, .int .i64 exD.sw, .slice p.a5 exD.links.length p.c5, .slice p.a6 exD.hosts.length p.c6]) ∧ SiAt w' p exD ∧ Below w.heap.size w w' := (c_site w).mono fun e w' h => ⟨_, h.1, h.2.1, h.2.2⟩
def zS : SiteD := ⟨[], [], [], [], 0, [], []⟩
def zZ : Sn := ⟨⟨none, 0, none, 0, none, 0, none, 0, none, 0, none, 0⟩, zS, none, 0, [], ⟨none, 0, none, 0⟩, ⟨[], []⟩⟩
theorem zZ_at (w : World) : SnAt w zZ := ⟨⟨Rw.nil _ _, Rw.nil _ _, Rw.nil _ _, Rw.nil _ _, Rw.nil _ _, Rw.nil _ _⟩, ⟨Rv.nil _, fun x hx => by cases hx⟩, ⟨Rv.nil _, Rv.nil _, by intro h hh; cases hh⟩⟩
theorem zZ_no : false = true ↔ zZ.Ok := ⟨fun h => (by cases h), fun h => absurd h.1 (by decide)⟩
theorem c_netZ (w : World) : Calls Try.prog 5 #[.agg #[.slice none 0 0, .slice none 0 0, .slice none 0 0, .slice none 0 0, .int .i64 0, .slice none 0 0, .slice none 0 0], .agg #[.slice none 0 0], .agg #[.slice none 0 0, .slice none 0 0]] w fun e w' => ∃ v, e = .returned (.agg #[.int .i64 0, v]) ∧ Below w.heap.size w w' := by
  refine (c_pwNet zZ false zZ_no w (zZ_at w)).mono ?_
  rintro e w' ⟨v, rfl, -, b⟩
  exact ⟨v, rfl, b⟩
theorem nt_field0 (a : Int) (v : Value) (w : World) : (Instr.field 32 (.agg #[.int .i64 a, v]) 0).run Try.prog w = .ok (.int .i64 a) w := by kernel_rfl
theorem c_netE (p : SP) (A : Option Addr) (c : Nat) (q : WP) (w : World) (h1 : SiAt w p exD) (h2 : WiAt w A c wxs) (h3 : WoAt w q exW) : Calls Try.prog 5 #[.agg #[.slice p.a1 exD.feeds.length p.c1, .slice p.a2 exD.brks.length p.c2, .slice p.a3 exD.loops.length p.c3, .slice p.a4 exD.racks.length p.c4, .int .i64 exD.sw, .slice p.a5 exD.links.length p.c5, .slice p.a6 exD.hosts.length p.c6], .agg #[.slice A wxs.length c], .agg #[.slice q.a1 exW.hosts.length q.c1, .slice q.a2 exW.reps.length q.c2]] w fun e w' => ∃ u n, e = .returned (.agg #[.int .i64 7, .slice u 7 n]) ∧ Below w.heap.size w w' := by
  refine (c_pwNet (exZ p A c q) true (exZ_ok p A c q) w ⟨h1, h2, h3⟩).mono ?_
  rintro e w' ⟨v, rfl, pt, b⟩
  obtain ⟨u, n, rfl, -, -⟩ := pt.shape
  have e1 : netNV (exZ p A c q) true = 7 := by show (netN exD : Int) = 7; decide
  have e2 : (netLV (exZ p A c q) true).length = 7 := by show (netL exD (svs wxs) exW).length = 7; rw [netL_len]; decide
  rw [e1, e2]
  exact ⟨u, n, rfl, b⟩
theorem kRack (p : SP) (A : Option Addr) (c : Nat) (q : WP) (w : World) (h1 : SiAt w p exD) (h2 : WiAt w A c wxs) (h3 : WoAt w q exW) :
    Calls Try.prog 8 #[.agg #[.slice p.a1 exD.feeds.length p.c1, .slice p.a2 exD.brks.length p.c2, .slice p.a3 exD.loops.length p.c3, .slice p.a4 exD.racks.length p.c4, .int .i64 exD.sw, .slice p.a5 exD.links.length p.c5, .slice p.a6 exD.hosts.length p.c6], .agg #[.slice A wxs.length c], .agg #[.slice q.a1 exW.hosts.length q.c1, .slice q.a2 exW.reps.length q.c2], .int .i64 1] w fun e w' => e = .returned (.int .i64 200) ∧ Below w.heap.size w w' :=
  c_pwOfRack (exZ p A c q) true (exZ_ok p A c q) 1 w ⟨h1, h2, h3⟩ 200 (by show loadN exD (svs wxs) exW (isRack exD 1) = 200; decide +kernel)
theorem kBrk (p : SP) (A : Option Addr) (c : Nat) (q : WP) (w : World) (h1 : SiAt w p exD) (h2 : WiAt w A c wxs) (h3 : WoAt w q exW) :
    Calls Try.prog 9 #[.agg #[.slice p.a1 exD.feeds.length p.c1, .slice p.a2 exD.brks.length p.c2, .slice p.a3 exD.loops.length p.c3, .slice p.a4 exD.racks.length p.c4, .int .i64 exD.sw, .slice p.a5 exD.links.length p.c5, .slice p.a6 exD.hosts.length p.c6], .agg #[.slice A wxs.length c], .agg #[.slice q.a1 exW.hosts.length q.c1, .slice q.a2 exW.reps.length q.c2], .int .i64 0] w fun e w' => e = .returned (.int .i64 200) ∧ Below w.heap.size w w' :=
  c_pwOfBreaker (exZ p A c q) true (exZ_ok p A c q) 0 w ⟨h1, h2, h3⟩ 200 (by show loadN exD (svs wxs) exW (isBrk exD 0) = 200; decide +kernel)
theorem kWat0 (p : SP) (A : Option Addr) (c : Nat) (q : WP) (w : World) (h1 : SiAt w p exD) (h2 : WiAt w A c wxs) (h3 : WoAt w q brW) :
    Calls Try.prog 10 #[.agg #[.slice p.a1 exD.feeds.length p.c1, .slice p.a2 exD.brks.length p.c2, .slice p.a3 exD.loops.length p.c3, .slice p.a4 exD.racks.length p.c4, .int .i64 exD.sw, .slice p.a5 exD.links.length p.c5, .slice p.a6 exD.hosts.length p.c6], .agg #[.slice A wxs.length c], .agg #[.slice q.a1 brW.hosts.length q.c1, .slice q.a2 brW.reps.length q.c2], .int .i64 0] w fun e w' => e = .returned (.int .i64 0) ∧ Below w.heap.size w w' :=
  c_pwWatts (brZ p A c q) true (okTrue (z := brZ p A c q) brOk) 0 w ⟨h1, h2, h3⟩ 0 (by show loadN exD (svs wxs) brW (isHost 0) = 0; decide +kernel)
theorem kCar (p : SP) (A : Option Addr) (c : Nat) (q : WP) (w : World) (h1 : SiAt w p exD) (h2 : WiAt w A c wxs) (h3 : WoAt w q brW) :
    Calls Try.prog 11 #[.agg #[.slice p.a1 exD.feeds.length p.c1, .slice p.a2 exD.brks.length p.c2, .slice p.a3 exD.loops.length p.c3, .slice p.a4 exD.racks.length p.c4, .int .i64 exD.sw, .slice p.a5 exD.links.length p.c5, .slice p.a6 exD.hosts.length p.c6], .agg #[.slice A wxs.length c], .agg #[.slice q.a1 brW.hosts.length q.c1, .slice q.a2 brW.reps.length q.c2]] w fun e w' => e = .returned (.int .i64 200) ∧ Below w.heap.size w w' :=
  c_pwCarried (brZ p A c q) true (okTrue (z := brZ p A c q) brOk) w ⟨h1, h2, h3⟩ 200 (by show carryV exD (svs wxs) brW = 200; decide +kernel)
theorem kWat2 (p : SP) (A : Option Addr) (c : Nat) (q : WP) (w : World) (h1 : SiAt w p exD) (h2 : WiAt w A c wxs) (h3 : WoAt w q exW) :
    Calls Try.prog 10 #[.agg #[.slice p.a1 exD.feeds.length p.c1, .slice p.a2 exD.brks.length p.c2, .slice p.a3 exD.loops.length p.c3, .slice p.a4 exD.racks.length p.c4, .int .i64 exD.sw, .slice p.a5 exD.links.length p.c5, .slice p.a6 exD.hosts.length p.c6], .agg #[.slice A wxs.length c], .agg #[.slice q.a1 exW.hosts.length q.c1, .slice q.a2 exW.reps.length q.c2], .int .i64 2] w fun e w' => e = .returned (.int .i64 0) ∧ Below w.heap.size w w' :=
  c_pwWatts (exZ p A c q) true (exZ_ok p A c q) 2 w ⟨h1, h2, h3⟩ 0 (by show loadN exD (svs wxs) exW (isHost 2) = 0; decide +kernel)
theorem kBears (p : SP) (A : Option Addr) (c : Nat) (q : WP) (w : World) (h1 : SiAt w p exD) (h2 : WiAt w A c wxs) (h3 : WoAt w q exW) :
    Calls Try.prog 12 #[.agg #[.slice p.a1 exD.feeds.length p.c1, .slice p.a2 exD.brks.length p.c2, .slice p.a3 exD.loops.length p.c3, .slice p.a4 exD.racks.length p.c4, .int .i64 exD.sw, .slice p.a5 exD.links.length p.c5, .slice p.a6 exD.hosts.length p.c6], .agg #[.slice A wxs.length c], .agg #[.slice q.a1 exW.hosts.length q.c1, .slice q.a2 exW.reps.length q.c2], .int .i64 2] w fun e w' => e = .returned (.int .i64 0) ∧ Below w.heap.size w w' :=
  c_pw_Bears (exZ p A c q) true (exZ_ok p A c q) 2 w ⟨h1, h2, h3⟩ 0 (by unfold bearV; rw [if_neg]; show ¬ (true = true ∧ (0 : Int) ≤ 2 ∧ (2 : Int) < (exD.brks.length : Int)); decide)
set_option maxHeartbeats 32000000 in
theorem row_PowerKnown (w : World) : Calls Try.prog 3 #[] w fun e w' => e = .returned (.bool true) ∧ Below w.heap.size w w' := by
  have HLV := Lib.hid (fun (X : World) => c_live X)
  have hfd := nt_field0
  go_enter Try.func3, Try.ntmps3
  go_wp2_with (fail)
  go_at_call 4
  refine (c_example w).mono ?_
  rintro e v1 ⟨⟨pa, k1, k2, k3⟩, rfl, ho, bb⟩
  unfold woA
  obtain ⟨V, hV⟩ : ∃ X, X = v1.alloc (.cells #[.slice pa exW.hosts.length k1, .slice k2 exW.reps.length k3] 25) := ⟨_, rfl⟩
  have bV : Below v1.heap.size v1 V := by rw [hV]; exact (Below.refl _ _).alloc (Nat.le_refl _) _
  have hbx : V.heap[v1.heap.size]? = some (.cells #[.slice pa exW.hosts.length k1, .slice k2 exW.reps.length k3] 25 (0, 0)) := by rw [hV]; exact box_new _ _ _
  have ho1 : OwnW w.heap.size v1 ⟨pa, k1, k2, k3⟩ exW := ho
  obtain ⟨g, hga, hgb, hgl, -, -, -⟩ := break_own ho1
  obtain ⟨g', hga', -, -, c0, fz, hbr⟩ := break_own (ho1.on bV (Nat.le_refl _))
  simp only at hga hga'
  subst hga
  injection hga' with hga'
  injection hga' with hga'
  subst hga'
  obtain ⟨t1, ht1⟩ : ∃ t, v1.heap.size = t := ⟨_, rfl⟩
  rw [ht1] at hbx hgl
  have HBR := Lib.hid hbr
  have HBX := Lib.hid (show (V.setCell ⟨g, 0, none⟩ (.int .u8 4)).heap[t1]? = some (.cells #[.slice (some ⟨g, 0, none⟩) exW.hosts.length k1, .slice k2 exW.reps.length k3] 25 (0, 0)) from set_else hbx (by omega))
  have HKV := Lib.hid (show Below w.heap.size w (V.setCell ⟨g, 0, none⟩ (.int .u8 4)) from ((bb.trans (bV.mono bb.size)).setCell (p := ⟨g, 0, none⟩) hgb _))
  have x0 := cell_of (o := 0) hbx rfl
  have x1 := cell_of (o := 1) hbx rfl
  rw [hV] at x0 x1 c0 fz
  clear ho ho1 bb bV hbx hbr hgb hgl
  go_wp2_with (fail)
  rw [← hV]
  clear hV x0 x1 c0 fz
  obtain ⟨X2, hX2⟩ : ∃ X, X = V.setCell ⟨g, 0, none⟩ (.int .u8 4) := ⟨_, rfl⟩
  rw [← hX2] at HBR HBX HKV ⊢
  clear hX2 ht1
  go_at_call 6
  refine (c_site2 X2).mono ?_
  rintro e v3 ⟨pa, rfl, si, bb⟩
  have HK3 := Lib.hid (below_join HKV.out bb HKV.out.size)
  have HBR3 := Lib.hid (HBR.out.on bb (Nat.le_refl _))
  have HBX3 := Lib.hid (box_on HBX.out bb (Nat.le_refl _))
  have SI3 := Lib.hid si
  clear si bb
  go_wp2_with (fail)
  go_at_call 7
  refine (c_wishTo v3).mono ?_
  rintro e v4 ⟨Aa, ca, rfl, wi, bb⟩
  have HK4 := Lib.hid (below_join HK3.out bb HK3.out.size)
  have HBR4 := Lib.hid (HBR3.out.on bb (Nat.le_refl _))
  have HBX4 := Lib.hid (box_on HBX3.out bb (Nat.le_refl _))
  have SI4 := Lib.hid (SI3.out.on bb (Nat.le_refl _))
  have WI4 := Lib.hid wi
  clear wi bb
  go_wp2_with (fail)
  go_at_call 4
  refine (c_exTo v4).mono ?_
  rintro e v5 ⟨qa, rfl, wo, bb⟩
  have HK5 := Lib.hid (below_join HK4.out bb HK4.out.size)
  have HBR5 := Lib.hid (HBR4.out.on bb (Nat.le_refl _))
  have HBX5 := Lib.hid (box_on HBX4.out bb (Nat.le_refl _))
  have SI5 := Lib.hid (SI4.out.on bb (Nat.le_refl _))
  have WI5 := Lib.hid (WI4.out.on bb (Nat.le_refl _))
  have WO5 := Lib.hid wo
  clear wo bb
  go_wp2_with (fail)
  go_at_call 5
  refine (c_netE pa Aa ca qa v5 SI5.out WI5.out WO5.out).mono ?_
  rintro e v6 ⟨un, uc, rfl, bb⟩
  have HK6 := Lib.hid (below_join HK5.out bb HK5.out.size)
  have HBR6 := Lib.hid (HBR5.out.on bb (Nat.le_refl _))
  have HBX6 := Lib.hid (box_on HBX5.out bb (Nat.le_refl _))
  clear bb SI3 SI4 SI5 WI4 WI5 WO5 HBR3 HBR4 HBR5 HBX3 HBX4 HBX5 HK3 HK4 HK5
  obtain ⟨X7, hX7⟩ : ∃ X, X = v6.alloc (.cells #[.int .i64 7, .slice un 7 uc] 32) := ⟨_, rfl⟩
  have b7 : Below v6.heap.size v6 X7 := by rw [hX7]; exact (Below.refl _ _).alloc (Nat.le_refl _) _
  have hb2 : X7.heap[v6.heap.size]? = some (.cells #[.int .i64 7, .slice un 7 uc] 32 (0, 0)) := by rw [hX7]; exact box_new _ _ _
  have HKX7 := Lib.hid (below_join HK6.out b7 HK6.out.size)
  have B1 := box_on HBX6.out b7 (Nat.le_refl _)
  have BR7 := HBR6.out.on b7 (Nat.le_refl _)
  obtain ⟨t2, ht2⟩ : ∃ t, v6.heap.size = t := ⟨_, rfl⟩
  rw [ht2] at hb2
  have HFF := Lib.hid (fun (X : World) (hX : Below X7.heap.size X7 X) => (⟨cell_of (box_on B1 hX (Nat.le_refl _)) rfl, cell_of (box_on B1 hX (Nat.le_refl _)) rfl, cell_of (box_on hb2 hX (Nat.le_refl _)) rfl, cell_of (box_on hb2 hX (Nat.le_refl _)) rfl⟩ : X.cell? ⟨t1, 0, none⟩ = some (.slice (some ⟨g, 0, none⟩) brW.hosts.length k1) ∧ X.cell? ⟨t1, 1, none⟩ = some (.slice k2 brW.reps.length k3) ∧ X.cell? ⟨t2, 0, none⟩ = some (.int .i64 7) ∧ X.cell? ⟨t2, 1, none⟩ = some (.slice un 7 uc)))
  have HBB := Lib.hid (fun (X : World) (hX : Below X7.heap.size X7 X) => BR7.on hX (Nat.le_refl _))
  have HK0 := Lib.hid (Below.refl X7.heap.size X7)
  clear b7 hb2 B1 BR7 HBX6 HBR6 HK6
  go_wp2_with (fail)
  rw [← hX7]
  clear hX7 ht2 HBX HBR HKV
  obtain ⟨m0, m1, m2, m3⟩ := HFF.out X7 HK0.out
  go_region_held3 (fun X => X.cell? ⟨t1, 0, none⟩ = some (.slice (some ⟨g, 0, none⟩) brW.hosts.length k1) ∧ X.cell? ⟨t1, 1, none⟩ = some (.slice k2 brW.reps.length k3) ∧ X.cell? ⟨t2, 0, none⟩ = some (.int .i64 7) ∧ X.cell? ⟨t2, 1, none⟩ = some (.slice un 7 uc))
    (first | exact HFF.out y24 HK24.out | exact HFF.out y23 HK23.out | exact HFF.out y22 HK22.out | exact HFF.out y21 HK21.out | exact HFF.out y20 HK20.out | exact HFF.out y19 HK19.out | exact HFF.out y18 HK18.out | exact HFF.out y17 HK17.out | exact HFF.out y16 HK16.out | exact HFF.out y15 HK15.out | exact HFF.out y14 HK14.out | exact HFF.out y13 HK13.out | exact HFF.out y12 HK12.out | exact HFF.out y11 HK11.out | exact HFF.out y10 HK10.out | exact HFF.out y9 HK9.out | exact HFF.out y8 HK8.out | exact HFF.out y7 HK7.out | exact HFF.out y6 HK6.out | exact HFF.out y5 HK5.out | exact HFF.out y4 HK4.out | exact HFF.out y3 HK3.out | exact HFF.out y2 HK2.out | exact HFF.out y1 HK1.out | exact HFF.out X7 HK0.out | fail)
    (first
      | (go_at_call 6; (with_reducible refine (c_site2 X7.drew).mono ?_); rintro e y1 ⟨p1, rfl, s1, bb0⟩; have bb := below_join (Below.refl X7.heap.size X7).drew bb0 (Nat.le_refl _); have HK1 := Lib.hid (below_join HK0.out bb HK0.out.size); have SI1 := Lib.hid s1; clear s1; clear bb bb0)
      | (go_at_call 7; (with_reducible refine (c_wishTo y1).mono ?_); rintro e y2 ⟨A1, c1, rfl, s1, bb0⟩; have bb := below_join (Below.refl y1.heap.size y1) bb0 (Nat.le_refl _); have HK2 := Lib.hid (below_join HK1.out bb HK1.out.size); have SI2 := Lib.hid (SI1.out.on bb (Nat.le_refl _)); have WI2 := Lib.hid s1; clear s1; clear bb bb0)
      | (go_at_call 4; (with_reducible refine (c_exTo y2).mono ?_); rintro e y3 ⟨q1, rfl, s1, bb0⟩; have bb := below_join (Below.refl y2.heap.size y2) bb0 (Nat.le_refl _); have HK3 := Lib.hid (below_join HK2.out bb HK2.out.size); have SI3 := Lib.hid (SI2.out.on bb (Nat.le_refl _)); have WI3 := Lib.hid (WI2.out.on bb (Nat.le_refl _)); have WO3 := Lib.hid s1; clear s1; clear bb bb0)
      | (go_at_call 8; (with_reducible refine (kRack p1 A1 c1 q1 y3 SI3.out WI3.out WO3.out).mono ?_); rintro e y4 ⟨rfl, bb0⟩; have bb := below_join (Below.refl y3.heap.size y3) bb0 (Nat.le_refl _); have HK4 := Lib.hid (below_join HK3.out bb HK3.out.size); have SI4 := Lib.hid (SI3.out.on bb (Nat.le_refl _)); have WI4 := Lib.hid (WI3.out.on bb (Nat.le_refl _)); have WO4 := Lib.hid (WO3.out.on bb (Nat.le_refl _)); clear bb bb0)
      | (go_at_call 6; (with_reducible refine (c_site2 y4).mono ?_); rintro e y5 ⟨p2, rfl, s1, bb0⟩; have bb := below_join (Below.refl y4.heap.size y4) bb0 (Nat.le_refl _); have HK5 := Lib.hid (below_join HK4.out bb HK4.out.size); have SI5 := Lib.hid s1; clear s1; clear bb bb0)
      | (go_at_call 7; (with_reducible refine (c_wishTo y5).mono ?_); rintro e y6 ⟨A2, c2, rfl, s1, bb0⟩; have bb := below_join (Below.refl y5.heap.size y5) bb0 (Nat.le_refl _); have HK6 := Lib.hid (below_join HK5.out bb HK5.out.size); have SI6 := Lib.hid (SI5.out.on bb (Nat.le_refl _)); have WI6 := Lib.hid s1; clear s1; clear bb bb0)
      | (go_at_call 4; (with_reducible refine (c_exTo y6).mono ?_); rintro e y7 ⟨q2, rfl, s1, bb0⟩; have bb := below_join (Below.refl y6.heap.size y6) bb0 (Nat.le_refl _); have HK7 := Lib.hid (below_join HK6.out bb HK6.out.size); have SI7 := Lib.hid (SI6.out.on bb (Nat.le_refl _)); have WI7 := Lib.hid (WI6.out.on bb (Nat.le_refl _)); have WO7 := Lib.hid s1; clear s1; clear bb bb0)
      | (go_at_call 9; (with_reducible refine (kBrk p2 A2 c2 q2 y7 SI7.out WI7.out WO7.out).mono ?_); rintro e y8 ⟨rfl, bb0⟩; have bb := below_join (Below.refl y7.heap.size y7) bb0 (Nat.le_refl _); have HK8 := Lib.hid (below_join HK7.out bb HK7.out.size); have SI8 := Lib.hid (SI7.out.on bb (Nat.le_refl _)); have WI8 := Lib.hid (WI7.out.on bb (Nat.le_refl _)); have WO8 := Lib.hid (WO7.out.on bb (Nat.le_refl _)); clear bb bb0)
      | (go_at_call 6; (with_reducible refine (c_site2 y8).mono ?_); rintro e y9 ⟨p3, rfl, s1, bb0⟩; have bb := below_join (Below.refl y8.heap.size y8) bb0 (Nat.le_refl _); have HK9 := Lib.hid (below_join HK8.out bb HK8.out.size); have SI9 := Lib.hid s1; clear s1; clear bb bb0)
      | (go_at_call 7; (with_reducible refine (c_wishTo y9).mono ?_); rintro e y10 ⟨A3, c3, rfl, s1, bb0⟩; have bb := below_join (Below.refl y9.heap.size y9) bb0 (Nat.le_refl _); have HK10 := Lib.hid (below_join HK9.out bb HK9.out.size); have SI10 := Lib.hid (SI9.out.on bb (Nat.le_refl _)); have WI10 := Lib.hid s1; clear s1; clear bb bb0)
      | (go_at_call 10; (with_reducible refine (kWat0 p3 A3 c3 ⟨some ⟨g, 0, none⟩, k1, k2, k3⟩ y10 SI10.out WI10.out (HBB.out _ HK10.out)).mono ?_); rintro e y11 ⟨rfl, bb0⟩; have bb := below_join (Below.refl y10.heap.size y10) bb0 (Nat.le_refl _); have HK11 := Lib.hid (below_join HK10.out bb HK10.out.size); have SI11 := Lib.hid (SI10.out.on bb (Nat.le_refl _)); have WI11 := Lib.hid (WI10.out.on bb (Nat.le_refl _)); clear bb bb0)
      | (go_at_call 6; (with_reducible refine (c_site2 y11).mono ?_); rintro e y12 ⟨p4, rfl, s1, bb0⟩; have bb := below_join (Below.refl y11.heap.size y11) bb0 (Nat.le_refl _); have HK12 := Lib.hid (below_join HK11.out bb HK11.out.size); have SI12 := Lib.hid s1; clear s1; clear bb bb0)
      | (go_at_call 7; (with_reducible refine (c_wishTo y12).mono ?_); rintro e y13 ⟨A4, c4, rfl, s1, bb0⟩; have bb := below_join (Below.refl y12.heap.size y12) bb0 (Nat.le_refl _); have HK13 := Lib.hid (below_join HK12.out bb HK12.out.size); have SI13 := Lib.hid (SI12.out.on bb (Nat.le_refl _)); have WI13 := Lib.hid s1; clear s1; clear bb bb0)
      | (go_at_call 11; (with_reducible refine (kCar p4 A4 c4 ⟨some ⟨g, 0, none⟩, k1, k2, k3⟩ y13 SI13.out WI13.out (HBB.out _ HK13.out)).mono ?_); rintro e y14 ⟨rfl, bb0⟩; have bb := below_join (Below.refl y13.heap.size y13) bb0 (Nat.le_refl _); have HK14 := Lib.hid (below_join HK13.out bb HK13.out.size); have SI14 := Lib.hid (SI13.out.on bb (Nat.le_refl _)); have WI14 := Lib.hid (WI13.out.on bb (Nat.le_refl _)); clear bb bb0)
      | (go_at_call 6; (with_reducible refine (c_site2 y14).mono ?_); rintro e y15 ⟨p5, rfl, s1, bb0⟩; have bb := below_join (Below.refl y14.heap.size y14) bb0 (Nat.le_refl _); have HK15 := Lib.hid (below_join HK14.out bb HK14.out.size); have SI15 := Lib.hid s1; clear s1; clear bb bb0)
      | (go_at_call 7; (with_reducible refine (c_wishTo y15).mono ?_); rintro e y16 ⟨A5, c5, rfl, s1, bb0⟩; have bb := below_join (Below.refl y15.heap.size y15) bb0 (Nat.le_refl _); have HK16 := Lib.hid (below_join HK15.out bb HK15.out.size); have SI16 := Lib.hid (SI15.out.on bb (Nat.le_refl _)); have WI16 := Lib.hid s1; clear s1; clear bb bb0)
      | (go_at_call 4; (with_reducible refine (c_exTo y16).mono ?_); rintro e y17 ⟨q5, rfl, s1, bb0⟩; have bb := below_join (Below.refl y16.heap.size y16) bb0 (Nat.le_refl _); have HK17 := Lib.hid (below_join HK16.out bb HK16.out.size); have SI17 := Lib.hid (SI16.out.on bb (Nat.le_refl _)); have WI17 := Lib.hid (WI16.out.on bb (Nat.le_refl _)); have WO17 := Lib.hid s1; clear s1; clear bb bb0)
      | (go_at_call 10; (with_reducible refine (kWat2 p5 A5 c5 q5 y17 SI17.out WI17.out WO17.out).mono ?_); rintro e y18 ⟨rfl, bb0⟩; have bb := below_join (Below.refl y17.heap.size y17) bb0 (Nat.le_refl _); have HK18 := Lib.hid (below_join HK17.out bb HK17.out.size); have SI18 := Lib.hid (SI17.out.on bb (Nat.le_refl _)); have WI18 := Lib.hid (WI17.out.on bb (Nat.le_refl _)); have WO18 := Lib.hid (WO17.out.on bb (Nat.le_refl _)); clear bb bb0)
      | (go_at_call 6; (with_reducible refine (c_site2 y18).mono ?_); rintro e y19 ⟨p6, rfl, s1, bb0⟩; have bb := below_join (Below.refl y18.heap.size y18) bb0 (Nat.le_refl _); have HK19 := Lib.hid (below_join HK18.out bb HK18.out.size); have SI19 := Lib.hid s1; clear s1; clear bb bb0)
      | (go_at_call 7; (with_reducible refine (c_wishTo y19).mono ?_); rintro e y20 ⟨A6, c6, rfl, s1, bb0⟩; have bb := below_join (Below.refl y19.heap.size y19) bb0 (Nat.le_refl _); have HK20 := Lib.hid (below_join HK19.out bb HK19.out.size); have SI20 := Lib.hid (SI19.out.on bb (Nat.le_refl _)); have WI20 := Lib.hid s1; clear s1; clear bb bb0)
      | (go_at_call 4; (with_reducible refine (c_exTo y20).mono ?_); rintro e y21 ⟨q6, rfl, s1, bb0⟩; have bb := below_join (Below.refl y20.heap.size y20) bb0 (Nat.le_refl _); have HK21 := Lib.hid (below_join HK20.out bb HK20.out.size); have SI21 := Lib.hid (SI20.out.on bb (Nat.le_refl _)); have WI21 := Lib.hid (WI20.out.on bb (Nat.le_refl _)); have WO21 := Lib.hid s1; clear s1; clear bb bb0)
      | (go_at_call 12; (with_reducible refine (kBears p6 A6 c6 q6 y21 SI21.out WI21.out WO21.out).mono ?_); rintro e y22 ⟨rfl, bb0⟩; have bb := below_join (Below.refl y21.heap.size y21) bb0 (Nat.le_refl _); have HK22 := Lib.hid (below_join HK21.out bb HK21.out.size); have SI22 := Lib.hid (SI21.out.on bb (Nat.le_refl _)); have WI22 := Lib.hid (WI21.out.on bb (Nat.le_refl _)); have WO22 := Lib.hid (WO21.out.on bb (Nat.le_refl _)); clear bb bb0)
      | (go_at_call 5; (with_reducible refine (c_netZ y22).mono ?_); rintro e y23 ⟨u9, rfl, bb0⟩; have bb := below_join (Below.refl y22.heap.size y22) bb0 (Nat.le_refl _); have HK23 := Lib.hid (below_join HK22.out bb HK22.out.size); clear bb bb0)
      | (go_at_call 13; (with_reducible refine (HLV.out y23).mono ?_); rintro e y24 ⟨rfl, bb0⟩; have bb := below_join (Below.refl y23.heap.size y23) bb0 (Nat.le_refl _); have HK24 := Lib.hid (below_join HK23.out bb HK23.out.size); clear bb bb0)
      | fail)
  go_wp2_with (fail)
  go_ret
  exact ⟨rfl, below_join HKX7.out HK24.out HKX7.out.size⟩
end Go.Proofs.Ytidpiokkfnhobaa
