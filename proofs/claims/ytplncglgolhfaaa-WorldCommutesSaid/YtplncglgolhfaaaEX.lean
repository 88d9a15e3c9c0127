/-
  DERIVED. The law WorldCommutes (written by gen/world_EX.py).
-/
import Derived.Test.YtplncglgolhfaaaEV
namespace Go.Proofs.Ytplncglgolhfaaa
open Go.RowKit
set_option maxRecDepth 100000
set_option linter.unusedVariables false
set_option linter.unusedSimpArgs false

theorem startP_small {d d' : WorldD} {x : Rep} {n : Int} (h : startP d x = (d', n)) (hp : ∀ h ∈ d.hosts, h.phase < 256) : (∀ h ∈ d'.hosts, h.phase < 256) ∧ d'.hosts.length ≤ d.hosts.length ∧ d'.reps.length ≤ d.reps.length + 1 := by
  rcases startP_cases d x with ⟨e, -⟩ | ⟨m, -, e⟩
  · rw [e] at h
    injection h with h _
    subst h
    exact ⟨hp, Nat.le_refl _, by rw [startL_len]; exact Nat.le_refl _⟩
  · rw [e] at h
    injection h with h _
    subst h
    exact ⟨zeroD_phase, Nat.zero_le _, Nat.zero_le _⟩
theorem stopP_small {d d' : WorldD} {x : Rep} {n : Int} (h : stopP d x = (d', n)) (hp : ∀ h ∈ d.hosts, h.phase < 256) : (∀ h ∈ d'.hosts, h.phase < 256) ∧ d'.hosts.length ≤ d.hosts.length ∧ d'.reps.length ≤ d.reps.length + 1 := by
  rcases stopP_cases d x with ⟨e, ha, hx⟩ | ⟨m, -, e⟩
  · rw [e] at h
    injection h with h _
    subst h
    exact ⟨hp, Nat.le_refl _, by have := stopL_len ha hx; simp only; omega⟩
  · rw [e] at h
    injection h with h _
    subst h
    exact ⟨zeroD_phase, Nat.zero_le _, Nat.zero_le _⟩
theorem startP_zero {d d' : WorldD} {x : Rep} (h : startP d x = (d', 0)) : d' = ⟨d.hosts, startL d.reps x⟩ ∧ Asc d.reps ∧ x ∉ d.reps := by
  rcases startP_cases d x with ⟨e, ha, -, -, hn, -⟩ | ⟨m, hm, e⟩
  · rw [e] at h
    injection h with h _
    exact ⟨h.symm, ha, hn⟩
  · rw [e] at h
    injection h with _ h
    exact absurd h hm
theorem stopP_zero {d d' : WorldD} {x : Rep} (h : stopP d x = (d', 0)) : d' = ⟨d.hosts, stopL d.reps x⟩ ∧ Asc d.reps ∧ x ∈ d.reps := by
  rcases stopP_cases d x with ⟨e, ha, hn⟩ | ⟨m, hm, e⟩
  · rw [e] at h
    injection h with h _
    exact ⟨h.symm, ha, hn⟩
  · rw [e] at h
    injection h with _ h
    exact absurd h hm
theorem commute_start {d da db dc dd : WorldD} {x y : Rep} (h1 : startP d x = (da, 0)) (h2 : startP da y = (db, 0)) (h3 : startP d y = (dc, 0)) (h4 : startP dc x = (dd, 0)) : sameB db dd = true := by
  obtain ⟨rfl, a1, n1⟩ := startP_zero h1
  obtain ⟨rfl, a2, n2⟩ := startP_zero h2
  obtain ⟨rfl, a3, n3⟩ := startP_zero h3
  obtain ⟨rfl, a4, n4⟩ := startP_zero h4
  rw [sameB_iff]
  congr 1
  exact start_start a1 n1 n2 n3 n4
theorem commute_stop {d da db dc dd : WorldD} {x y : Rep} (hxy : x ≠ y) (h1 : startP d x = (da, 0)) (h2 : stopP da y = (db, 0)) (h3 : stopP d y = (dc, 0)) (h4 : startP dc x = (dd, 0)) : sameB db dd = true := by
  obtain ⟨rfl, a1, n1⟩ := startP_zero h1
  obtain ⟨rfl, a2, n2⟩ := stopP_zero h2
  obtain ⟨rfl, a3, n3⟩ := stopP_zero h3
  obtain ⟨rfl, a4, n4⟩ := startP_zero h4
  rw [sameB_iff]
  congr 1
  exact stop_of_start hxy a1 n1 n2 n3 n4
theorem OwnW.set {base g : Nat} {w : World} {p : WP} {d : WorldD} (h : OwnW base w p d) (hg : g < base) (x0 x1 : Value) : OwnW base ((w.setCell ⟨g, 0, none⟩ x0).setCell ⟨g, 1, none⟩ x1) p d :=
  ⟨ownsRow_setCell_below (ownsRow_setCell_below h.1 (a := ⟨g, 0, none⟩) hg _) (a := ⟨g, 1, none⟩) hg _, ownsRow_setCell_below (ownsRow_setCell_below h.2 (a := ⟨g, 0, none⟩) hg _) (a := ⟨g, 1, none⟩) hg _⟩
theorem Bx.set {w : World} {b g : Nat} {cs : Array Value} {T : TypeId} (h : Bx w b cs T) (hne : b ≠ g) (x0 x1 : Value) : Bx ((w.setCell ⟨g, 0, none⟩ x0).setCell ⟨g, 1, none⟩ x1) b cs T := set_else (set_else h hne) hne
theorem Bx.put {w : World} {g : Nat} {p p' : WP} {d d' : WorldD} {T : TypeId} (h : Bx w g (woA p d) T) : Bx ((w.setCell ⟨g, 0, none⟩ (.slice p'.a1 d'.hosts.length p'.c1)).setCell ⟨g, 1, none⟩ (.slice p'.a2 d'.reps.length p'.c2)) g (woA p' d') T := row_store2 h _ _
theorem Bx.fz {w : World} {g : Nat} {p : WP} {d : WorldD} {T : TypeId} (h : Bx w g (woA p d) T) : w.frozen? ⟨g, 0, none⟩ = false ∧ w.frozen? ⟨g, 1, none⟩ = false := ⟨frz h 0, frz h 1⟩
set_option maxHeartbeats 32000000 in
theorem row_WorldCommutes (w : World) (p : WP) (d : WorldD) (h : WoAt w p d) (x y : Rep) (st : Bool) :
    Calls Try.prog 7 #[.agg #[.slice p.a1 d.hosts.length p.c1, .slice p.a2 d.reps.length p.c2], .agg #[.int .i64 x.svc, .int .i64 x.host], .agg #[.int .i64 y.svc, .int .i64 y.host], .bool st] w fun e w' => e = .returned (.bool true) ∧ Below w.heap.size w w' := by
  have HLV := Lib.hid (fun (X : World) => c_live X)
  have hph := Lib.hid h.phase
  have n1 := h.hosts.1; have n2 := h.hosts.2.1; have n3 := h.reps.1; have n4 := h.reps.2.1
  unfold maxLen at n2 n4
  obtain ⟨W1, h1⟩ : ∃ W, W = w.alloc (.cells (woA p d) 36) := ⟨_, rfl⟩
  obtain ⟨W2, h2⟩ : ∃ W, W = W1.alloc (.cells #[.int .i64 x.svc, .int .i64 x.host] 41) := ⟨_, rfl⟩
  obtain ⟨W, h3⟩ : ∃ W, W = W2.alloc (.cells #[.int .i64 y.svc, .int .i64 y.host] 41) := ⟨_, rfl⟩
  obtain ⟨B0, b1, b2, b3⟩ := three_boxes h1 h2 h3
  have HBW := Lib.hid B0
  have HF := Lib.hid (fun (X : World) (hX : Below W.heap.size W X) => (⟨cell_of (box_on b1 hX (Nat.le_refl _)) rfl, cell_of (box_on b1 hX (Nat.le_refl _)) rfl, cell_of (box_on b2 hX (Nat.le_refl _)) rfl, cell_of (box_on b2 hX (Nat.le_refl _)) rfl, cell_of (box_on b3 hX (Nat.le_refl _)) rfl, cell_of (box_on b3 hX (Nat.le_refl _)) rfl⟩ : X.cell? ⟨w.heap.size, 0, none⟩ = some (.slice p.a1 d.hosts.length p.c1) ∧ X.cell? ⟨w.heap.size, 1, none⟩ = some (.slice p.a2 d.reps.length p.c2) ∧ X.cell? ⟨w.heap.size + 1, 0, none⟩ = some (.int .i64 x.svc) ∧ X.cell? ⟨w.heap.size + 1, 1, none⟩ = some (.int .i64 x.host) ∧ X.cell? ⟨w.heap.size + 1 + 1, 0, none⟩ = some (.int .i64 y.svc) ∧ X.cell? ⟨w.heap.size + 1 + 1, 1, none⟩ = some (.int .i64 y.host)))
  have A0 := h.on B0 (Nat.le_refl _)
  have HA := Lib.hid (fun (X : World) (hX : Below W.heap.size W X) => A0.on hX (Nat.le_refl _))
  have HKW := Lib.hid (Below.refl W.heap.size W)
  clear B0 b1 b2 b3 h A0
  obtain ⟨f0, f1, f2, f3, f4, f5⟩ := HF.out W HKW.out
  unfold woA at h1
  rw [h3, h2, h1] at f0 f1 f2 f3 f4 f5
  generalize hBB : w.heap.size = B at *
  go_enter Try.func7, Try.ntmps7
  go_wp2_with (fail)
  rw [← h1, ← h2, ← h3]
  clear h1 h2 h3 f0 f1 f2 f3 f4 f5
  obtain ⟨r, hr⟩ : ∃ b : Bool, b = true ↔ d.hosts.length ≤ 60 ∧ d.reps.length ≤ 60 := ⟨decide (d.hosts.length ≤ 60 ∧ d.reps.length ≤ 60), by simp⟩
  have HR := Lib.hid hr
  clear hr
  go_at_call 10
  refine (c_few0 p d r HR.out W (HA.out W HKW.out)).mono ?_
  rintro e v1 ⟨rfl, bb⟩
  have HKv1 := Lib.hid (below_join HKW.out bb HKW.out.size)
  clear bb
  cases r
  · skip
    obtain ⟨f0, f1, f2, f3, f4, f5⟩ := HF.out v1 HKv1.out
    go_wp2_with (fail)
    clear f0 f1 f2 f3 f4 f5
    go_at_call 11
    refine (HLV.out v1).mono ?_
    rintro e v102 ⟨rfl, bb⟩
    have HKv102 := Lib.hid (below_join HKv1.out bb HKv1.out.size)
    clear bb
    go_wp2_with (fail)
    go_ret
    exact ⟨rfl, below_join HBW.out HKv102.out (by rw [← hBB]; exact HBW.out.size)⟩
  obtain ⟨hl1, hl2⟩ := HR.out.1 (by trivial)
  have g1 := guardRp
  have g2 := eqlRp
  rcases hxy : ((x.svc == y.svc) && (x.host == y.host)) with _ | _
  rotate_left
  · skip
    obtain ⟨f0, f1, f2, f3, f4, f5⟩ := HF.out v1 HKv1.out
    go_wp2_with (fail)
    clear f0 f1 f2 f3 f4 f5
    go_at_call 11
    refine (HLV.out v1).mono ?_
    rintro e v253 ⟨rfl, bb⟩
    have HKv253 := Lib.hid (below_join HKv1.out bb HKv1.out.size)
    clear bb
    go_wp2_with (fail)
    go_ret
    exact ⟨rfl, below_join HBW.out HKv253.out (by rw [← hBB]; exact HBW.out.size)⟩
  have HXY := Lib.hid (show x ≠ y by rw [rep_beq] at hxy; exact of_decide_eq_false hxy)
  obtain ⟨da, ea, hH1⟩ : ∃ a b, startP d x = (a, b) := ⟨_, _, rfl⟩
  have H1 := Lib.hid hH1
  have H1S := Lib.hid (startP_small hH1 hph.out)
  obtain ⟨-, sda1, sda2⟩ := H1S.out
  clear hH1
  obtain ⟨db, eb, hH2⟩ : ∃ a b, startP da y = (a, b) := ⟨_, _, rfl⟩
  have H2 := Lib.hid hH2
  have H2S := Lib.hid (startP_small hH2 (H1S.out).1)
  obtain ⟨-, sdb1, sdb2⟩ := H2S.out
  clear hH2
  obtain ⟨dc, ec, hH3⟩ : ∃ a b, startP d y = (a, b) := ⟨_, _, rfl⟩
  have H3 := Lib.hid hH3
  have H3S := Lib.hid (startP_small hH3 hph.out)
  obtain ⟨-, sdc1, sdc2⟩ := H3S.out
  clear hH3
  obtain ⟨f0, f1, f2, f3, f4, f5⟩ := HF.out v1 HKv1.out
  go_wp2_with (fail)
  clear f0 f1 f2 f3 f4 f5
  clear g1 g2 hxy
  go_at_call 26
  refine (c_startTo p d x da ea H1.out (by omega) (by omega) v1 (HA.out v1 HKv1.out)).mono ?_
  rintro e v304 ⟨pa, rfl, opa, bb⟩
  have HKv304 := Lib.hid (below_join HKv1.out bb HKv1.out.size)
  have Opav304 := Lib.hid opa; clear opa
  clear bb
  obtain ⟨X305, hX305⟩ : ∃ X, X = v304.alloc (.cells #[.slice pa.a1 da.hosts.length pa.c1, .slice pa.a2 da.reps.length pa.c2] 36) := ⟨_, rfl⟩
  have b305 : Below v304.heap.size v304 X305 := by subst hX305; exact (Below.refl _ _).alloc (Nat.le_refl _) _
  have HKX305 := Lib.hid (below_join HKv304.out b305 HKv304.out.size)
  have OpaX305 := Lib.hid (Opav304.out.on b305 (Nat.le_refl _))
  have B9X305 := Lib.hid (show Bx X305 v304.heap.size (woA pa da) 36 by subst hX305; exact bx_new _ _ _)
  clear b305
  obtain ⟨f0, f1, f2, f3, f4, f5⟩ := HF.out X305 HKX305.out
  obtain ⟨x0, x1⟩ := B9X305.out.wo
  rw [hX305] at f0 f1 f2 f3 f4 f5 x0 x1
  go_wp2_with (fail)
  rw [← hX305]
  clear hX305
  clear f0 f1 f2 f3 f4 f5 x0 x1
  go_at_call 26
  refine (c_startTo pa da y db eb H2.out (by omega) (by omega) X305 (OpaX305.out.wo H1S.out.1)).mono ?_
  rintro e v306 ⟨pb, rfl, opb, bb⟩
  have HKv306 := Lib.hid (below_join HKX305.out bb HKX305.out.size)
  have Opav306 := Lib.hid (OpaX305.out.on bb (Nat.le_refl _))
  have B9v306 := Lib.hid (B9X305.out.on bb (Nat.le_refl _))
  have Opbv306 := Lib.hid opb; clear opb
  clear bb
  obtain ⟨X307, hX307⟩ : ∃ X, X = v306.alloc (.cells #[.slice pb.a1 db.hosts.length pb.c1, .slice pb.a2 db.reps.length pb.c2] 36) := ⟨_, rfl⟩
  have b307 : Below v306.heap.size v306 X307 := by subst hX307; exact (Below.refl _ _).alloc (Nat.le_refl _) _
  have HKX307 := Lib.hid (below_join HKv306.out b307 HKv306.out.size)
  have OpaX307 := Lib.hid (Opav306.out.on b307 (Nat.le_refl _))
  have B9X307 := Lib.hid (B9v306.out.on b307 (Nat.le_refl _))
  have OpbX307 := Lib.hid (Opbv306.out.on b307 (Nat.le_refl _))
  have B11X307 := Lib.hid (show Bx X307 v306.heap.size (woA pb db) 36 by subst hX307; exact bx_new _ _ _)
  clear b307
  obtain ⟨f0, f1, f2, f3, f4, f5⟩ := HF.out X307 HKX307.out
  rw [hX307] at f0 f1 f2 f3 f4 f5
  go_wp2_with (fail)
  rw [← hX307]
  clear hX307
  clear f0 f1 f2 f3 f4 f5
  go_at_call 26
  refine (c_startTo p d y dc ec H3.out (by omega) (by omega) X307 (HA.out X307 HKX307.out)).mono ?_
  rintro e v308 ⟨pc, rfl, opc, bb⟩
  have HKv308 := Lib.hid (below_join HKX307.out bb HKX307.out.size)
  have Opav308 := Lib.hid (OpaX307.out.on bb (Nat.le_refl _))
  have B9v308 := Lib.hid (B9X307.out.on bb (Nat.le_refl _))
  have Opbv308 := Lib.hid (OpbX307.out.on bb (Nat.le_refl _))
  have B11v308 := Lib.hid (B11X307.out.on bb (Nat.le_refl _))
  have Opcv308 := Lib.hid opc; clear opc
  clear bb
  obtain ⟨X309, hX309⟩ : ∃ X, X = v308.alloc (.cells #[.slice pc.a1 dc.hosts.length pc.c1, .slice pc.a2 dc.reps.length pc.c2] 36) := ⟨_, rfl⟩
  have b309 : Below v308.heap.size v308 X309 := by subst hX309; exact (Below.refl _ _).alloc (Nat.le_refl _) _
  have HKX309 := Lib.hid (below_join HKv308.out b309 HKv308.out.size)
  have OpaX309 := Lib.hid (Opav308.out.on b309 (Nat.le_refl _))
  have B9X309 := Lib.hid (B9v308.out.on b309 (Nat.le_refl _))
  have OpbX309 := Lib.hid (Opbv308.out.on b309 (Nat.le_refl _))
  have B11X309 := Lib.hid (B11v308.out.on b309 (Nat.le_refl _))
  have OpcX309 := Lib.hid (Opcv308.out.on b309 (Nat.le_refl _))
  have B13X309 := Lib.hid (show Bx X309 v308.heap.size (woA pc dc) 36 by subst hX309; exact bx_new _ _ _)
  clear b309
  have HZ1 := Lib.hid (show W.heap.size ≤ v306.heap.size from HKv306.out.size)
  have HZ2 := Lib.hid (show v306.heap.size < v308.heap.size from at_lt B11v308.out)
  have HZ3 := Lib.hid (show v308.heap.size < X309.heap.size from at_lt B13X309.out)
  cases st
  · skip
    obtain ⟨dd, ed, hH4⟩ : ∃ a b, startP dc x = (a, b) := ⟨_, _, rfl⟩
    have H4 := Lib.hid hH4
    have H4S := Lib.hid (startP_small hH4 (H3S.out).1)
    obtain ⟨-, sdd1, sdd2⟩ := H4S.out
    clear hH4
    obtain ⟨f0, f1, f2, f3, f4, f5⟩ := HF.out X309 HKX309.out
    obtain ⟨x0, x1⟩ := B13X309.out.wo
    rw [hX309] at f0 f1 f2 f3 f4 f5 x0 x1
    go_wp2_with (fail)
    rw [← hX309]
    clear hX309
    clear f0 f1 f2 f3 f4 f5 x0 x1
    go_at_call 26
    refine (c_startTo pc dc x dd ed H4.out (by omega) (by omega) X309 (OpcX309.out.wo H3S.out.1)).mono ?_
    rintro e v410 ⟨pd, rfl, opd, bb⟩
    have HKv410 := Lib.hid (below_join HKX309.out bb HKX309.out.size)
    have Opav410 := Lib.hid (OpaX309.out.on bb (Nat.le_refl _))
    have B9v410 := Lib.hid (B9X309.out.on bb (Nat.le_refl _))
    have Opbv410 := Lib.hid (OpbX309.out.on bb (Nat.le_refl _))
    have B11v410 := Lib.hid (B11X309.out.on bb (Nat.le_refl _))
    have Opcv410 := Lib.hid (OpcX309.out.on bb (Nat.le_refl _))
    have B13v410 := Lib.hid (B13X309.out.on bb (Nat.le_refl _))
    have Opdv410 := Lib.hid opd; clear opd
    clear bb
    obtain ⟨X411, hX411⟩ : ∃ X, X = v410.alloc (.cells #[.slice pd.a1 dd.hosts.length pd.c1, .slice pd.a2 dd.reps.length pd.c2] 36) := ⟨_, rfl⟩
    have b411 : Below v410.heap.size v410 X411 := by subst hX411; exact (Below.refl _ _).alloc (Nat.le_refl _) _
    have HKX411 := Lib.hid (below_join HKv410.out b411 HKv410.out.size)
    have OpaX411 := Lib.hid (Opav410.out.on b411 (Nat.le_refl _))
    have B9X411 := Lib.hid (B9v410.out.on b411 (Nat.le_refl _))
    have OpbX411 := Lib.hid (Opbv410.out.on b411 (Nat.le_refl _))
    have B11X411 := Lib.hid (B11v410.out.on b411 (Nat.le_refl _))
    have OpcX411 := Lib.hid (Opcv410.out.on b411 (Nat.le_refl _))
    have B13X411 := Lib.hid (B13v410.out.on b411 (Nat.le_refl _))
    have OpdX411 := Lib.hid (Opdv410.out.on b411 (Nat.le_refl _))
    have B15X411 := Lib.hid (show Bx X411 v410.heap.size (woA pd dd) 36 by subst hX411; exact bx_new _ _ _)
    clear b411
    rcases ha : (ea != 0) with _ | _
    rotate_left
    · skip
      obtain ⟨f0, f1, f2, f3, f4, f5⟩ := HF.out X411 HKX411.out
      obtain ⟨x0, x1⟩ := B11X411.out.wo
      obtain ⟨z0, z1⟩ := B15X411.out.wo
      rw [hX411] at f0 f1 f2 f3 f4 f5 x0 x1 z0 z1
      go_wp2_with (fail)
      rw [← hX411]
      clear hX411
      clear f0 f1 f2 f3 f4 f5 x0 x1 z0 z1
      go_at_call 11
      refine (HLV.out X411).mono ?_
      rintro e v612 ⟨rfl, bb⟩
      have HKv612 := Lib.hid (below_join HKX411.out bb HKX411.out.size)
      have Opav612 := Lib.hid (OpaX411.out.on bb (Nat.le_refl _))
      have B9v612 := Lib.hid (B9X411.out.on bb (Nat.le_refl _))
      have Opbv612 := Lib.hid (OpbX411.out.on bb (Nat.le_refl _))
      have B11v612 := Lib.hid (B11X411.out.on bb (Nat.le_refl _))
      have Opcv612 := Lib.hid (OpcX411.out.on bb (Nat.le_refl _))
      have B13v612 := Lib.hid (B13X411.out.on bb (Nat.le_refl _))
      have Opdv612 := Lib.hid (OpdX411.out.on bb (Nat.le_refl _))
      have B15v612 := Lib.hid (B15X411.out.on bb (Nat.le_refl _))
      clear bb
      go_wp2_with (fail)
      go_ret
      exact ⟨rfl, below_join HBW.out HKv612.out (by rw [← hBB]; exact HBW.out.size)⟩
    rcases hb : (eb != 0) with _ | _
    rotate_left
    · skip
      obtain ⟨f0, f1, f2, f3, f4, f5⟩ := HF.out X411 HKX411.out
      obtain ⟨x0, x1⟩ := B11X411.out.wo
      obtain ⟨z0, z1⟩ := B15X411.out.wo
      rw [hX411] at f0 f1 f2 f3 f4 f5 x0 x1 z0 z1
      go_wp2_with (fail)
      rw [← hX411]
      clear hX411
      clear f0 f1 f2 f3 f4 f5 x0 x1 z0 z1
      go_at_call 11
      refine (HLV.out X411).mono ?_
      rintro e v863 ⟨rfl, bb⟩
      have HKv863 := Lib.hid (below_join HKX411.out bb HKX411.out.size)
      have Opav863 := Lib.hid (OpaX411.out.on bb (Nat.le_refl _))
      have B9v863 := Lib.hid (B9X411.out.on bb (Nat.le_refl _))
      have Opbv863 := Lib.hid (OpbX411.out.on bb (Nat.le_refl _))
      have B11v863 := Lib.hid (B11X411.out.on bb (Nat.le_refl _))
      have Opcv863 := Lib.hid (OpcX411.out.on bb (Nat.le_refl _))
      have B13v863 := Lib.hid (B13X411.out.on bb (Nat.le_refl _))
      have Opdv863 := Lib.hid (OpdX411.out.on bb (Nat.le_refl _))
      have B15v863 := Lib.hid (B15X411.out.on bb (Nat.le_refl _))
      clear bb
      go_wp2_with (fail)
      go_ret
      exact ⟨rfl, below_join HBW.out HKv863.out (by rw [← hBB]; exact HBW.out.size)⟩
    rcases hc : (ec != 0) with _ | _
    rotate_left
    · skip
      obtain ⟨f0, f1, f2, f3, f4, f5⟩ := HF.out X411 HKX411.out
      obtain ⟨x0, x1⟩ := B11X411.out.wo
      obtain ⟨z0, z1⟩ := B15X411.out.wo
      rw [hX411] at f0 f1 f2 f3 f4 f5 x0 x1 z0 z1
      go_wp2_with (fail)
      rw [← hX411]
      clear hX411
      clear f0 f1 f2 f3 f4 f5 x0 x1 z0 z1
      go_at_call 11
      refine (HLV.out X411).mono ?_
      rintro e v1114 ⟨rfl, bb⟩
      have HKv1114 := Lib.hid (below_join HKX411.out bb HKX411.out.size)
      have Opav1114 := Lib.hid (OpaX411.out.on bb (Nat.le_refl _))
      have B9v1114 := Lib.hid (B9X411.out.on bb (Nat.le_refl _))
      have Opbv1114 := Lib.hid (OpbX411.out.on bb (Nat.le_refl _))
      have B11v1114 := Lib.hid (B11X411.out.on bb (Nat.le_refl _))
      have Opcv1114 := Lib.hid (OpcX411.out.on bb (Nat.le_refl _))
      have B13v1114 := Lib.hid (B13X411.out.on bb (Nat.le_refl _))
      have Opdv1114 := Lib.hid (OpdX411.out.on bb (Nat.le_refl _))
      have B15v1114 := Lib.hid (B15X411.out.on bb (Nat.le_refl _))
      clear bb
      go_wp2_with (fail)
      go_ret
      exact ⟨rfl, below_join HBW.out HKv1114.out (by rw [← hBB]; exact HBW.out.size)⟩
    rcases hd : (ed != 0) with _ | _
    rotate_left
    · skip
      obtain ⟨f0, f1, f2, f3, f4, f5⟩ := HF.out X411 HKX411.out
      obtain ⟨x0, x1⟩ := B11X411.out.wo
      obtain ⟨z0, z1⟩ := B15X411.out.wo
      rw [hX411] at f0 f1 f2 f3 f4 f5 x0 x1 z0 z1
      go_wp2_with (fail)
      rw [← hX411]
      clear hX411
      clear f0 f1 f2 f3 f4 f5 x0 x1 z0 z1
      go_at_call 11
      refine (HLV.out X411).mono ?_
      rintro e v1365 ⟨rfl, bb⟩
      have HKv1365 := Lib.hid (below_join HKX411.out bb HKX411.out.size)
      have Opav1365 := Lib.hid (OpaX411.out.on bb (Nat.le_refl _))
      have B9v1365 := Lib.hid (B9X411.out.on bb (Nat.le_refl _))
      have Opbv1365 := Lib.hid (OpbX411.out.on bb (Nat.le_refl _))
      have B11v1365 := Lib.hid (B11X411.out.on bb (Nat.le_refl _))
      have Opcv1365 := Lib.hid (OpcX411.out.on bb (Nat.le_refl _))
      have B13v1365 := Lib.hid (B13X411.out.on bb (Nat.le_refl _))
      have Opdv1365 := Lib.hid (OpdX411.out.on bb (Nat.le_refl _))
      have B15v1365 := Lib.hid (B15X411.out.on bb (Nat.le_refl _))
      clear bb
      go_wp2_with (fail)
      go_ret
      exact ⟨rfl, below_join HBW.out HKv1365.out (by rw [← hBB]; exact HBW.out.size)⟩
    have HSM := Lib.hid (show sameB db dd = true by
      obtain rfl : ea = 0 := by simpa using ha
      obtain rfl : eb = 0 := by simpa using hb
      obtain rfl : ec = 0 := by simpa using hc
      obtain rfl : ed = 0 := by simpa using hd
      exact commute_start H1.out H2.out H3.out H4.out)
    obtain ⟨f0, f1, f2, f3, f4, f5⟩ := HF.out X411 HKX411.out
    obtain ⟨x0, x1⟩ := B11X411.out.wo
    obtain ⟨z0, z1⟩ := B15X411.out.wo
    rw [hX411] at f0 f1 f2 f3 f4 f5 x0 x1 z0 z1
    go_wp2_with (fail)
    rw [← hX411]
    clear hX411
    clear f0 f1 f2 f3 f4 f5 x0 x1 z0 z1
    go_at_call 28
    refine (c_sameTo pb pd db dd true HSM.out X411 (OpbX411.out.wo H2S.out.1) (OpdX411.out.wo H4S.out.1)).mono ?_
    rintro e v1416 ⟨rfl, bb⟩
    have HKv1416 := Lib.hid (below_join HKX411.out bb HKX411.out.size)
    have Opav1416 := Lib.hid (OpaX411.out.on bb (Nat.le_refl _))
    have B9v1416 := Lib.hid (B9X411.out.on bb (Nat.le_refl _))
    have Opbv1416 := Lib.hid (OpbX411.out.on bb (Nat.le_refl _))
    have B11v1416 := Lib.hid (B11X411.out.on bb (Nat.le_refl _))
    have Opcv1416 := Lib.hid (OpcX411.out.on bb (Nat.le_refl _))
    have B13v1416 := Lib.hid (B13X411.out.on bb (Nat.le_refl _))
    have Opdv1416 := Lib.hid (OpdX411.out.on bb (Nat.le_refl _))
    have B15v1416 := Lib.hid (B15X411.out.on bb (Nat.le_refl _))
    clear bb
    go_wp2_with (fail)
    go_at_call 11
    refine (HLV.out v1416).mono ?_
    rintro e v1417 ⟨rfl, bb⟩
    have HKv1417 := Lib.hid (below_join HKv1416.out bb HKv1416.out.size)
    have Opav1417 := Lib.hid (Opav1416.out.on bb (Nat.le_refl _))
    have B9v1417 := Lib.hid (B9v1416.out.on bb (Nat.le_refl _))
    have Opbv1417 := Lib.hid (Opbv1416.out.on bb (Nat.le_refl _))
    have B11v1417 := Lib.hid (B11v1416.out.on bb (Nat.le_refl _))
    have Opcv1417 := Lib.hid (Opcv1416.out.on bb (Nat.le_refl _))
    have B13v1417 := Lib.hid (B13v1416.out.on bb (Nat.le_refl _))
    have Opdv1417 := Lib.hid (Opdv1416.out.on bb (Nat.le_refl _))
    have B15v1417 := Lib.hid (B15v1416.out.on bb (Nat.le_refl _))
    clear bb
    go_wp2_with (fail)
    go_ret
    exact ⟨rfl, below_join HBW.out HKv1417.out (by rw [← hBB]; exact HBW.out.size)⟩
  · skip
    obtain ⟨de, ee, hH5⟩ : ∃ a b, stopP da y = (a, b) := ⟨_, _, rfl⟩
    have H5 := Lib.hid hH5
    have H5S := Lib.hid (stopP_small hH5 (H1S.out).1)
    obtain ⟨-, sde1, sde2⟩ := H5S.out
    clear hH5
    obtain ⟨df, ef, hH6⟩ : ∃ a b, stopP d y = (a, b) := ⟨_, _, rfl⟩
    have H6 := Lib.hid hH6
    have H6S := Lib.hid (stopP_small hH6 hph.out)
    obtain ⟨-, sdf1, sdf2⟩ := H6S.out
    clear hH6
    obtain ⟨f0, f1, f2, f3, f4, f5⟩ := HF.out X309 HKX309.out
    obtain ⟨x0, x1⟩ := B9X309.out.wo
    obtain ⟨z0, z1⟩ := B11X309.out.wo
    obtain ⟨t0, t1⟩ := B13X309.out.wo
    rw [hX309] at f0 f1 f2 f3 f4 f5 x0 x1 z0 z1 t0 t1
    go_wp2_with (fail)
    rw [← hX309]
    clear hX309
    clear f0 f1 f2 f3 f4 f5 x0 x1 z0 z1 t0 t1
    go_at_call 29
    refine (c_stopTo pa da y de ee H5.out (by omega) (by omega) X309 (OpaX309.out.wo H1S.out.1)).mono ?_
    rintro e v1568 ⟨pe, rfl, ope, bb⟩
    have HKv1568 := Lib.hid (below_join HKX309.out bb HKX309.out.size)
    have Opav1568 := Lib.hid (OpaX309.out.on bb (Nat.le_refl _))
    have B9v1568 := Lib.hid (B9X309.out.on bb (Nat.le_refl _))
    have Opbv1568 := Lib.hid (OpbX309.out.on bb (Nat.le_refl _))
    have B11v1568 := Lib.hid (B11X309.out.on bb (Nat.le_refl _))
    have Opcv1568 := Lib.hid (OpcX309.out.on bb (Nat.le_refl _))
    have B13v1568 := Lib.hid (B13X309.out.on bb (Nat.le_refl _))
    have Opev1568 := Lib.hid ope; clear ope
    clear bb
    obtain ⟨X1569, hX1569⟩ : ∃ X, X = (v1568.setCell ⟨v306.heap.size, 0, none⟩ (.slice pe.a1 de.hosts.length pe.c1)).setCell ⟨v306.heap.size, 1, none⟩ (.slice pe.a2 de.reps.length pe.c2) := ⟨_, rfl⟩
    have HKX1569 := Lib.hid (show Below W.heap.size W X1569 by rw [hX1569]; exact ends2 HKv1568.out (by have h1 := HZ1.out; have h2 := HZ2.out; omega) _ _)
    have OpeX1569 := Lib.hid (show OwnW _ X1569 _ _ by rw [hX1569]; exact Opev1568.out.set (by have h2 := HZ2.out; have h3 := HZ3.out; omega) _ _)
    have B13X1569 := Lib.hid (show Bx X1569 _ _ _ by rw [hX1569]; exact B13v1568.out.set (by have h2 := HZ2.out; omega) _ _)
    have B11X1569 := Lib.hid (show Bx X1569 _ _ _ by rw [hX1569]; exact Bx.put (p' := pe) (d' := de) B11v1568.out)
    obtain ⟨z0, z1⟩ := B11v1568.out.wo
    obtain ⟨u0, u1⟩ := B11v1568.out.fz
    obtain ⟨f0, f1, f2, f3, f4, f5⟩ := HF.out X1569 HKX1569.out
    rw [hX1569] at f0 f1 f2 f3 f4 f5
    go_wp2_with (fail)
    rw [← hX1569]
    clear hX1569
    clear f0 f1 f2 f3 f4 f5
    clear z0 z1 u0 u1
    skip
    go_at_call 29
    refine (c_stopTo p d y df ef H6.out (by omega) (by omega) X1569 (HA.out X1569 HKX1569.out)).mono ?_
    rintro e v1570 ⟨pf, rfl, opf, bb⟩
    have HKv1570 := Lib.hid (below_join HKX1569.out bb HKX1569.out.size)
    have Opev1570 := Lib.hid (OpeX1569.out.on bb (Nat.le_refl _))
    have B13v1570 := Lib.hid (B13X1569.out.on bb (Nat.le_refl _))
    have B11v1570 := Lib.hid (B11X1569.out.on bb (Nat.le_refl _))
    have Opfv1570 := Lib.hid opf; clear opf
    clear bb
    have HZ5 := Lib.hid (show v308.heap.size < X1569.heap.size from at_lt B13X1569.out)
    obtain ⟨X1571, hX1571⟩ : ∃ X, X = (v1570.setCell ⟨v308.heap.size, 0, none⟩ (.slice pf.a1 df.hosts.length pf.c1)).setCell ⟨v308.heap.size, 1, none⟩ (.slice pf.a2 df.reps.length pf.c2) := ⟨_, rfl⟩
    have HKX1571 := Lib.hid (show Below W.heap.size W X1571 by rw [hX1571]; exact ends2 HKv1570.out (by have h1 := HZ1.out; have h2 := HZ2.out; omega) _ _)
    have OpeX1571 := Lib.hid (show OwnW _ X1571 _ _ by rw [hX1571]; exact Opev1570.out.set (by have h2 := HZ2.out; have h3 := HZ3.out; have h5 := HZ5.out; omega) _ _)
    have OpfX1571 := Lib.hid (show OwnW _ X1571 _ _ by rw [hX1571]; exact Opfv1570.out.set (by have h2 := HZ2.out; have h3 := HZ3.out; have h5 := HZ5.out; omega) _ _)
    have B11X1571 := Lib.hid (show Bx X1571 _ _ _ by rw [hX1571]; exact B11v1570.out.set (by have h2 := HZ2.out; omega) _ _)
    have B13X1571 := Lib.hid (show Bx X1571 _ _ _ by rw [hX1571]; exact Bx.put (p' := pf) (d' := df) B13v1570.out)
    obtain ⟨z0, z1⟩ := B13v1570.out.wo
    obtain ⟨u0, u1⟩ := B13v1570.out.fz
    obtain ⟨dd, ed, hH4⟩ : ∃ a b, startP df x = (a, b) := ⟨_, _, rfl⟩
    have H4 := Lib.hid hH4
    have H4S := Lib.hid (startP_small hH4 (H6S.out).1)
    obtain ⟨-, sdd1, sdd2⟩ := H4S.out
    clear hH4
    obtain ⟨f0, f1, f2, f3, f4, f5⟩ := HF.out X1571 HKX1571.out
    obtain ⟨x0, x1⟩ := B13X1571.out.wo
    rw [hX1571] at f0 f1 f2 f3 f4 f5 x0 x1
    go_wp2_with (fail)
    rw [← hX1571]
    clear hX1571
    clear f0 f1 f2 f3 f4 f5 x0 x1
    clear z0 z1 u0 u1
    go_at_call 26
    refine (c_startTo pf df x dd ed H4.out (by omega) (by omega) X1571 (OpfX1571.out.wo H6S.out.1)).mono ?_
    rintro e v1572 ⟨pd, rfl, opd, bb⟩
    have HKv1572 := Lib.hid (below_join HKX1571.out bb HKX1571.out.size)
    have Opev1572 := Lib.hid (OpeX1571.out.on bb (Nat.le_refl _))
    have Opfv1572 := Lib.hid (OpfX1571.out.on bb (Nat.le_refl _))
    have B11v1572 := Lib.hid (B11X1571.out.on bb (Nat.le_refl _))
    have B13v1572 := Lib.hid (B13X1571.out.on bb (Nat.le_refl _))
    have Opdv1572 := Lib.hid opd; clear opd
    clear bb
    obtain ⟨X1573, hX1573⟩ : ∃ X, X = v1572.alloc (.cells #[.slice pd.a1 dd.hosts.length pd.c1, .slice pd.a2 dd.reps.length pd.c2] 36) := ⟨_, rfl⟩
    have b1573 : Below v1572.heap.size v1572 X1573 := by subst hX1573; exact (Below.refl _ _).alloc (Nat.le_refl _) _
    have HKX1573 := Lib.hid (below_join HKv1572.out b1573 HKv1572.out.size)
    have OpeX1573 := Lib.hid (Opev1572.out.on b1573 (Nat.le_refl _))
    have OpfX1573 := Lib.hid (Opfv1572.out.on b1573 (Nat.le_refl _))
    have B11X1573 := Lib.hid (B11v1572.out.on b1573 (Nat.le_refl _))
    have B13X1573 := Lib.hid (B13v1572.out.on b1573 (Nat.le_refl _))
    have OpdX1573 := Lib.hid (Opdv1572.out.on b1573 (Nat.le_refl _))
    have B15X1573 := Lib.hid (show Bx X1573 v1572.heap.size (woA pd dd) 36 by subst hX1573; exact bx_new _ _ _)
    clear b1573
    rcases ha : (ea != 0) with _ | _
    rotate_left
    · skip
      obtain ⟨f0, f1, f2, f3, f4, f5⟩ := HF.out X1573 HKX1573.out
      obtain ⟨x0, x1⟩ := B11X1573.out.wo
      obtain ⟨z0, z1⟩ := B15X1573.out.wo
      rw [hX1573] at f0 f1 f2 f3 f4 f5 x0 x1 z0 z1
      go_wp2_with (fail)
      rw [← hX1573]
      clear hX1573
      clear f0 f1 f2 f3 f4 f5 x0 x1 z0 z1
      go_at_call 11
      refine (HLV.out X1573).mono ?_
      rintro e v1774 ⟨rfl, bb⟩
      have HKv1774 := Lib.hid (below_join HKX1573.out bb HKX1573.out.size)
      have Opev1774 := Lib.hid (OpeX1573.out.on bb (Nat.le_refl _))
      have Opfv1774 := Lib.hid (OpfX1573.out.on bb (Nat.le_refl _))
      have B11v1774 := Lib.hid (B11X1573.out.on bb (Nat.le_refl _))
      have B13v1774 := Lib.hid (B13X1573.out.on bb (Nat.le_refl _))
      have Opdv1774 := Lib.hid (OpdX1573.out.on bb (Nat.le_refl _))
      have B15v1774 := Lib.hid (B15X1573.out.on bb (Nat.le_refl _))
      clear bb
      go_wp2_with (fail)
      go_ret
      exact ⟨rfl, below_join HBW.out HKv1774.out (by rw [← hBB]; exact HBW.out.size)⟩
    rcases hb : (ee != 0) with _ | _
    rotate_left
    · skip
      obtain ⟨f0, f1, f2, f3, f4, f5⟩ := HF.out X1573 HKX1573.out
      obtain ⟨x0, x1⟩ := B11X1573.out.wo
      obtain ⟨z0, z1⟩ := B15X1573.out.wo
      rw [hX1573] at f0 f1 f2 f3 f4 f5 x0 x1 z0 z1
      go_wp2_with (fail)
      rw [← hX1573]
      clear hX1573
      clear f0 f1 f2 f3 f4 f5 x0 x1 z0 z1
      go_at_call 11
      refine (HLV.out X1573).mono ?_
      rintro e v2025 ⟨rfl, bb⟩
      have HKv2025 := Lib.hid (below_join HKX1573.out bb HKX1573.out.size)
      have Opev2025 := Lib.hid (OpeX1573.out.on bb (Nat.le_refl _))
      have Opfv2025 := Lib.hid (OpfX1573.out.on bb (Nat.le_refl _))
      have B11v2025 := Lib.hid (B11X1573.out.on bb (Nat.le_refl _))
      have B13v2025 := Lib.hid (B13X1573.out.on bb (Nat.le_refl _))
      have Opdv2025 := Lib.hid (OpdX1573.out.on bb (Nat.le_refl _))
      have B15v2025 := Lib.hid (B15X1573.out.on bb (Nat.le_refl _))
      clear bb
      go_wp2_with (fail)
      go_ret
      exact ⟨rfl, below_join HBW.out HKv2025.out (by rw [← hBB]; exact HBW.out.size)⟩
    rcases hc : (ef != 0) with _ | _
    rotate_left
    · skip
      obtain ⟨f0, f1, f2, f3, f4, f5⟩ := HF.out X1573 HKX1573.out
      obtain ⟨x0, x1⟩ := B11X1573.out.wo
      obtain ⟨z0, z1⟩ := B15X1573.out.wo
      rw [hX1573] at f0 f1 f2 f3 f4 f5 x0 x1 z0 z1
      go_wp2_with (fail)
      rw [← hX1573]
      clear hX1573
      clear f0 f1 f2 f3 f4 f5 x0 x1 z0 z1
      go_at_call 11
      refine (HLV.out X1573).mono ?_
      rintro e v2276 ⟨rfl, bb⟩
      have HKv2276 := Lib.hid (below_join HKX1573.out bb HKX1573.out.size)
      have Opev2276 := Lib.hid (OpeX1573.out.on bb (Nat.le_refl _))
      have Opfv2276 := Lib.hid (OpfX1573.out.on bb (Nat.le_refl _))
      have B11v2276 := Lib.hid (B11X1573.out.on bb (Nat.le_refl _))
      have B13v2276 := Lib.hid (B13X1573.out.on bb (Nat.le_refl _))
      have Opdv2276 := Lib.hid (OpdX1573.out.on bb (Nat.le_refl _))
      have B15v2276 := Lib.hid (B15X1573.out.on bb (Nat.le_refl _))
      clear bb
      go_wp2_with (fail)
      go_ret
      exact ⟨rfl, below_join HBW.out HKv2276.out (by rw [← hBB]; exact HBW.out.size)⟩
    rcases hd : (ed != 0) with _ | _
    rotate_left
    · skip
      obtain ⟨f0, f1, f2, f3, f4, f5⟩ := HF.out X1573 HKX1573.out
      obtain ⟨x0, x1⟩ := B11X1573.out.wo
      obtain ⟨z0, z1⟩ := B15X1573.out.wo
      rw [hX1573] at f0 f1 f2 f3 f4 f5 x0 x1 z0 z1
      go_wp2_with (fail)
      rw [← hX1573]
      clear hX1573
      clear f0 f1 f2 f3 f4 f5 x0 x1 z0 z1
      go_at_call 11
      refine (HLV.out X1573).mono ?_
      rintro e v2527 ⟨rfl, bb⟩
      have HKv2527 := Lib.hid (below_join HKX1573.out bb HKX1573.out.size)
      have Opev2527 := Lib.hid (OpeX1573.out.on bb (Nat.le_refl _))
      have Opfv2527 := Lib.hid (OpfX1573.out.on bb (Nat.le_refl _))
      have B11v2527 := Lib.hid (B11X1573.out.on bb (Nat.le_refl _))
      have B13v2527 := Lib.hid (B13X1573.out.on bb (Nat.le_refl _))
      have Opdv2527 := Lib.hid (OpdX1573.out.on bb (Nat.le_refl _))
      have B15v2527 := Lib.hid (B15X1573.out.on bb (Nat.le_refl _))
      clear bb
      go_wp2_with (fail)
      go_ret
      exact ⟨rfl, below_join HBW.out HKv2527.out (by rw [← hBB]; exact HBW.out.size)⟩
    have HSM := Lib.hid (show sameB de dd = true by
      obtain rfl : ea = 0 := by simpa using ha
      obtain rfl : ee = 0 := by simpa using hb
      obtain rfl : ef = 0 := by simpa using hc
      obtain rfl : ed = 0 := by simpa using hd
      exact commute_stop HXY.out H1.out H5.out H6.out H4.out)
    obtain ⟨f0, f1, f2, f3, f4, f5⟩ := HF.out X1573 HKX1573.out
    obtain ⟨x0, x1⟩ := B11X1573.out.wo
    obtain ⟨z0, z1⟩ := B15X1573.out.wo
    rw [hX1573] at f0 f1 f2 f3 f4 f5 x0 x1 z0 z1
    go_wp2_with (fail)
    rw [← hX1573]
    clear hX1573
    clear f0 f1 f2 f3 f4 f5 x0 x1 z0 z1
    go_at_call 28
    refine (c_sameTo pe pd de dd true HSM.out X1573 (OpeX1573.out.wo H5S.out.1) (OpdX1573.out.wo H4S.out.1)).mono ?_
    rintro e v2578 ⟨rfl, bb⟩
    have HKv2578 := Lib.hid (below_join HKX1573.out bb HKX1573.out.size)
    have Opev2578 := Lib.hid (OpeX1573.out.on bb (Nat.le_refl _))
    have Opfv2578 := Lib.hid (OpfX1573.out.on bb (Nat.le_refl _))
    have B11v2578 := Lib.hid (B11X1573.out.on bb (Nat.le_refl _))
    have B13v2578 := Lib.hid (B13X1573.out.on bb (Nat.le_refl _))
    have Opdv2578 := Lib.hid (OpdX1573.out.on bb (Nat.le_refl _))
    have B15v2578 := Lib.hid (B15X1573.out.on bb (Nat.le_refl _))
    clear bb
    go_wp2_with (fail)
    go_at_call 11
    refine (HLV.out v2578).mono ?_
    rintro e v2579 ⟨rfl, bb⟩
    have HKv2579 := Lib.hid (below_join HKv2578.out bb HKv2578.out.size)
    have Opev2579 := Lib.hid (Opev2578.out.on bb (Nat.le_refl _))
    have Opfv2579 := Lib.hid (Opfv2578.out.on bb (Nat.le_refl _))
    have B11v2579 := Lib.hid (B11v2578.out.on bb (Nat.le_refl _))
    have B13v2579 := Lib.hid (B13v2578.out.on bb (Nat.le_refl _))
    have Opdv2579 := Lib.hid (Opdv2578.out.on bb (Nat.le_refl _))
    have B15v2579 := Lib.hid (B15v2578.out.on bb (Nat.le_refl _))
    clear bb
    go_wp2_with (fail)
    go_ret
    exact ⟨rfl, below_join HBW.out HKv2579.out (by rw [← hBB]; exact HBW.out.size)⟩
end Go.Proofs.Ytplncglgolhfaaa
