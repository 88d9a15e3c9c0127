/-
  The laws NetworkDistances, NetworkWithin and NetworkMetric (written by gen/net_NQ.py; stage 16).
-/
import Derived.Test.YtacdpklgnibkeaaPO3
set_option linter.unusedVariables false
set_option linter.unusedSimpArgs false
namespace Go.Proofs.Ytacdpklgnibkeaa
open Go.RowKit
set_option maxRecDepth 100000
set_option linter.unusedVariables false
set_option linter.unusedSimpArgs false

theorem bool_of (P : Prop) : ∃ r : Bool, (r = true ↔ P) := by
  by_cases h : P
  · exact ⟨true, by simp [h]⟩
  · exact ⟨false, by simp [h]⟩
theorem distI_sym (s : SiteD) (a b : Int) : distI s a b = distI s b a := by
  unfold distI
  by_cases h : siteOk s = true ∧ ixB a s.sw = true ∧ ixB b s.sw = true
  · have h' : siteOk s = true ∧ ixB b s.sw = true ∧ ixB a s.sw = true := ⟨h.1, h.2.2, h.2.1⟩
    rw [if_pos h, if_pos h']
    have h1 := (sk h.1).2.2.1
    have h2 := ixB_iff.1 h.2.1; have h3 := ixB_iff.1 h.2.2
    exact dV_sym (sk h.1).1 (by omega) (by omega)
  · rw [if_neg h, if_neg (fun e => h ⟨e.1, e.2.2, e.2.1⟩)]
theorem laS_sym {s : SiteD} (hs : siteOk s = true) {a b : Nat} (ha : a < s.hosts.length) (hb : b < s.hosts.length) : laS s a b = laS s b a := by
  unfold laS
  by_cases h : a = b
  · rw [if_pos h, if_pos h.symm]
  · rw [if_neg h, if_neg (show ¬ b = a from fun e => h e.symm)]
    have h1 := (sw_ok hs ha).choose_spec.choose_spec.choose_spec.2.2.2.2.2
    have h2 := (sw_ok hs hb).choose_spec.choose_spec.choose_spec.2.2.2.2.2
    have e : dS s (swOf s a) (swOf s b) = dS s (swOf s b) (swOf s a) := dV_sym (sk hs).1 h1 h2
    rw [e]
theorem latI_sym (s : SiteD) (a b : Int) : latI s a b = latI s b a := by
  unfold latI
  by_cases h : siteOk s = true ∧ ixB a s.hosts.length = true ∧ ixB b s.hosts.length = true
  · have h' : siteOk s = true ∧ ixB b s.hosts.length = true ∧ ixB a s.hosts.length = true := ⟨h.1, h.2.2, h.2.1⟩
    rw [if_pos h, if_pos h']
    have h2 := ixB_iff.1 h.2.1; have h3 := ixB_iff.1 h.2.2
    exact laS_sym h.1 (by omega) (by omega)
  · rw [if_neg h, if_neg (fun e => h ⟨e.1, e.2.2, e.2.1⟩)]
theorem distI_ge (s : SiteD) (a b : Int) : -1 ≤ distI s a b ∧ distI s a b ≤ 7000000 := by
  unfold distI
  split
  · rename_i h; exact dS_ge h.1 _ _
  · omega
theorem distI_ok {s : SiteD} {a b : Int} (h : 0 ≤ distI s a b) : siteOk s = true ∧ ixB a s.sw = true ∧ ixB b s.sw = true ∧ distI s a b = dS s a.toNat b.toNat := by
  unfold distI at h ⊢
  split at h
  · rename_i g; rw [if_pos g]; exact ⟨g.1, g.2.1, g.2.2, rfl⟩
  · omega
theorem distI_tri {s : SiteD} {a b c : Int} (h1 : 0 ≤ distI s a b) (h2 : 0 ≤ distI s b c) : 0 ≤ distI s a c ∧ distI s a c ≤ distI s a b + distI s b c := by
  obtain ⟨g1, g2, g3, g4⟩ := distI_ok h1
  obtain ⟨-, k2, k3, k4⟩ := distI_ok h2
  have e : distI s a c = dS s a.toNat c.toNat := by unfold distI; rw [if_pos ⟨g1, g2, k3⟩]
  rw [g4] at h1
  rw [k4] at h2
  rw [e, g4, k4]
  exact dV_tri (sk g1).1 h1 h2
set_option maxHeartbeats 32000000 in
theorem row_NetworkDistances (w : World) (p : SP) (s : SiteD) (h : SiAt w p s) (a b : Int) :
    Calls Try.prog 3 #[siV p s, .int .i64 a, .int .i64 b] w fun e w' => e = .returned (.bool true) ∧ Below w.heap.size w w' := by
  unfold siV
  have HLV := Lib.hid (fun (X : World) => c_live X)
  obtain ⟨W, h1⟩ : ∃ W, W = w.alloc (.cells #[.slice p.a1 s.feeds.length p.c1, .slice p.a2 s.brks.length p.c2, .slice p.a3 s.loops.length p.c3, .slice p.a4 s.racks.length p.c4, .int .i64 s.sw, .slice p.a5 s.links.length p.c5, .slice p.a6 s.hosts.length p.c6] 29) := ⟨_, rfl⟩
  have z1 : W.heap.size = w.heap.size + 1 := by rw [h1, World.size_alloc]
  have B1 : Below w.heap.size w W := by rw [h1]; exact (Below.refl _ _).alloc (Nat.le_refl _) _
  have X1 : SiBox W w.heap.size p s := by rw [h1]; exact siBox_new _ _ _
  have HB := Lib.hid B1
  have HZ := Lib.hid z1
  have HA := Lib.hid (fun (X : World) (hX : Below W.heap.size W X) => (h.on B1 (Nat.le_refl _)).on hX (Nat.le_refl _))
  have HF := Lib.hid (fun (X : World) (hX : Below W.heap.size W X) => (let z := X1.on hX (Nat.le_refl _); ⟨z.c0, z.c1, z.c2, z.c3, z.c4, z.c5, z.c6⟩ : X.cell? ⟨w.heap.size, 0, none⟩ = some (.slice p.a1 s.feeds.length p.c1) ∧ X.cell? ⟨w.heap.size, 1, none⟩ = some (.slice p.a2 s.brks.length p.c2) ∧ X.cell? ⟨w.heap.size, 2, none⟩ = some (.slice p.a3 s.loops.length p.c3) ∧ X.cell? ⟨w.heap.size, 3, none⟩ = some (.slice p.a4 s.racks.length p.c4) ∧ X.cell? ⟨w.heap.size, 4, none⟩ = some (.int .i64 s.sw) ∧ X.cell? ⟨w.heap.size, 5, none⟩ = some (.slice p.a5 s.links.length p.c5) ∧ X.cell? ⟨w.heap.size, 6, none⟩ = some (.slice p.a6 s.hosts.length p.c6)))
  have HX := Lib.hid (fun (X : World) (hX : Below W.heap.size W X) => X1.on hX (Nat.le_refl _))
  have HKW := Lib.hid (Below.refl W.heap.size W)
  have hle := HB.out.size
  have n0 := h.feeds.1; have m0 := h.feeds.2.1
  have n1 := h.brks.1; have m1 := h.brks.2.1
  have n2 := h.loops.1; have m2 := h.loops.2.1
  have n3 := h.racks.1; have m3 := h.racks.2.1
  have n4 := h.links.1; have m4 := h.links.2.1
  have n5 := h.hosts.1; have m5 := h.hosts.2.1
  unfold maxLen at m0 m1 m2 m3 m4 m5
  obtain ⟨rf, hrf⟩ := bool_of (FewN s)
  have HRF := Lib.hid hrf
  clear hrf
  obtain ⟨d, hd⟩ : ∃ t, distI s a b = t := ⟨_, rfl⟩
  have HD := Lib.hid hd
  clear hd
  obtain ⟨la, hla⟩ : ∃ t, latI s a b = t := ⟨_, rfl⟩
  have HL := Lib.hid hla
  clear hla
  obtain ⟨wl, hwl⟩ : ∃ t, nats (wyI s a b) = t := ⟨_, rfl⟩
  have HW := Lib.hid hwl
  clear hwl
  clear h z1 B1 X1
  obtain ⟨f0, f1, f2, f3, f4, f5, f6⟩ := HF.out W HKW.out
  rw [h1] at f0 f1 f2 f3 f4 f5 f6
  generalize hBB : w.heap.size = B at *
  go_enter Try.func3, Try.ntmps3
  go_wp2_with (fail)
  rw [← h1]
  clear h1 f0 f1 f2 f3 f4 f5 f6
  go_at_call 8
  refine (c_fewN p s rf HRF.out W (HA.out W HKW.out)).mono ?_
  rintro e v1 ⟨rfl, bb⟩
  have HKv1 := Lib.hid (below_join HKW.out bb HKW.out.size)
  clear bb
  cases rf
  · skip
    go_wp2_with (fail)
    go_at_call 9
    refine (HLV.out v1).mono ?_
    rintro e v102 ⟨rfl, bb⟩
    have HKv102 := Lib.hid (below_join HKv1.out bb HKv1.out.size)
    clear bb
    go_wp2_with (fail)
    go_ret
    exact ⟨rfl, below_join HB.out HKv102.out hle⟩
  have C1 := Lib.hid (fun (X : World) (hX : Below W.heap.size W X) => c_neDistanceTo p s a b d HD.out X (HA.out X hX))
  have C2 := Lib.hid (fun (X : World) (hX : Below W.heap.size W X) => c_nrDistanceTo p s a b d HD.out X (HA.out X hX))
  have C3 := Lib.hid (fun (X : World) (hX : Below W.heap.size W X) => c_neLatencyTo p s a b la HL.out X (HA.out X hX))
  have C4 := Lib.hid (fun (X : World) (hX : Below W.heap.size W X) => c_nrLatencyTo p s a b la HL.out X (HA.out X hX))
  have C5 := Lib.hid (fun (X : World) (hX : Below W.heap.size W X) => c_neWayTo p s a b wl HW.out X (HA.out X hX))
  have C6 := Lib.hid (fun (X : World) (hX : Below W.heap.size W X) => c_nrWayTo p s a b wl HW.out X (HA.out X hX))
  obtain ⟨f0, f1, f2, f3, f4, f5, f6⟩ := HF.out v1 HKv1.out
  go_wp2_with (fail)
  go_region_held3 (fun X => X.cell? ⟨B, 0, none⟩ = some (.slice p.a1 s.feeds.length p.c1) ∧ X.cell? ⟨B, 1, none⟩ = some (.slice p.a2 s.brks.length p.c2) ∧ X.cell? ⟨B, 2, none⟩ = some (.slice p.a3 s.loops.length p.c3) ∧ X.cell? ⟨B, 3, none⟩ = some (.slice p.a4 s.racks.length p.c4) ∧ X.cell? ⟨B, 4, none⟩ = some (.int .i64 s.sw) ∧ X.cell? ⟨B, 5, none⟩ = some (.slice p.a5 s.links.length p.c5) ∧ X.cell? ⟨B, 6, none⟩ = some (.slice p.a6 s.hosts.length p.c6))
    (first | exact HF.out v160 HKv160.out | exact HF.out v159 HKv159.out | exact HF.out v158 HKv158.out | exact HF.out v157 HKv157.out | exact HF.out v156 HKv156.out | exact HF.out v155 HKv155.out | exact HF.out v154 HKv154.out | exact HF.out v153 HKv153.out | exact HF.out v1 HKv1.out | fail)
    (first
      | (go_at_call 10; (with_reducible refine (C1.out v1.drew HKv1.out.drew).mono ?_); rintro e v153 ⟨rfl, bb0⟩; have bb := below_join (Below.refl v1.heap.size v1).drew bb0 (Nat.le_refl _); have HKv153 := Lib.hid (below_join HKv1.out bb HKv1.out.size); clear bb bb0)
      | (go_at_call 11; (with_reducible refine (C2.out v153 HKv153.out).mono ?_); rintro e v154 ⟨rfl, bb0⟩; have bb := below_join (Below.refl v153.heap.size v153) bb0 (Nat.le_refl _); have HKv154 := Lib.hid (below_join HKv153.out bb HKv153.out.size); clear bb bb0)
      | (go_at_call 12; (with_reducible refine (C3.out v154 HKv154.out).mono ?_); rintro e v155 ⟨rfl, bb0⟩; have bb := below_join (Below.refl v154.heap.size v154) bb0 (Nat.le_refl _); have HKv155 := Lib.hid (below_join HKv154.out bb HKv154.out.size); clear bb bb0)
      | (go_at_call 13; (with_reducible refine (C4.out v155 HKv155.out).mono ?_); rintro e v156 ⟨rfl, bb0⟩; have bb := below_join (Below.refl v155.heap.size v155) bb0 (Nat.le_refl _); have HKv156 := Lib.hid (below_join HKv155.out bb HKv155.out.size); clear bb bb0)
      | (go_at_call 15; (with_reducible refine (C5.out v156 HKv156.out).mono ?_); rintro e v157 ⟨A1, q1, rfl, hy, bb0⟩; have bb := below_join (Below.refl v156.heap.size v156) bb0 (Nat.le_refl _); have HKv157 := Lib.hid (below_join HKv156.out bb HKv156.out.size); have HY1v157 := Lib.hid hy; clear hy; clear bb bb0)
      | (go_at_call 16; (with_reducible refine (C6.out v157 HKv157.out).mono ?_); rintro e v158 ⟨A2, q2, rfl, hy, bb0⟩; have bb := below_join (Below.refl v157.heap.size v157) bb0 (Nat.le_refl _); have HKv158 := Lib.hid (below_join HKv157.out bb HKv157.out.size); have HY1v158 := Lib.hid (HY1v157.out.on bb (Nat.le_refl _)); have HY2v158 := Lib.hid hy; clear hy; clear bb bb0)
      | (go_at_call 14; (with_reducible refine (c_Ints A1 A2 q1 q2 wl wl v158 HY1v158.out HY2v158.out true (decide_eq_true rfl)).mono ?_); rintro e v159 ⟨rfl, bb0⟩; have bb := below_join (Below.refl v158.heap.size v158) bb0 (Nat.le_refl _); have HKv159 := Lib.hid (below_join HKv158.out bb HKv158.out.size); have HY1v159 := Lib.hid (HY1v158.out.on bb (Nat.le_refl _)); have HY2v159 := Lib.hid (HY2v158.out.on bb (Nat.le_refl _)); clear bb bb0)
      | (go_at_call 9; (with_reducible refine (HLV.out v159).mono ?_); rintro e v160 ⟨rfl, bb0⟩; have bb := below_join (Below.refl v159.heap.size v159) bb0 (Nat.le_refl _); have HKv160 := Lib.hid (below_join HKv159.out bb HKv159.out.size); have HY1v160 := Lib.hid (HY1v159.out.on bb (Nat.le_refl _)); have HY2v160 := Lib.hid (HY2v159.out.on bb (Nat.le_refl _)); clear bb bb0)
      | fail)
  go_wp2_with (fail)
  go_ret
  exact ⟨rfl, below_join HB.out HKv160.out hle⟩
set_option maxHeartbeats 32000000 in
theorem row_NetworkWithin (w : World) (p : SP) (s : SiteD) (h : SiAt w p s) (a most : Int) :
    Calls Try.prog 4 #[siV p s, .int .i64 a, .int .i64 most] w fun e w' => e = .returned (.bool true) ∧ Below w.heap.size w w' := by
  unfold siV
  have HLV := Lib.hid (fun (X : World) => c_live X)
  obtain ⟨W, h1⟩ : ∃ W, W = w.alloc (.cells #[.slice p.a1 s.feeds.length p.c1, .slice p.a2 s.brks.length p.c2, .slice p.a3 s.loops.length p.c3, .slice p.a4 s.racks.length p.c4, .int .i64 s.sw, .slice p.a5 s.links.length p.c5, .slice p.a6 s.hosts.length p.c6] 29) := ⟨_, rfl⟩
  have z1 : W.heap.size = w.heap.size + 1 := by rw [h1, World.size_alloc]
  have B1 : Below w.heap.size w W := by rw [h1]; exact (Below.refl _ _).alloc (Nat.le_refl _) _
  have X1 : SiBox W w.heap.size p s := by rw [h1]; exact siBox_new _ _ _
  have HB := Lib.hid B1
  have HZ := Lib.hid z1
  have HA := Lib.hid (fun (X : World) (hX : Below W.heap.size W X) => (h.on B1 (Nat.le_refl _)).on hX (Nat.le_refl _))
  have HF := Lib.hid (fun (X : World) (hX : Below W.heap.size W X) => (let z := X1.on hX (Nat.le_refl _); ⟨z.c0, z.c1, z.c2, z.c3, z.c4, z.c5, z.c6⟩ : X.cell? ⟨w.heap.size, 0, none⟩ = some (.slice p.a1 s.feeds.length p.c1) ∧ X.cell? ⟨w.heap.size, 1, none⟩ = some (.slice p.a2 s.brks.length p.c2) ∧ X.cell? ⟨w.heap.size, 2, none⟩ = some (.slice p.a3 s.loops.length p.c3) ∧ X.cell? ⟨w.heap.size, 3, none⟩ = some (.slice p.a4 s.racks.length p.c4) ∧ X.cell? ⟨w.heap.size, 4, none⟩ = some (.int .i64 s.sw) ∧ X.cell? ⟨w.heap.size, 5, none⟩ = some (.slice p.a5 s.links.length p.c5) ∧ X.cell? ⟨w.heap.size, 6, none⟩ = some (.slice p.a6 s.hosts.length p.c6)))
  have HX := Lib.hid (fun (X : World) (hX : Below W.heap.size W X) => X1.on hX (Nat.le_refl _))
  have HKW := Lib.hid (Below.refl W.heap.size W)
  have hle := HB.out.size
  have n0 := h.feeds.1; have m0 := h.feeds.2.1
  have n1 := h.brks.1; have m1 := h.brks.2.1
  have n2 := h.loops.1; have m2 := h.loops.2.1
  have n3 := h.racks.1; have m3 := h.racks.2.1
  have n4 := h.links.1; have m4 := h.links.2.1
  have n5 := h.hosts.1; have m5 := h.hosts.2.1
  unfold maxLen at m0 m1 m2 m3 m4 m5
  obtain ⟨rf, hrf⟩ := bool_of (FewN s)
  have HRF := Lib.hid hrf
  clear hrf
  obtain ⟨wl, hwl⟩ : ∃ t, nats (witI s a most) = t := ⟨_, rfl⟩
  have HW := Lib.hid hwl
  clear hwl
  clear h z1 B1 X1
  obtain ⟨f0, f1, f2, f3, f4, f5, f6⟩ := HF.out W HKW.out
  rw [h1] at f0 f1 f2 f3 f4 f5 f6
  generalize hBB : w.heap.size = B at *
  go_enter Try.func4, Try.ntmps4
  go_wp2_with (fail)
  rw [← h1]
  clear h1 f0 f1 f2 f3 f4 f5 f6
  go_at_call 8
  refine (c_fewN p s rf HRF.out W (HA.out W HKW.out)).mono ?_
  rintro e v161 ⟨rfl, bb⟩
  have HKv161 := Lib.hid (below_join HKW.out bb HKW.out.size)
  clear bb
  cases rf
  · skip
    go_wp2_with (fail)
    go_at_call 9
    refine (HLV.out v161).mono ?_
    rintro e v262 ⟨rfl, bb⟩
    have HKv262 := Lib.hid (below_join HKv161.out bb HKv161.out.size)
    clear bb
    go_wp2_with (fail)
    go_ret
    exact ⟨rfl, below_join HB.out HKv262.out hle⟩
  have h60 := (HRF.out.1 rfl).2.2.2.2.2
  have C1 := Lib.hid (fun (X : World) (hX : Below W.heap.size W X) => c_neWithinTo p s a most wl HW.out X (HA.out X hX))
  have C2 := Lib.hid (fun (X : World) (hX : Below W.heap.size W X) => c_nrWithinTo p s h60 a most wl HW.out X (HA.out X hX))
  clear h60
  obtain ⟨f0, f1, f2, f3, f4, f5, f6⟩ := HF.out v161 HKv161.out
  go_wp2_with (fail)
  go_region_held3 (fun X => X.cell? ⟨B, 0, none⟩ = some (.slice p.a1 s.feeds.length p.c1) ∧ X.cell? ⟨B, 1, none⟩ = some (.slice p.a2 s.brks.length p.c2) ∧ X.cell? ⟨B, 2, none⟩ = some (.slice p.a3 s.loops.length p.c3) ∧ X.cell? ⟨B, 3, none⟩ = some (.slice p.a4 s.racks.length p.c4) ∧ X.cell? ⟨B, 4, none⟩ = some (.int .i64 s.sw) ∧ X.cell? ⟨B, 5, none⟩ = some (.slice p.a5 s.links.length p.c5) ∧ X.cell? ⟨B, 6, none⟩ = some (.slice p.a6 s.hosts.length p.c6))
    (first | exact HF.out v316 HKv316.out | exact HF.out v315 HKv315.out | exact HF.out v314 HKv314.out | exact HF.out v313 HKv313.out | exact HF.out v161 HKv161.out | fail)
    (first
      | (go_at_call 17; (with_reducible refine (C1.out v161.drew HKv161.out.drew).mono ?_); rintro e v313 ⟨A1, q1, rfl, hy, bb0⟩; have bb := below_join (Below.refl v161.heap.size v161).drew bb0 (Nat.le_refl _); have HKv313 := Lib.hid (below_join HKv161.out bb HKv161.out.size); have HY1v313 := Lib.hid hy; clear hy; clear bb bb0)
      | (go_at_call 18; (with_reducible refine (C2.out v313 HKv313.out).mono ?_); rintro e v314 ⟨A2, q2, rfl, hy, bb0⟩; have bb := below_join (Below.refl v313.heap.size v313) bb0 (Nat.le_refl _); have HKv314 := Lib.hid (below_join HKv313.out bb HKv313.out.size); have HY1v314 := Lib.hid (HY1v313.out.on bb (Nat.le_refl _)); have HY2v314 := Lib.hid hy; clear hy; clear bb bb0)
      | (go_at_call 14; (with_reducible refine (c_Ints A1 A2 q1 q2 wl wl v314 HY1v314.out HY2v314.out true (decide_eq_true rfl)).mono ?_); rintro e v315 ⟨rfl, bb0⟩; have bb := below_join (Below.refl v314.heap.size v314) bb0 (Nat.le_refl _); have HKv315 := Lib.hid (below_join HKv314.out bb HKv314.out.size); have HY1v315 := Lib.hid (HY1v314.out.on bb (Nat.le_refl _)); have HY2v315 := Lib.hid (HY2v314.out.on bb (Nat.le_refl _)); clear bb bb0)
      | (go_at_call 9; (with_reducible refine (HLV.out v315).mono ?_); rintro e v316 ⟨rfl, bb0⟩; have bb := below_join (Below.refl v315.heap.size v315) bb0 (Nat.le_refl _); have HKv316 := Lib.hid (below_join HKv315.out bb HKv315.out.size); have HY1v316 := Lib.hid (HY1v315.out.on bb (Nat.le_refl _)); have HY2v316 := Lib.hid (HY2v315.out.on bb (Nat.le_refl _)); clear bb bb0)
      | fail)
  go_wp2_with (fail)
  go_ret
  exact ⟨rfl, below_join HB.out HKv316.out hle⟩
set_option maxHeartbeats 32000000 in
theorem row_NetworkMetric (w : World) (p : SP) (s : SiteD) (h : SiAt w p s) (a b c : Int) :
    Calls Try.prog 5 #[siV p s, .int .i64 a, .int .i64 b, .int .i64 c] w fun e w' => e = .returned (.bool true) ∧ Below w.heap.size w w' := by
  unfold siV
  have HLV := Lib.hid (fun (X : World) => c_live X)
  obtain ⟨W, h1⟩ : ∃ W, W = w.alloc (.cells #[.slice p.a1 s.feeds.length p.c1, .slice p.a2 s.brks.length p.c2, .slice p.a3 s.loops.length p.c3, .slice p.a4 s.racks.length p.c4, .int .i64 s.sw, .slice p.a5 s.links.length p.c5, .slice p.a6 s.hosts.length p.c6] 29) := ⟨_, rfl⟩
  have z1 : W.heap.size = w.heap.size + 1 := by rw [h1, World.size_alloc]
  have B1 : Below w.heap.size w W := by rw [h1]; exact (Below.refl _ _).alloc (Nat.le_refl _) _
  have X1 : SiBox W w.heap.size p s := by rw [h1]; exact siBox_new _ _ _
  have HB := Lib.hid B1
  have HZ := Lib.hid z1
  have HA := Lib.hid (fun (X : World) (hX : Below W.heap.size W X) => (h.on B1 (Nat.le_refl _)).on hX (Nat.le_refl _))
  have HF := Lib.hid (fun (X : World) (hX : Below W.heap.size W X) => (let z := X1.on hX (Nat.le_refl _); ⟨z.c0, z.c1, z.c2, z.c3, z.c4, z.c5, z.c6⟩ : X.cell? ⟨w.heap.size, 0, none⟩ = some (.slice p.a1 s.feeds.length p.c1) ∧ X.cell? ⟨w.heap.size, 1, none⟩ = some (.slice p.a2 s.brks.length p.c2) ∧ X.cell? ⟨w.heap.size, 2, none⟩ = some (.slice p.a3 s.loops.length p.c3) ∧ X.cell? ⟨w.heap.size, 3, none⟩ = some (.slice p.a4 s.racks.length p.c4) ∧ X.cell? ⟨w.heap.size, 4, none⟩ = some (.int .i64 s.sw) ∧ X.cell? ⟨w.heap.size, 5, none⟩ = some (.slice p.a5 s.links.length p.c5) ∧ X.cell? ⟨w.heap.size, 6, none⟩ = some (.slice p.a6 s.hosts.length p.c6)))
  have HX := Lib.hid (fun (X : World) (hX : Below W.heap.size W X) => X1.on hX (Nat.le_refl _))
  have HKW := Lib.hid (Below.refl W.heap.size W)
  have hle := HB.out.size
  have n0 := h.feeds.1; have m0 := h.feeds.2.1
  have n1 := h.brks.1; have m1 := h.brks.2.1
  have n2 := h.loops.1; have m2 := h.loops.2.1
  have n3 := h.racks.1; have m3 := h.racks.2.1
  have n4 := h.links.1; have m4 := h.links.2.1
  have n5 := h.hosts.1; have m5 := h.hosts.2.1
  unfold maxLen at m0 m1 m2 m3 m4 m5
  obtain ⟨rf, hrf⟩ := bool_of (FewN s)
  have HRF := Lib.hid hrf
  clear hrf
  have hd1 := distI_ge s a b
  have hd2 := distI_ge s b c
  have hd3 := distI_ge s a c
  have htr := @distI_tri s a b c
  obtain ⟨ab, hab⟩ : ∃ t, distI s a b = t := ⟨_, rfl⟩
  obtain ⟨bc, hbc⟩ : ∃ t, distI s b c = t := ⟨_, rfl⟩
  obtain ⟨ac, hac⟩ : ∃ t, distI s a c = t := ⟨_, rfl⟩
  rw [hab, hbc, hac] at htr
  rw [hab] at hd1
  rw [hbc] at hd2
  rw [hac] at hd3
  have HAB := Lib.hid hab
  have HBC := Lib.hid hbc
  have HAC := Lib.hid hac
  have HBA := Lib.hid ((distI_sym s b a).trans hab)
  have HTR := Lib.hid htr
  clear hab hbc hac htr
  obtain ⟨la, hla⟩ : ∃ t, latI s a b = t := ⟨_, rfl⟩
  have HL := Lib.hid hla
  clear hla
  have HL2 := Lib.hid ((latI_sym s b a).trans HL.out)
  clear h z1 B1 X1
  obtain ⟨f0, f1, f2, f3, f4, f5, f6⟩ := HF.out W HKW.out
  rw [h1] at f0 f1 f2 f3 f4 f5 f6
  generalize hBB : w.heap.size = B at *
  go_enter Try.func5, Try.ntmps5
  go_wp2_with (fail)
  rw [← h1]
  clear h1 f0 f1 f2 f3 f4 f5 f6
  go_at_call 8
  refine (c_fewN p s rf HRF.out W (HA.out W HKW.out)).mono ?_
  rintro e v317 ⟨rfl, bb⟩
  have HKv317 := Lib.hid (below_join HKW.out bb HKW.out.size)
  clear bb
  cases rf
  · skip
    go_wp2_with (fail)
    go_at_call 9
    refine (HLV.out v317).mono ?_
    rintro e v418 ⟨rfl, bb⟩
    have HKv418 := Lib.hid (below_join HKv317.out bb HKv317.out.size)
    clear bb
    go_wp2_with (fail)
    go_ret
    exact ⟨rfl, below_join HB.out HKv418.out hle⟩
  have C1 := Lib.hid (fun (X : World) (hX : Below W.heap.size W X) => c_neDistanceTo p s a b ab HAB.out X (HA.out X hX))
  have C2 := Lib.hid (fun (X : World) (hX : Below W.heap.size W X) => c_neDistanceTo p s b c bc HBC.out X (HA.out X hX))
  have C3 := Lib.hid (fun (X : World) (hX : Below W.heap.size W X) => c_neDistanceTo p s a c ac HAC.out X (HA.out X hX))
  have C4 := Lib.hid (fun (X : World) (hX : Below W.heap.size W X) => c_neDistanceTo p s b a ab HBA.out X (HA.out X hX))
  have C5 := Lib.hid (fun (X : World) (hX : Below W.heap.size W X) => c_neLatencyTo p s a b la HL.out X (HA.out X hX))
  have C6 := Lib.hid (fun (X : World) (hX : Below W.heap.size W X) => c_neLatencyTo p s b a la HL2.out X (HA.out X hX))
  obtain ⟨f0, f1, f2, f3, f4, f5, f6⟩ := HF.out v317 HKv317.out
  go_wp2_with (fail)
  go_region_held3 (fun X => X.cell? ⟨B, 0, none⟩ = some (.slice p.a1 s.feeds.length p.c1) ∧ X.cell? ⟨B, 1, none⟩ = some (.slice p.a2 s.brks.length p.c2) ∧ X.cell? ⟨B, 2, none⟩ = some (.slice p.a3 s.loops.length p.c3) ∧ X.cell? ⟨B, 3, none⟩ = some (.slice p.a4 s.racks.length p.c4) ∧ X.cell? ⟨B, 4, none⟩ = some (.int .i64 s.sw) ∧ X.cell? ⟨B, 5, none⟩ = some (.slice p.a5 s.links.length p.c5) ∧ X.cell? ⟨B, 6, none⟩ = some (.slice p.a6 s.hosts.length p.c6))
    (first | exact HF.out v471 HKv471.out | exact HF.out v470 HKv470.out | exact HF.out v469 HKv469.out | exact HF.out v317 HKv317.out | fail)
    (first
      | (go_at_call 10; (with_reducible refine (C1.out v317.drew HKv317.out.drew).mono ?_); rintro e v469 ⟨rfl, bb0⟩; have bb := below_join (Below.refl v317.heap.size v317).drew bb0 (Nat.le_refl _); have HKv469 := Lib.hid (below_join HKv317.out bb HKv317.out.size); clear bb bb0)
      | (go_at_call 10; (with_reducible refine (C2.out v469 HKv469.out).mono ?_); rintro e v470 ⟨rfl, bb0⟩; have bb := below_join (Below.refl v469.heap.size v469) bb0 (Nat.le_refl _); have HKv470 := Lib.hid (below_join HKv469.out bb HKv469.out.size); clear bb bb0)
      | (go_at_call 10; (with_reducible refine (C3.out v470 HKv470.out).mono ?_); rintro e v471 ⟨rfl, bb0⟩; have bb := below_join (Below.refl v470.heap.size v470) bb0 (Nat.le_refl _); have HKv471 := Lib.hid (below_join HKv470.out bb HKv470.out.size); clear bb bb0)
      | fail)
  go_wp2_with (fail)
  obtain ⟨f0, f1, f2, f3, f4, f5, f6⟩ := HF.out v471 HKv471.out
  go_wp2_with (fail)
  go_region_held3 (fun X => X.cell? ⟨B, 0, none⟩ = some (.slice p.a1 s.feeds.length p.c1) ∧ X.cell? ⟨B, 1, none⟩ = some (.slice p.a2 s.brks.length p.c2) ∧ X.cell? ⟨B, 2, none⟩ = some (.slice p.a3 s.loops.length p.c3) ∧ X.cell? ⟨B, 3, none⟩ = some (.slice p.a4 s.racks.length p.c4) ∧ X.cell? ⟨B, 4, none⟩ = some (.int .i64 s.sw) ∧ X.cell? ⟨B, 5, none⟩ = some (.slice p.a5 s.links.length p.c5) ∧ X.cell? ⟨B, 6, none⟩ = some (.slice p.a6 s.hosts.length p.c6))
    (first | exact HF.out v474 HKv474.out | exact HF.out v473 HKv473.out | exact HF.out v472 HKv472.out | exact HF.out v471 HKv471.out | fail)
    (first
      | (go_at_call 10; (with_reducible refine (C4.out v471.drew HKv471.out.drew).mono ?_); rintro e v472 ⟨rfl, bb0⟩; have bb := below_join (Below.refl v471.heap.size v471).drew bb0 (Nat.le_refl _); have HKv472 := Lib.hid (below_join HKv471.out bb HKv471.out.size); clear bb bb0)
      | (go_at_call 12; (with_reducible refine (C5.out v472 HKv472.out).mono ?_); rintro e v473 ⟨rfl, bb0⟩; have bb := below_join (Below.refl v472.heap.size v472) bb0 (Nat.le_refl _); have HKv473 := Lib.hid (below_join HKv472.out bb HKv472.out.size); clear bb bb0)
      | (go_at_call 12; (with_reducible refine (C6.out v473 HKv473.out).mono ?_); rintro e v474 ⟨rfl, bb0⟩; have bb := below_join (Below.refl v473.heap.size v473) bb0 (Nat.le_refl _); have HKv474 := Lib.hid (below_join HKv473.out bb HKv473.out.size); clear bb bb0)
      | fail)
  rcases g1 : decide (0 ≤ ab) with _ | _
  · skip
    go_wp2_with (fail)
    go_at_call 9
    refine (HLV.out v474).mono ?_
    rintro e v575 ⟨rfl, bb⟩
    have HKv575 := Lib.hid (below_join HKv474.out bb HKv474.out.size)
    clear bb
    go_wp2_with (fail)
    go_ret
    exact ⟨rfl, below_join HB.out HKv575.out hle⟩
  rcases g2 : decide (0 ≤ bc) with _ | _
  · skip
    go_wp2_with (fail)
    go_at_call 9
    refine (HLV.out v474).mono ?_
    rintro e v726 ⟨rfl, bb⟩
    have HKv726 := Lib.hid (below_join HKv474.out bb HKv474.out.size)
    clear bb
    go_wp2_with (fail)
    go_ret
    exact ⟨rfl, below_join HB.out HKv726.out hle⟩
  have ht := HTR.out (of_decide_eq_true g1) (of_decide_eq_true g2)
  have g3 : decide (ac < 0) = false := decide_eq_false (by omega)
  have g4 : decide (ab + bc < ac) = false := decide_eq_false (by omega)
  have g5 : IntKind.i64.wrap (ab + bc) = ab + bc := wrap_in (by omega) (by omega)
  go_wp2_with (fail)
  go_at_call 9
  refine (HLV.out v474).mono ?_
  rintro e v777 ⟨rfl, bb⟩
  have HKv777 := Lib.hid (below_join HKv474.out bb HKv474.out.size)
  clear bb
  go_wp2_with (fail)
  go_ret
  exact ⟨rfl, below_join HB.out HKv777.out hle⟩
end Go.Proofs.Ytacdpklgnibkeaa
