/-
  DERIVED. Several texts in one.
-/
import Derived.Test.YtacdpklgnibkeaaPO2
import Derived.Test.YtacdpklgnibkeaaPB2
set_option linter.unusedVariables false
set_option linter.unusedSimpArgs false

namespace Go.Proofs.Ytacdpklgnibkeaa
open Go.RowKit
set_option maxRecDepth 100000
set_option linter.unusedVariables false
set_option linter.unusedSimpArgs false

theorem latI_is {s : SiteD} (hs : siteOk s = true) {a b : Nat} (ha : a < s.hosts.length) (hb : b < s.hosts.length) : latI s a b = laS s a b := by
  unfold latI
  rw [if_pos ⟨hs, ixB_iff.2 (by omega), ixB_iff.2 (by omega)⟩]
  rfl
set_option maxHeartbeats 16000000 in
theorem c_nrLatency (p : SP) (s : SiteD) (a b r : Int) (hr : latI s a b = r) (w : World) (h : SiAt w p s) :
    Calls Try.prog 13 #[siV p s, .int .i64 a, .int .i64 b] w fun e w' => e = .returned (.int .i64 r) ∧ Below w.heap.size w w' := by
  have HH0 := Lib.hid h
  unfold siV
  obtain ⟨W, h1⟩ : ∃ W, W = w.alloc (.cells #[.slice p.a1 s.feeds.length p.c1, .slice p.a2 s.brks.length p.c2, .slice p.a3 s.loops.length p.c3, .slice p.a4 s.racks.length p.c4, .int .i64 s.sw, .slice p.a5 s.links.length p.c5, .slice p.a6 s.hosts.length p.c6] 29) := ⟨_, rfl⟩
  have z1 : W.heap.size = w.heap.size + 1 := by rw [h1, World.size_alloc]
  have B1 : Below w.heap.size w W := by rw [h1]; exact (Below.refl _ _).alloc (Nat.le_refl _) _
  have X1 : SiBox W w.heap.size p s := by rw [h1]; exact siBox_new _ _ _
  have HB := Lib.hid B1
  have HZ := Lib.hid z1
  have HA := Lib.hid (fun (X : World) (hX : Below W.heap.size W X) => (h.on B1 (Nat.le_refl _)).on hX (Nat.le_refl _))
  have HF := Lib.hid (fun (X : World) (hX : Below W.heap.size W X) => (let z := X1.on hX (Nat.le_refl _); ⟨z.c0, z.c1, z.c2, z.c3, z.c4, z.c5, z.c6⟩ : X.cell? ⟨w.heap.size, 0, none⟩ = some (.slice p.a1 s.feeds.length p.c1) ∧ X.cell? ⟨w.heap.size, 1, none⟩ = some (.slice p.a2 s.brks.length p.c2) ∧ X.cell? ⟨w.heap.size, 2, none⟩ = some (.slice p.a3 s.loops.length p.c3) ∧ X.cell? ⟨w.heap.size, 3, none⟩ = some (.slice p.a4 s.racks.length p.c4) ∧ X.cell? ⟨w.heap.size, 4, none⟩ = some (.int .i64 s.sw) ∧ X.cell? ⟨w.heap.size, 5, none⟩ = some (.slice p.a5 s.links.length p.c5) ∧ X.cell? ⟨w.heap.size, 6, none⟩ = some (.slice p.a6 s.hosts.length p.c6)))
  have HX := Lib.hid (fun (X : World) (hX : Below W.heap.size W X) => X1.on hX (Nat.le_refl _))
  have HKW := Lib.hid (Below.refl W.heap.size W)
  have hle := HB.out.size
  have n0 := h.feeds.1; have m0 := h.feeds.2.1
  have n1 := h.brks.1; have m1 := h.brks.2.1
  have n2 := h.loops.1; have m2 := h.loops.2.1
  have n3 := h.racks.1; have m3 := h.racks.2.1
  have n4 := h.links.1; have m4 := h.links.2.1
  have n5 := h.hosts.1; have m5 := h.hosts.2.1
  unfold maxLen at m0 m1 m2 m3 m4 m5
  have HR := Lib.hid hr
  obtain ⟨r0, hr0⟩ : ∃ r, siteOk s = r := ⟨_, rfl⟩
  have HR0 := Lib.hid hr0
  clear hr hr0
  clear h z1 B1 X1
  obtain ⟨f0, f1, f2, f3, f4, f5, f6⟩ := HF.out W HKW.out
  rw [h1] at f0 f1 f2 f3 f4 f5 f6
  generalize hBB : w.heap.size = B at *
  go_enter Try.func13, Try.ntmps13
  go_wp2_with (fail)
  rw [← h1]
  clear h1 f0 f1 f2 f3 f4 f5 f6
  go_at_call 28
  refine (c_srValid p s r0 HR0.out W (HA.out W HKW.out)).mono ?_
  rintro e v1 ⟨rfl, bb⟩
  have HKv1 := Lib.hid (below_join HKW.out bb HKW.out.size)
  clear bb
  obtain ⟨f0, f1, f2, f3, f4, f5, f6⟩ := HF.out v1 HKv1.out
  cases r0
  · skip
    obtain rfl : -1 = r := by
      rw [← HR.out]
      unfold latI
      rw [if_neg (by rw [HR0.out]; simp)]
    go_wp2_with (fail)
    go_ret
    exact ⟨rfl, below_join HB.out HKv1.out hle⟩
  rcases g0 : decide (a < 0) with _ | _
  rotate_left
  · skip
    have g0' := of_decide_eq_true g0
    obtain rfl : -1 = r := by
      rw [← HR.out]
      unfold latI
      rw [if_neg (by rintro ⟨-, g, -⟩; have := (ixB_iff.1 g).1; omega)]
    go_wp2_with (fail)
    go_ret
    exact ⟨rfl, below_join HB.out HKv1.out hle⟩
  have g0' := of_decide_eq_false g0
  rcases g1 : decide ((s.hosts.length : Int) ≤ a) with _ | _
  rotate_left
  · skip
    have g1' := of_decide_eq_true g1
    obtain rfl : -1 = r := by
      rw [← HR.out]
      unfold latI
      rw [if_neg (by rintro ⟨-, g, -⟩; have := (ixB_iff.1 g).2; omega)]
    go_wp2_with (fail)
    go_ret
    exact ⟨rfl, below_join HB.out HKv1.out hle⟩
  have g1' := of_decide_eq_false g1
  rcases g2 : decide (b < 0) with _ | _
  rotate_left
  · skip
    have g2' := of_decide_eq_true g2
    obtain rfl : -1 = r := by
      rw [← HR.out]
      unfold latI
      rw [if_neg (by rintro ⟨-, -, g⟩; have := (ixB_iff.1 g).1; omega)]
    go_wp2_with (fail)
    go_ret
    exact ⟨rfl, below_join HB.out HKv1.out hle⟩
  have g2' := of_decide_eq_false g2
  rcases g3 : decide ((s.hosts.length : Int) ≤ b) with _ | _
  rotate_left
  · skip
    have g3' := of_decide_eq_true g3
    obtain rfl : -1 = r := by
      rw [← HR.out]
      unfold latI
      rw [if_neg (by rintro ⟨-, -, g⟩; have := (ixB_iff.1 g).2; omega)]
    go_wp2_with (fail)
    go_ret
    exact ⟨rfl, below_join HB.out HKv1.out hle⟩
  have g3' := of_decide_eq_false g3
  obtain ⟨ua, rfl⟩ : ∃ u : Nat, a = u := ⟨a.toNat, by omega⟩
  obtain ⟨ub, rfl⟩ : ∃ u : Nat, b = u := ⟨b.toNat, by omega⟩
  have hua : ua < s.hosts.length := by omega
  have hub : ub < s.hosts.length := by omega
  have HRL := Lib.hid (show laS s ua ub = r by rw [← HR.out, latI_is HR0.out hua hub])
  rcases hab0 : ((ua : Int) == (ub : Int)) with _ | _
  rotate_left
  · skip
    have hab : ua = ub := by have : (ua : Int) = (ub : Int) := by simpa using hab0
                             omega
    obtain rfl : 0 = r := by rw [← HRL.out]; unfold laS; rw [if_pos hab]
    go_wp2_with (fail)
    go_ret
    exact ⟨rfl, below_join HB.out HKv1.out hle⟩
  have hab : ua ≠ ub := by have : ¬ (ua : Int) = (ub : Int) := by simpa using hab0
                           omega
  obtain ⟨d, hd⟩ : ∃ d, dS s (swOf s ua) (swOf s ub) = d := ⟨_, rfl⟩
  have HRR := Lib.hid (show (if d < 0 then -1 else 1 + d) = r by rw [← HRL.out, ← hd]; unfold laS; rw [if_neg hab])
  have hdr := dS_ge HR0.out (swOf s ua) (swOf s ub)
  rw [hd] at hdr
  obtain ⟨ma, ⟨xa0, xa1, xa2, xa3⟩, ⟨ya0, ya1, ya2, ya3⟩, ea1, ea2, ea3, ea4, ea5, ea6⟩ := sw_ok HR0.out hua
  obtain ⟨mb, ⟨xb0, xb1, xb2, xb3⟩, ⟨yb0, yb1, yb2, yb3⟩, eb1, eb2, eb3, eb4, eb5, eb6⟩ := sw_ok HR0.out hub
  simp only at ea2 ea5 eb2 eb5
  have HDI := Lib.hid (show distI s ((swOf s ua : Nat) : Int) ((swOf s ub : Nat) : Int) = d by rw [distI_is HR0.out ea6 eb6]; exact hd)
  subst ea2 eb2 ea5 eb5
  have HCD := Lib.hid (fun (X : World) (hX : Below W.heap.size W X) => c_nrDistance p s _ _ d HDI.out X (HA.out X hX))
  unfold siV at HCD
  obtain ⟨b1, o1, e1, hb1, -⟩ := HH0.out.hosts.at_ ea1
  obtain ⟨b2, o2, e2, hb2, -⟩ := HH0.out.racks.at_ ea4
  have k1 := HH0.out.hosts; have k2 := HH0.out.racks
  rw [e1] at k1
  rw [e2] at k2
  obtain ⟨q1, -, -, -⟩ := rwHost k1 ea1
  obtain ⟨q2, -, -, -⟩ := rwHost k1 eb1
  obtain ⟨-, -, -, q3⟩ := rwRack k2 ea4
  obtain ⟨-, -, -, q4⟩ := rwRack k2 eb4
  have HQ := Lib.hid (fun (X : World) (hX : Below W.heap.size W X) => (have hj := below_join HB.out hX hle; by
    subst hBB
    exact ⟨(hj.cell (p := ⟨b1, o1 + ua * 4, none⟩) hb1).trans q1, (hj.cell (p := ⟨b1, o1 + ub * 4, none⟩) hb1).trans q2, (hj.cell (p := ⟨b2, o2 + ma * 4 + 3, none⟩) hb2).trans q3, (hj.cell (p := ⟨b2, o2 + mb * 4 + 3, none⟩) hb2).trans q4⟩ : X.cell? ⟨b1, o1 + ua * 4, none⟩ = some (.int .i64 (ma : Int)) ∧ X.cell? ⟨b1, o1 + ub * 4, none⟩ = some (.int .i64 (mb : Int)) ∧ X.cell? ⟨b2, o2 + ma * 4 + 3, none⟩ = some (.int .i64 ((swOf s ua : Nat) : Int)) ∧ X.cell? ⟨b2, o2 + mb * 4 + 3, none⟩ = some (.int .i64 ((swOf s ub : Nat) : Int))))
  have l1 : ((ua : Nat) : Int).toNat = ua := by omega
  have l2 : ((ub : Nat) : Int).toNat = ub := by omega
  have l3 : ((ma : Nat) : Int).toNat = ma := by omega
  have l4 : ((mb : Nat) : Int).toNat = mb := by omega
  have l5 : (ua : Int) < (s.hosts.length : Int) := by omega
  have l6 : (ub : Int) < (s.hosts.length : Int) := by omega
  have l7 : (ma : Int) < (s.racks.length : Int) := by omega
  have l8 : (mb : Int) < (s.racks.length : Int) := by omega
  have HF2 := Lib.hid HF.out
  rw [e1, e2] at HF2 HCD
  rw [e2] at f3
  rw [e1] at f6
  rw [e1, e2]
  have HSS := Lib.hid (fun (X : World) (hX : Below W.heap.size W X) => (⟨HF2.out X hX, HQ.out X hX⟩ : (X.cell? ⟨B, 0, none⟩ = some (.slice p.a1 s.feeds.length p.c1) ∧ X.cell? ⟨B, 1, none⟩ = some (.slice p.a2 s.brks.length p.c2) ∧ X.cell? ⟨B, 2, none⟩ = some (.slice p.a3 s.loops.length p.c3) ∧ X.cell? ⟨B, 3, none⟩ = some (.slice (some ⟨b2, o2, none⟩) s.racks.length p.c4) ∧ X.cell? ⟨B, 4, none⟩ = some (.int .i64 s.sw) ∧ X.cell? ⟨B, 5, none⟩ = some (.slice p.a5 s.links.length p.c5) ∧ X.cell? ⟨B, 6, none⟩ = some (.slice (some ⟨b1, o1, none⟩) s.hosts.length p.c6)) ∧ X.cell? ⟨b1, o1 + ua * 4, none⟩ = some (.int .i64 (ma : Int)) ∧ X.cell? ⟨b1, o1 + ub * 4, none⟩ = some (.int .i64 (mb : Int)) ∧ X.cell? ⟨b2, o2 + ma * 4 + 3, none⟩ = some (.int .i64 ((swOf s ua : Nat) : Int)) ∧ X.cell? ⟨b2, o2 + mb * 4 + 3, none⟩ = some (.int .i64 ((swOf s ub : Nat) : Int))))
  obtain ⟨q1, q2, q3, q4⟩ := HQ.out v1 HKv1.out
  clear k1 k2 hd ea1 ea4 eb1 eb4 e1 e2
  go_wp2_with (fail)
  go_region_held3 (fun X => (X.cell? ⟨B, 0, none⟩ = some (.slice p.a1 s.feeds.length p.c1) ∧ X.cell? ⟨B, 1, none⟩ = some (.slice p.a2 s.brks.length p.c2) ∧ X.cell? ⟨B, 2, none⟩ = some (.slice p.a3 s.loops.length p.c3) ∧ X.cell? ⟨B, 3, none⟩ = some (.slice (some ⟨b2, o2, none⟩) s.racks.length p.c4) ∧ X.cell? ⟨B, 4, none⟩ = some (.int .i64 s.sw) ∧ X.cell? ⟨B, 5, none⟩ = some (.slice p.a5 s.links.length p.c5) ∧ X.cell? ⟨B, 6, none⟩ = some (.slice (some ⟨b1, o1, none⟩) s.hosts.length p.c6)) ∧ X.cell? ⟨b1, o1 + ua * 4, none⟩ = some (.int .i64 (ma : Int)) ∧ X.cell? ⟨b1, o1 + ub * 4, none⟩ = some (.int .i64 (mb : Int)) ∧ X.cell? ⟨b2, o2 + ma * 4 + 3, none⟩ = some (.int .i64 ((swOf s ua : Nat) : Int)) ∧ X.cell? ⟨b2, o2 + mb * 4 + 3, none⟩ = some (.int .i64 ((swOf s ub : Nat) : Int)))
    (first | exact HSS.out v902 HKv902.out | exact HSS.out v1 HKv1.out | fail)
    (first
      | (go_at_call 11; (with_reducible refine (HCD.out v1.drew HKv1.out.drew).mono ?_); rintro e v902 ⟨rfl, bb0⟩; have bb := below_join (Below.refl v1.heap.size v1).drew bb0 (Nat.le_refl _); have HKv902 := Lib.hid (below_join HKv1.out bb HKv1.out.size); clear bb bb0)
      | fail)
  clear f0 f1 f2 f3 f4 f5 f6 q1 q2 q3 q4
  rcases hd0 : decide (d < 0) with _ | _
  · skip
    have hd1 := of_decide_eq_false hd0
    obtain rfl : 1 + d = r := by rw [← HRR.out, if_neg hd1]
    go_wp2_with (fail)
    go_ret
    exact ⟨(show Ending.returned (.int .i64 (d + 1)) = .returned (.int .i64 (1 + d)) by rw [Int.add_comm]), below_join HB.out HKv902.out hle⟩
  · skip
    have hd1 := of_decide_eq_true hd0
    obtain rfl : -1 = r := by rw [← HRR.out, if_pos hd1]
    go_wp2_with (fail)
    go_ret
    exact ⟨rfl, below_join HB.out HKv902.out hle⟩
noncomputable def wrF (s : SiteD) (a most : Int) (k : Nat) : Bool := decide (0 ≤ latI s a k) && decide (latI s a k ≤ most)
noncomputable def wrL (s : SiteD) (a most : Int) (k : Nat) : List Nat := (List.range k).filter (wrF s a most)
theorem wrL_len (s : SiteD) (a most : Int) (k : Nat) : (wrL s a most k).length ≤ k := Nat.le_trans (List.length_filter_le _ _) (by rw [List.length_range]; omega)
theorem wrL_succ (s : SiteD) (a most : Int) (k : Nat) : wrL s a most (k + 1) = wrL s a most k ++ if wrF s a most k then [k] else [] := by unfold wrL; rw [List.range_succ, List.filter_append]; congr 1; cases h : wrF s a most k <;> simp [h]
theorem wrL_is (s : SiteD) (a most : Int) : wrL s a most s.hosts.length = witI s a most := by
  unfold wrL witI
  split
  · rename_i h
    have hi := ixB_iff.1 h.2
    unfold wiL
    refine List.filter_congr fun k hk => ?_
    have hk2 := List.mem_range.1 hk
    unfold wrF wiF
    have e : latI s a k = laS s a.toNat k := by
      have := latI_is h.1 (a := a.toNat) (b := k) (by omega) hk2
      rwa [show ((a.toNat : Nat) : Int) = a by omega] at this
    rw [e]
    simp
  · rename_i h
    rw [List.filter_eq_nil_iff]
    intro k hk g
    unfold wrF at g
    have e : latI s a k = -1 := by
      unfold latI
      rw [if_neg (by rintro ⟨h1, h2, h3⟩; exact h ⟨h1, h2⟩)]
    rw [e] at g
    simp at g
set_option maxHeartbeats 16000000 in
theorem c_nrWithin (p : SP) (s : SiteD) (h60 : s.hosts.length ≤ 60) (a most : Int) (r : List Nat) (hr : witI s a most = r) (w : World) (h : SiAt w p s) :
    Calls Try.prog 18 #[siV p s, .int .i64 a, .int .i64 most] w fun e w' => ∃ v, e = .returned v ∧ w'.ownsRow w.heap.size 3 1 v (nats r).length (ints (nats r)) ∧ Below w.heap.size w w' := by
  rw [← wrL_is] at hr
  unfold siV
  obtain ⟨W, h1⟩ : ∃ W, W = w.alloc (.cells #[.slice p.a1 s.feeds.length p.c1, .slice p.a2 s.brks.length p.c2, .slice p.a3 s.loops.length p.c3, .slice p.a4 s.racks.length p.c4, .int .i64 s.sw, .slice p.a5 s.links.length p.c5, .slice p.a6 s.hosts.length p.c6] 29) := ⟨_, rfl⟩
  have z1 : W.heap.size = w.heap.size + 1 := by rw [h1, World.size_alloc]
  have B1 : Below w.heap.size w W := by rw [h1]; exact (Below.refl _ _).alloc (Nat.le_refl _) _
  have X1 : SiBox W w.heap.size p s := by rw [h1]; exact siBox_new _ _ _
  have HB := Lib.hid B1
  have HZ := Lib.hid z1
  have HA := Lib.hid (fun (X : World) (hX : Below W.heap.size W X) => (h.on B1 (Nat.le_refl _)).on hX (Nat.le_refl _))
  have HF := Lib.hid (fun (X : World) (hX : Below W.heap.size W X) => (let z := X1.on hX (Nat.le_refl _); ⟨z.c0, z.c1, z.c2, z.c3, z.c4, z.c5, z.c6⟩ : X.cell? ⟨w.heap.size, 0, none⟩ = some (.slice p.a1 s.feeds.length p.c1) ∧ X.cell? ⟨w.heap.size, 1, none⟩ = some (.slice p.a2 s.brks.length p.c2) ∧ X.cell? ⟨w.heap.size, 2, none⟩ = some (.slice p.a3 s.loops.length p.c3) ∧ X.cell? ⟨w.heap.size, 3, none⟩ = some (.slice p.a4 s.racks.length p.c4) ∧ X.cell? ⟨w.heap.size, 4, none⟩ = some (.int .i64 s.sw) ∧ X.cell? ⟨w.heap.size, 5, none⟩ = some (.slice p.a5 s.links.length p.c5) ∧ X.cell? ⟨w.heap.size, 6, none⟩ = some (.slice p.a6 s.hosts.length p.c6)))
  have HX := Lib.hid (fun (X : World) (hX : Below W.heap.size W X) => X1.on hX (Nat.le_refl _))
  have HKW := Lib.hid (Below.refl W.heap.size W)
  have hle := HB.out.size
  have n0 := h.feeds.1; have m0 := h.feeds.2.1
  have n1 := h.brks.1; have m1 := h.brks.2.1
  have n2 := h.loops.1; have m2 := h.loops.2.1
  have n3 := h.racks.1; have m3 := h.racks.2.1
  have n4 := h.links.1; have m4 := h.links.2.1
  have n5 := h.hosts.1; have m5 := h.hosts.2.1
  unfold maxLen at m0 m1 m2 m3 m4 m5
  have HR := Lib.hid hr
  clear hr
  clear h z1 B1 X1
  obtain ⟨f0, f1, f2, f3, f4, f5, f6⟩ := HF.out W HKW.out
  rw [h1] at f0 f1 f2 f3 f4 f5 f6
  generalize hBB : w.heap.size = B at *
  go_enter Try.func18, Try.ntmps18
  go_wp2_with (fail)
  rw [← h1]
  clear h1 f0 f1 f2 f3 f4 f5 f6
  obtain ⟨i1, hi1, hz1, hz2, hz3⟩ := info_parts int_info
  go_loopw [7, 8] (fun v i wr => ∃ k : Nat, k ≤ s.hosts.length ∧ i = .int .i64 (k : Int) ∧ Hid (Below W.heap.size W wr) ∧ Hid (wr.ownsRow W.heap.size 3 1 v (nats (wrL s a most k)).length (ints (nats (wrL s a most k))))) (fun _ i _ => s.hosts.length - (intOf i).toNat)
  case atStart => exact ⟨0, Nat.zero_le _, rfl, HKW, Lib.hid (World.ownsRow_nil _ _ _ _)⟩
  case round =>
    obtain ⟨k, hk, rfl, hB, ho⟩ := hrel
    have hki : ((k : Nat) : Int).toNat = k := by omega
    obtain ⟨f0, f1, f2, f3, f4, f5, f6⟩ := HF.out wr hB.out
    by_cases hlt : k < s.hosts.length
    · have hkl : (k : Int) < (s.hosts.length : Int) := by omega
      have hln : (nats (wrL s a most k)).length ≤ 60 := by rw [nats_len]; have := wrL_len s a most k; omega
      obtain ⟨nn, hnn⟩ : ∃ m, m = (nats (wrL s a most k)).length := ⟨_, rfl⟩
      rw [← hnn] at ho hln
      have HNN := Lib.hid hnn
      obtain ⟨d, hd⟩ : ∃ d, latI s a (k : Int) = d := ⟨_, rfl⟩
      have HFB := Lib.hid (show wrF s a most k = (decide (0 ≤ d) && decide (d ≤ most)) by unfold wrF; rw [hd])
      have HC2 := Lib.hid (c_nrLatency p s a (k : Int) d hd wr (HA.out wr hB.out))
      unfold siV at HC2
      obtain ⟨As, cs, rfl⟩ := own_shape ho.out
      have hz3' := hB.out.size
      clear hnn hd
      go_wp2_with (fail)
      go_at_call 13
      refine HC2.out.mono ?_
      rintro e wz ⟨rfl, bz⟩
      have HBz := Lib.hid (below_join hB.out bz hB.out.size)
      have HOz := Lib.hid (own_on ho.out bz (Nat.le_refl _))
      have hz4 := bz.size
      clear bz f0 f1 f2 f3 f4 f5 f6
      have HNO := Lib.hid (fun (e : (decide (0 ≤ d) && decide (d ≤ most)) = false) => (show wz.ownsRow W.heap.size 3 1 (.slice As nn cs) (nats (wrL s a most (k + 1))).length (ints (nats (wrL s a most (k + 1)))) by
        rw [wrL_succ, HFB.out, e]
        simp only [Bool.false_eq_true, if_false, List.append_nil]
        rw [← HNN.out]; exact HOz.out))
      rcases g1 : decide (0 ≤ d) with _ | _
      · have HO := Lib.hid (HNO.out (by rw [g1]; rfl))
        go_wp2_with (fail)
        go_roundw
        case rel => exact ⟨k + 1, by omega, by go_num, HBz, HO⟩
        case measure => simp only [intOf]; omega
      · rcases g2 : decide (d ≤ most) with _ | _
        · have HO := Lib.hid (HNO.out (by rw [g1, g2]; rfl))
          go_wp2_with (fail)
          go_roundw
          case rel => exact ⟨k + 1, by omega, by go_num, HBz, HO⟩
          case measure => simp only [intOf]; omega
        · have HFT := Lib.hid (show wrF s a most k = true by rw [HFB.out, g1, g2]; rfl)
          go_wp2_with (at_builtin; refine wpList_append_lies _ rfl _ _ 34 rfl W.heap.size 3 i1 (.int .i64 0) 1 8 Try.underlying34 hi1 hz1 hz2 hz3 rfl (by decide) (.slice As nn cs) nn _ rfl (HOz.out.alloc _) ⟨wz.heap.size, 0, none⟩ 1 1 [.int .i64 (k : Int)] rfl rfl (World.news_of_block (heap_alloc_new _ _)) (by simp [Value.oneCell']) (by decide) (by unfold maxLen; omega) (by omega) (by simp; omega) (wz.heap.size + 1) (by simp) ?_; intro g4 cap4 Z hown hgrow _ _; have HBZ := Lib.hid ((HBz.out.alloc HBz.out.size _).grown hgrow (by simp; omega) (fun k hk => (ownsRow_lt HOz.out hk).1)); have HOZ := Lib.hid hown; clear hown hgrow)
          have HO := Lib.hid (show Z.ownsRow W.heap.size 3 1 (.slice (some ⟨g4, 0, none⟩) (nn + 1) cap4) (nats (wrL s a most (k + 1))).length (ints (nats (wrL s a most (k + 1)))) by
            rw [wrL_succ, HFT.out]
            simp only [if_true]
            rw [nats_snoc, List.length_append, List.length_singleton, ← HNN.out, ints_snoc]
            exact HOZ.out)
          go_roundw
          case rel => exact ⟨k + 1, by omega, by go_num, HBZ, HO⟩
          case measure => simp only [intOf]; omega
    · obtain rfl : k = s.hosts.length := by omega
      go_wp2_with (fail)
      go_ret
      rw [HR.out] at ho
      exact ⟨_, rfl, own_mono ho.out hle, below_join HB.out hB.out hle⟩
def FewN (s : SiteD) : Prop := s.feeds.length ≤ 60 ∧ s.brks.length ≤ 60 ∧ s.loops.length ≤ 60 ∧ s.racks.length ≤ 60 ∧ s.links.length ≤ 10 ∧ s.hosts.length ≤ 60
set_option maxHeartbeats 16000000 in
theorem c_fewN (p : SP) (s : SiteD) (r : Bool) (hr : r = true ↔ FewN s) (w : World) (h : SiAt w p s) :
    Calls Try.prog 8 #[siV p s] w fun e w' => e = .returned (.bool r) ∧ Below w.heap.size w w' := by
  unfold siV
  obtain ⟨W, h1⟩ : ∃ W, W = w.alloc (.cells #[.slice p.a1 s.feeds.length p.c1, .slice p.a2 s.brks.length p.c2, .slice p.a3 s.loops.length p.c3, .slice p.a4 s.racks.length p.c4, .int .i64 s.sw, .slice p.a5 s.links.length p.c5, .slice p.a6 s.hosts.length p.c6] 29) := ⟨_, rfl⟩
  have z1 : W.heap.size = w.heap.size + 1 := by rw [h1, World.size_alloc]
  have B1 : Below w.heap.size w W := by rw [h1]; exact (Below.refl _ _).alloc (Nat.le_refl _) _
  have X1 : SiBox W w.heap.size p s := by rw [h1]; exact siBox_new _ _ _
  have HB := Lib.hid B1
  have HZ := Lib.hid z1
  have HA := Lib.hid (fun (X : World) (hX : Below W.heap.size W X) => (h.on B1 (Nat.le_refl _)).on hX (Nat.le_refl _))
  have HF := Lib.hid (fun (X : World) (hX : Below W.heap.size W X) => (let z := X1.on hX (Nat.le_refl _); ⟨z.c0, z.c1, z.c2, z.c3, z.c4, z.c5, z.c6⟩ : X.cell? ⟨w.heap.size, 0, none⟩ = some (.slice p.a1 s.feeds.length p.c1) ∧ X.cell? ⟨w.heap.size, 1, none⟩ = some (.slice p.a2 s.brks.length p.c2) ∧ X.cell? ⟨w.heap.size, 2, none⟩ = some (.slice p.a3 s.loops.length p.c3) ∧ X.cell? ⟨w.heap.size, 3, none⟩ = some (.slice p.a4 s.racks.length p.c4) ∧ X.cell? ⟨w.heap.size, 4, none⟩ = some (.int .i64 s.sw) ∧ X.cell? ⟨w.heap.size, 5, none⟩ = some (.slice p.a5 s.links.length p.c5) ∧ X.cell? ⟨w.heap.size, 6, none⟩ = some (.slice p.a6 s.hosts.length p.c6)))
  have HX := Lib.hid (fun (X : World) (hX : Below W.heap.size W X) => X1.on hX (Nat.le_refl _))
  have HKW := Lib.hid (Below.refl W.heap.size W)
  have hle := HB.out.size
  have n0 := h.feeds.1; have m0 := h.feeds.2.1
  have n1 := h.brks.1; have m1 := h.brks.2.1
  have n2 := h.loops.1; have m2 := h.loops.2.1
  have n3 := h.racks.1; have m3 := h.racks.2.1
  have n4 := h.links.1; have m4 := h.links.2.1
  have n5 := h.hosts.1; have m5 := h.hosts.2.1
  unfold maxLen at m0 m1 m2 m3 m4 m5
  have HR := Lib.hid hr
  clear hr
  clear h z1 B1 X1
  obtain ⟨f0, f1, f2, f3, f4, f5, f6⟩ := HF.out W HKW.out
  rw [h1] at f0 f1 f2 f3 f4 f5 f6
  generalize hBB : w.heap.size = B at *
  go_enter Try.func8, Try.ntmps8
  rcases g0 : decide ((s.feeds.length : Int) ≤ 60) with _ | _
  · skip
    have g0' := of_decide_eq_false g0
    obtain rfl : false = r := by
      symm
      rw [Bool.eq_false_iff]
      intro e
      have hf := HR.out.1 e
      unfold FewN at hf
      omega
    go_wp2_with (fail)
    rw [← h1]
    go_ret
    exact ⟨rfl, HB.out⟩
  have g0' := of_decide_eq_true g0
  rcases g1 : decide ((s.brks.length : Int) ≤ 60) with _ | _
  · skip
    have g1' := of_decide_eq_false g1
    obtain rfl : false = r := by
      symm
      rw [Bool.eq_false_iff]
      intro e
      have hf := HR.out.1 e
      unfold FewN at hf
      omega
    go_wp2_with (fail)
    rw [← h1]
    go_ret
    exact ⟨rfl, HB.out⟩
  have g1' := of_decide_eq_true g1
  rcases g2 : decide ((s.loops.length : Int) ≤ 60) with _ | _
  · skip
    have g2' := of_decide_eq_false g2
    obtain rfl : false = r := by
      symm
      rw [Bool.eq_false_iff]
      intro e
      have hf := HR.out.1 e
      unfold FewN at hf
      omega
    go_wp2_with (fail)
    rw [← h1]
    go_ret
    exact ⟨rfl, HB.out⟩
  have g2' := of_decide_eq_true g2
  rcases g3 : decide ((s.racks.length : Int) ≤ 60) with _ | _
  · skip
    have g3' := of_decide_eq_false g3
    obtain rfl : false = r := by
      symm
      rw [Bool.eq_false_iff]
      intro e
      have hf := HR.out.1 e
      unfold FewN at hf
      omega
    go_wp2_with (fail)
    rw [← h1]
    go_ret
    exact ⟨rfl, HB.out⟩
  have g3' := of_decide_eq_true g3
  rcases g4 : decide ((s.links.length : Int) ≤ 10) with _ | _
  · skip
    have g4' := of_decide_eq_false g4
    obtain rfl : false = r := by
      symm
      rw [Bool.eq_false_iff]
      intro e
      have hf := HR.out.1 e
      unfold FewN at hf
      omega
    go_wp2_with (fail)
    rw [← h1]
    go_ret
    exact ⟨rfl, HB.out⟩
  have g4' := of_decide_eq_true g4
  rcases g5 : decide ((s.hosts.length : Int) ≤ 60) with _ | _
  · skip
    have g5' := of_decide_eq_false g5
    obtain rfl : false = r := by
      symm
      rw [Bool.eq_false_iff]
      intro e
      have hf := HR.out.1 e
      unfold FewN at hf
      omega
    go_wp2_with (fail)
    rw [← h1]
    go_ret
    exact ⟨rfl, HB.out⟩
  have g5' := of_decide_eq_true g5
  obtain rfl : true = r := (HR.out.2 (by unfold FewN; omega)).symm
  go_wp2_with (fail)
  rw [← h1]
  go_ret
  exact ⟨rfl, HB.out⟩
end Go.Proofs.Ytacdpklgnibkeaa

namespace Go.Proofs.Ytacdpklgnibkeaa
open Go.RowKit
set_option maxRecDepth 100000
set_option linter.unusedVariables false
set_option linter.unusedSimpArgs false

def exRk (k : Nat) : List Rk := (List.range k).map fun (i : Nat) => ⟨0, 0, 0, (i : Int)⟩
def exHs (k : Nat) : List Hs := (List.range k).map fun (i : Nat) => ⟨(i : Int), 1, 0, 0⟩
def exLk : List Lk := [⟨0, 1, 4⟩, ⟨1, 2, 1⟩, ⟨0, 2, 5⟩, ⟨0, 2, 7⟩]
def exD : SiteD := ⟨[0], [⟨0, 0, 0, 0⟩], [⟨0, 0⟩], exRk 3, 3, exLk, exHs 3⟩
theorem own_row_kept {X Y : World} {base : Nat} {e : TypeId} {size n : Nat} {v : Value} {xs : List Value} (h : X.ownsRow base e size v n xs) (hs : ∀ g cur, v.ownBlock = some g → X.heap[g]? = some (.cells cur e (0, 0)) → Y.heap[g]? = some (.cells cur e (0, 0))) : Y.ownsRow base e size v n xs := by
  obtain ⟨k1, h | ⟨g, cap, cur, rfl, k3, k4, k⟩⟩ := h
  · exact ⟨k1, .inl h⟩
  · exact ⟨k1, .inr ⟨g, cap, cur, rfl, k3, hs g cur rfl k4, k⟩⟩
theorem own_type {X : World} {base : Nat} {e : TypeId} {size n : Nat} {v : Value} {xs : List Value} (h : X.ownsRow base e size v n xs) {g : Nat} (hg : v.ownBlock = some g) : ∃ cur, X.heap[g]? = some (.cells cur e (0, 0)) := by
  obtain ⟨k1, ⟨rfl, -⟩ | ⟨g', cap, cur, rfl, k3, k4, k⟩⟩ := h
  · cases hg
  · have hg2 : some g' = some g := hg
    injection hg2 with hg2
    subst hg2
    exact ⟨cur, k4⟩
theorem cellsR_len {α : Type} {k : Nat} {F : α → Nat → Int} (l : List α) : (cellsR k F l).length = l.length * k := by
  induction l with
  | nil => simp [cellsR]
  | cons y l ih =>
    have e : cellsR k F (y :: l) = ((List.range k).map fun i => Value.int .i64 (F y i)) ++ cellsR k F l := rfl
    rw [e, List.length_append, ih, List.length_cons, Nat.succ_mul]
    simp; omega
/-- Rows of k numbers that a walk has made are a list in memory. -/
theorem own_rwk {α : Type} {k : Nat} {F : α → Nat → Int} {w : World} {base : Nat} {T : TypeId} {v : Value} {l : List α} (h : w.ownsRow base T k v l.length (cellsR k F l)) : ∃ A c, v = .slice A l.length c ∧ Rw k F w A c l := by
  have hc := h
  obtain ⟨k1, ⟨e, e2⟩ | ⟨g, cap, cur, e, k3, k4, k5, k6, k7, k8⟩⟩ := h
  · subst e
    obtain rfl : l = [] := List.eq_nil_of_length_eq_zero e2
    exact ⟨none, 0, rfl, Rw.nil _ _⟩
  · subst e
    refine ⟨some ⟨g, 0, none⟩, cap, rfl, k5, k6, fun _ => ⟨g, 0, rfl, at_lt k4, fun j x hj i hi => ?_⟩⟩
    have h1 := cellsR_at (F := F) hj i hi
    have h2 := (List.getElem?_eq_some_iff.1 h1).1
    have h3 : (cellsR k F l).length = l.length * k := by
      exact cellsR_len l
    have := hc.cellAt (j * k + i) (by rwa [h3] at h2)
    rw [show 0 + j * k + i = j * k + i by omega, this, h1]
theorem exRk_succ (k : Nat) : cellsR 4 rkF (exRk (k + 1)) = cellsR 4 rkF (exRk k) ++ [.int .i64 0, .int .i64 0, .int .i64 0, .int .i64 (k : Int)] := by
  unfold exRk cellsR
  rw [show List.range (k + 1) = List.range k ++ [k] from List.range_succ, List.map_append, List.flatMap_append]
  rfl
theorem exHs_succ (k : Nat) : cellsR 4 hsF (exHs (k + 1)) = cellsR 4 hsF (exHs k) ++ [.int .i64 (k : Int), .int .i64 1, .int .i64 0, .int .i64 0] := by
  unfold exHs cellsR
  rw [show List.range (k + 1) = List.range k ++ [k] from List.range_succ, List.map_append, List.flatMap_append]
  rfl
theorem rk_info : (Try.prog.info? 52).map (fun i => (i.zero, i.size, i.bytes)) = some (some (.agg #[.int .i64 0, .int .i64 0, .int .i64 0, .int .i64 0]), 4, 32) := by kernel_rfl
theorem hs_info : (Try.prog.info? 54).map (fun i => (i.zero, i.size, i.bytes)) = some (some (.agg #[.int .i64 0, .int .i64 0, .int .i64 0, .int .i64 0]), 4, 32) := by kernel_rfl
theorem four_one (a b c d : Int) : ∀ u ∈ ([.int .i64 a, .int .i64 b, .int .i64 c, .int .i64 d] : List Value), u.oneCell' = true := by intro u hu; simp at hu; rcases hu with rfl | rfl | rfl | rfl <;> rfl
structure ExSt (E X : World) (b : Nat) (c0 c1 c2 c5 : Value) (k1 k2 : Nat) (v1 v2 : Value) : Prop where
  bel : Below b E X
  box : X.heap[b]? = some (.cells #[c0, c1, c2, v1, .int .i64 3, c5, v2] 29 (0, 0))
  rk : X.ownsRow (b + 1) 52 4 v1 k1 (cellsR 4 rkF (exRk k1))
  hs : X.ownsRow (b + 1) 54 4 v2 k2 (cellsR 4 hsF (exHs k2))
def st7 (X : World) (g : Nat) (x0 x1 x2 x3 x4 x5 x6 : Value) : World := ((((((X.setCell ⟨g, 0, none⟩ x0).setCell ⟨g, 1, none⟩ x1).setCell ⟨g, 2, none⟩ x2).setCell ⟨g, 3, none⟩ x3).setCell ⟨g, 4, none⟩ x4).setCell ⟨g, 5, none⟩ x5).setCell ⟨g, 6, none⟩ x6
theorem st7_at {X : World} {g : Nat} {o0 o1 o2 o3 o4 o5 o6 x0 x1 x2 x3 x4 x5 x6 : Value} {T : TypeId} (h : X.heap[g]? = some (.cells #[o0, o1, o2, o3, o4, o5, o6] T (0, 0))) : (st7 X g x0 x1 x2 x3 x4 x5 x6).heap[g]? = some (.cells #[x0, x1, x2, x3, x4, x5, x6] T (0, 0)) := by
  have h0 : (X.setCell ⟨g, 0, none⟩ x0).heap[g]? = some (.cells #[x0, o1, o2, o3, o4, o5, o6] T (0, 0)) := set_field h x0
  have h1 : ((X.setCell ⟨g, 0, none⟩ x0).setCell ⟨g, 1, none⟩ x1).heap[g]? = some (.cells #[x0, x1, o2, o3, o4, o5, o6] T (0, 0)) := set_field h0 x1
  have h2 : (((X.setCell ⟨g, 0, none⟩ x0).setCell ⟨g, 1, none⟩ x1).setCell ⟨g, 2, none⟩ x2).heap[g]? = some (.cells #[x0, x1, x2, o3, o4, o5, o6] T (0, 0)) := set_field h1 x2
  have h3 : ((((X.setCell ⟨g, 0, none⟩ x0).setCell ⟨g, 1, none⟩ x1).setCell ⟨g, 2, none⟩ x2).setCell ⟨g, 3, none⟩ x3).heap[g]? = some (.cells #[x0, x1, x2, x3, o4, o5, o6] T (0, 0)) := set_field h2 x3
  have h4 : (((((X.setCell ⟨g, 0, none⟩ x0).setCell ⟨g, 1, none⟩ x1).setCell ⟨g, 2, none⟩ x2).setCell ⟨g, 3, none⟩ x3).setCell ⟨g, 4, none⟩ x4).heap[g]? = some (.cells #[x0, x1, x2, x3, x4, o5, o6] T (0, 0)) := set_field h3 x4
  have h5 : ((((((X.setCell ⟨g, 0, none⟩ x0).setCell ⟨g, 1, none⟩ x1).setCell ⟨g, 2, none⟩ x2).setCell ⟨g, 3, none⟩ x3).setCell ⟨g, 4, none⟩ x4).setCell ⟨g, 5, none⟩ x5).heap[g]? = some (.cells #[x0, x1, x2, x3, x4, x5, o6] T (0, 0)) := set_field h4 x5
  have h6 : (((((((X.setCell ⟨g, 0, none⟩ x0).setCell ⟨g, 1, none⟩ x1).setCell ⟨g, 2, none⟩ x2).setCell ⟨g, 3, none⟩ x3).setCell ⟨g, 4, none⟩ x4).setCell ⟨g, 5, none⟩ x5).setCell ⟨g, 6, none⟩ x6).heap[g]? = some (.cells #[x0, x1, x2, x3, x4, x5, x6] T (0, 0)) := set_field h5 x6
  exact h6
theorem st7_else {X : World} {g k : Nat} {o : Obj} {x0 x1 x2 x3 x4 x5 x6 : Value} (h : X.heap[k]? = some o) (hne : k ≠ g) : (st7 X g x0 x1 x2 x3 x4 x5 x6).heap[k]? = some o := by
  unfold st7
  exact set_else (set_else (set_else (set_else (set_else (set_else (set_else h hne) hne) hne) hne) hne) hne) hne
theorem st7_below {B g : Nat} {w X : World} {x0 x1 x2 x3 x4 x5 x6 : Value} (h : Below B w X) (hg : B ≤ g) : Below B w (st7 X g x0 x1 x2 x3 x4 x5 x6) := by
  unfold st7
  exact ((((((h.setCell hg _).setCell hg _).setCell hg _).setCell hg _).setCell hg _).setCell hg _).setCell hg _
theorem set_alloc_new (Z : World) (p : Addr) (v : Value) (o : Obj) : ((Z.setCell p v).alloc o).heap[Z.heap.size]? = some o := by
  have h := heap_alloc_new (Z.setCell p v) o
  rwa [show (Z.setCell p v).heap.size = Z.heap.size by simp [World.setCell]] at h
theorem grown_keeps {X Z : World} {o ob : Obj} {v : Value} {g : Nat} (hgrow : (X.alloc o).grownBy Z v.ownBlock) (h : X.heap[g]? = some ob) (hne : v.ownBlock ≠ some g) : Z.heap[g]? = some ob := by
  have hl := at_lt h
  rw [hgrow.block g (by simp; omega) (fun e => hne e.symm)]
  exact old_heap _ h
theorem ExSt.rack {E X Z : World} {b : Nat} {c0 c1 c2 c5 v1 v2 v' : Value} {k1 k2 : Nat} {o : Obj} (h : ExSt E X b c0 c1 c2 c5 k1 k2 v1 v2) (hgrow : (X.alloc o).grownBy Z v1.ownBlock)
    (hown : Z.ownsRow (b + 1) 52 4 v' (k1 + 1) (cellsR 4 rkF (exRk (k1 + 1)))) : Z.heap[b]? = some (.cells #[c0, c1, c2, v1, .int .i64 3, c5, v2] 29 (0, 0)) ∧ ExSt E (Z.setCell ⟨b, 3, none⟩ v') b c0 c1 c2 c5 (k1 + 1) k2 v' v2 := by
  have hl := at_lt h.box
  have hb := grown_keeps hgrow h.box (fun e => by have := (ownsRow_lt h.rk e).1; omega)
  refine ⟨hb, ((h.bel.alloc (by omega) o).grown hgrow (by simp; omega) (fun q e => by have := (ownsRow_lt h.rk e).1; omega)).setCell (Nat.le_refl _) _, set_field hb v', own_row_kept hown fun g cur hg hc => set_else hc (by have := (ownsRow_lt hown hg).1; omega), own_row_kept h.hs fun g cur hg hc => set_else (grown_keeps hgrow hc fun e => ?_) (by have := (ownsRow_lt h.hs hg).1; omega)⟩
  obtain ⟨cur2, hc2⟩ := own_type h.rk e
  rw [hc] at hc2
  injection hc2 with hc2
  injection hc2 with _ hc2 _
  exact absurd hc2 (by decide)
theorem ExSt.host {E X Z : World} {b : Nat} {c0 c1 c2 c5 v1 v2 v' : Value} {k1 k2 : Nat} {o : Obj} (h : ExSt E X b c0 c1 c2 c5 k1 k2 v1 v2) (hgrow : (X.alloc o).grownBy Z v2.ownBlock)
    (hown : Z.ownsRow (b + 1) 54 4 v' (k2 + 1) (cellsR 4 hsF (exHs (k2 + 1)))) : Z.heap[b]? = some (.cells #[c0, c1, c2, v1, .int .i64 3, c5, v2] 29 (0, 0)) ∧ ExSt E (Z.setCell ⟨b, 6, none⟩ v') b c0 c1 c2 c5 k1 (k2 + 1) v1 v' := by
  have hl := at_lt h.box
  have hb := grown_keeps hgrow h.box (fun e => by have := (ownsRow_lt h.hs e).1; omega)
  refine ⟨hb, ((h.bel.alloc (by omega) o).grown hgrow (by simp; omega) (fun q e => by have := (ownsRow_lt h.hs e).1; omega)).setCell (Nat.le_refl _) _, set_field hb v', own_row_kept h.rk fun g cur hg hc => set_else (grown_keeps hgrow hc fun e => ?_) (by have := (ownsRow_lt h.rk hg).1; omega), own_row_kept hown fun g cur hg hc => set_else hc (by have := (ownsRow_lt hown hg).1; omega)⟩
  obtain ⟨cur2, hc2⟩ := own_type h.hs e
  rw [hc] at hc2
  injection hc2 with hc2
  injection hc2 with _ hc2 _
  exact absurd hc2 (by decide)
theorem ret7 {fn : Func} {a : Act} {W : World} {R : Ending → World → Prop} {b i : Nat} {x0 x1 x2 x3 x4 x5 x6 : Value} (hfn : fn.results = #[.cell i 29]) (hp : a.tmps[i]?.getD undef = .pointer (some ⟨b, 0, none⟩)) (hd : a.defers = [])
    (h : W.heap[b]? = some (.cells #[x0, x1, x2, x3, x4, x5, x6] 29 (0, 0))) (hR : R (.returned (.agg #[x0, x1, x2, x3, x4, x5, x6])) W) : bodyPost Try.prog fn R .ret a W := by
  have c0 : W.cell? ⟨b, 0, none⟩ = some x0 := cell_of h rfl
  have c1 : W.cell? ⟨b, 1, none⟩ = some x1 := cell_of h rfl
  have c2 : W.cell? ⟨b, 2, none⟩ = some x2 := cell_of h rfl
  have c3 : W.cell? ⟨b, 3, none⟩ = some x3 := cell_of h rfl
  have c4 : W.cell? ⟨b, 4, none⟩ = some x4 := cell_of h rfl
  have c5 : W.cell? ⟨b, 5, none⟩ = some x5 := cell_of h rfl
  have c6 : W.cell? ⟨b, 6, none⟩ = some x6 := cell_of h rfl
  exact bodyPost_ret (v := .agg #[x0, x1, x2, x3, x4, x5, x6]) (by simp [results, hfn, hp, go_sem, c0, c1, c2, c3, c4, c5, c6]) hd hR
set_option maxHeartbeats 16000000 in
theorem c_example (w : World) : Calls Try.prog 19 #[] w fun e w' => ∃ p, e = .returned (siV p exD) ∧ SiAt w' p exD ∧ Below w.heap.size w w' := by
  obtain ⟨E0, h0⟩ : ∃ X, X = w.alloc (.cells #[.slice none 0 0, .slice none 0 0, .slice none 0 0, .slice none 0 0, .int .i64 0, .slice none 0 0, .slice none 0 0] 29) := ⟨_, rfl⟩
  obtain ⟨E1, h1⟩ : ∃ X, X = E0.alloc (.cells #[.int .i64 0] 57) := ⟨_, rfl⟩
  obtain ⟨E2, h2⟩ : ∃ X, X = E1.alloc (.cells #[.int .i64 0, .int .i64 0, .int .i64 0, .int .i64 0] 59) := ⟨_, rfl⟩
  obtain ⟨E3, h3⟩ : ∃ X, X = E2.alloc (.cells #[.int .i64 0, .int .i64 0] 61) := ⟨_, rfl⟩
  obtain ⟨E4, h4⟩ : ∃ X, X = E3.alloc (.cells #[.int .i64 0, .int .i64 1, .int .i64 4, .int .i64 1, .int .i64 2, .int .i64 1, .int .i64 0, .int .i64 2, .int .i64 5, .int .i64 0, .int .i64 2, .int .i64 7] 39) := ⟨_, rfl⟩
  obtain ⟨E5, h5⟩ : ∃ X, X = E4.alloc (.cells #[.slice (some ⟨w.heap.size + 1, 0, none⟩) 1 1, .slice (some ⟨w.heap.size + 1 + 1, 0, none⟩) 1 1, .slice (some ⟨w.heap.size + 1 + 1 + 1, 0, none⟩) 1 1, .slice none 0 0, .int .i64 3, .slice (some ⟨w.heap.size + 1 + 1 + 1 + 1, 0, none⟩) 4 4, .slice none 0 0] 29) := ⟨_, rfl⟩
  have z0 : E0.heap.size = w.heap.size + 1 := by rw [h0, World.size_alloc]
  have z1 : E1.heap.size = w.heap.size + 1 + 1 := by rw [h1, World.size_alloc, z0]
  have z2 : E2.heap.size = w.heap.size + 1 + 1 + 1 := by rw [h2, World.size_alloc, z1]
  have z3 : E3.heap.size = w.heap.size + 1 + 1 + 1 + 1 := by rw [h3, World.size_alloc, z2]
  have z4 : E4.heap.size = w.heap.size + 1 + 1 + 1 + 1 + 1 := by rw [h4, World.size_alloc, z3]
  have z5 : E5.heap.size = w.heap.size + 1 + 1 + 1 + 1 + 1 + 1 := by rw [h5, World.size_alloc, z4]
  have g0 : E0.heap[w.heap.size]? = some (.cells #[.slice none 0 0, .slice none 0 0, .slice none 0 0, .slice none 0 0, .int .i64 0, .slice none 0 0, .slice none 0 0] 29 (0, 0)) := by rw [h0]; exact heap_alloc_new _ _
  have G0 : E5.heap[w.heap.size]? = some (.cells #[.slice none 0 0, .slice none 0 0, .slice none 0 0, .slice none 0 0, .int .i64 0, .slice none 0 0, .slice none 0 0] 29 (0, 0)) := by rw [h5]; refine old_heap _ ?_; rw [h4]; refine old_heap _ ?_; rw [h3]; refine old_heap _ ?_; rw [h2]; refine old_heap _ ?_; rw [h1]; refine old_heap _ ?_; exact g0
  have g1 : E1.heap[w.heap.size + 1]? = some (.cells #[.int .i64 0] 57 (0, 0)) := by rw [← z0]; rw [h1]; exact heap_alloc_new _ _
  have G1 : E5.heap[w.heap.size + 1]? = some (.cells #[.int .i64 0] 57 (0, 0)) := by rw [h5]; refine old_heap _ ?_; rw [h4]; refine old_heap _ ?_; rw [h3]; refine old_heap _ ?_; rw [h2]; refine old_heap _ ?_; exact g1
  have g2 : E2.heap[w.heap.size + 1 + 1]? = some (.cells #[.int .i64 0, .int .i64 0, .int .i64 0, .int .i64 0] 59 (0, 0)) := by rw [← z1]; rw [h2]; exact heap_alloc_new _ _
  have G2 : E5.heap[w.heap.size + 1 + 1]? = some (.cells #[.int .i64 0, .int .i64 0, .int .i64 0, .int .i64 0] 59 (0, 0)) := by rw [h5]; refine old_heap _ ?_; rw [h4]; refine old_heap _ ?_; rw [h3]; refine old_heap _ ?_; exact g2
  have g3 : E3.heap[w.heap.size + 1 + 1 + 1]? = some (.cells #[.int .i64 0, .int .i64 0] 61 (0, 0)) := by rw [← z2]; rw [h3]; exact heap_alloc_new _ _
  have G3 : E5.heap[w.heap.size + 1 + 1 + 1]? = some (.cells #[.int .i64 0, .int .i64 0] 61 (0, 0)) := by rw [h5]; refine old_heap _ ?_; rw [h4]; refine old_heap _ ?_; exact g3
  have g4 : E4.heap[w.heap.size + 1 + 1 + 1 + 1]? = some (.cells #[.int .i64 0, .int .i64 1, .int .i64 4, .int .i64 1, .int .i64 2, .int .i64 1, .int .i64 0, .int .i64 2, .int .i64 5, .int .i64 0, .int .i64 2, .int .i64 7] 39 (0, 0)) := by rw [← z3]; rw [h4]; exact heap_alloc_new _ _
  have G4 : E5.heap[w.heap.size + 1 + 1 + 1 + 1]? = some (.cells #[.int .i64 0, .int .i64 1, .int .i64 4, .int .i64 1, .int .i64 2, .int .i64 1, .int .i64 0, .int .i64 2, .int .i64 5, .int .i64 0, .int .i64 2, .int .i64 7] 39 (0, 0)) := by rw [h5]; refine old_heap _ ?_; exact g4
  have g5 : E5.heap[w.heap.size + 1 + 1 + 1 + 1 + 1]? = some (.cells #[.slice (some ⟨w.heap.size + 1, 0, none⟩) 1 1, .slice (some ⟨w.heap.size + 1 + 1, 0, none⟩) 1 1, .slice (some ⟨w.heap.size + 1 + 1 + 1, 0, none⟩) 1 1, .slice none 0 0, .int .i64 3, .slice (some ⟨w.heap.size + 1 + 1 + 1 + 1, 0, none⟩) 4 4, .slice none 0 0] 29 (0, 0)) := by rw [← z4]; rw [h5]; exact heap_alloc_new _ _
  have G5 : E5.heap[w.heap.size + 1 + 1 + 1 + 1 + 1]? = some (.cells #[.slice (some ⟨w.heap.size + 1, 0, none⟩) 1 1, .slice (some ⟨w.heap.size + 1 + 1, 0, none⟩) 1 1, .slice (some ⟨w.heap.size + 1 + 1 + 1, 0, none⟩) 1 1, .slice none 0 0, .int .i64 3, .slice (some ⟨w.heap.size + 1 + 1 + 1 + 1, 0, none⟩) 4 4, .slice none 0 0] 29 (0, 0)) := by exact g5
  have BN : Below w.heap.size w E5 := by rw [h5]; refine Below.alloc ?_ (by omega) _; rw [h4]; refine Below.alloc ?_ (by omega) _; rw [h3]; refine Below.alloc ?_ (by omega) _; rw [h2]; refine Below.alloc ?_ (by omega) _; rw [h1]; refine Below.alloc ?_ (by omega) _; rw [h0]; exact (Below.refl _ _).alloc (Nat.le_refl _) _
  have HG := Lib.hid (And.intro G0 (And.intro G1 (And.intro G2 (And.intro G3 (And.intro G4 (G5))))))
  have HB := Lib.hid BN
  have HE := Lib.hid h5
  have HZ := Lib.hid z5
  clear BN g0 G0 z0 g1 G1 z1 g2 G2 z2 g3 G3 z3 g4 G4 z4 g5 G5 z5 h5
  subst h4 h3 h2 h1 h0
  obtain ⟨i1, hi1, hz1, hz2, hz3⟩ := info_parts rk_info
  obtain ⟨i2, hi2, hy1, hy2, hy3⟩ := info_parts hs_info
  go_enter Try.func19, Try.ntmps19
  go_wp2_with (fail)
  rw [← HE.out]
  clear HE
  obtain ⟨b, hb⟩ : ∃ b, w.heap.size + 1 + 1 + 1 + 1 + 1 = b := ⟨_, rfl⟩
  obtain ⟨G0, G1, G2, G3, G4, G5⟩ := HG.out
  have HZB := Lib.hid (show E5.heap.size = b + 1 by rw [HZ.out, hb])
  rw [hb] at G5
  have HS0 := Lib.hid (show ExSt E5 E5 b (.slice (some ⟨w.heap.size + 1, 0, none⟩) 1 1) (.slice (some ⟨w.heap.size + 1 + 1, 0, none⟩) 1 1) (.slice (some ⟨w.heap.size + 1 + 1 + 1, 0, none⟩) 1 1) (.slice (some ⟨w.heap.size + 1 + 1 + 1 + 1, 0, none⟩) 4 4) 0 0 (.slice none 0 0) (.slice none 0 0) from ⟨Below.refl _ _, G5, World.ownsRow_nil _ _ _ _, World.ownsRow_nil _ _ _ _⟩)
  have HA0 := Lib.hid G0; have HA1 := Lib.hid G1; have HA2 := Lib.hid G2; have HA3 := Lib.hid G3; have HA4 := Lib.hid G4
  have HWB := Lib.hid (show w.heap.size + 5 = b by rw [← hb])
  rw [hb]
  obtain ⟨P1, hP1⟩ : ∃ c, (some ⟨w.heap.size + 1, 0, none⟩ : Option Addr) = c := ⟨_, rfl⟩
  obtain ⟨P2, hP2⟩ : ∃ c, (some ⟨w.heap.size + 1 + 1, 0, none⟩ : Option Addr) = c := ⟨_, rfl⟩
  obtain ⟨P3, hP3⟩ : ∃ c, (some ⟨w.heap.size + 1 + 1 + 1, 0, none⟩ : Option Addr) = c := ⟨_, rfl⟩
  obtain ⟨P5, hP5⟩ : ∃ c, (some ⟨w.heap.size + 1 + 1 + 1 + 1, 0, none⟩ : Option Addr) = c := ⟨_, rfl⟩
  rw [hP1, hP2, hP3, hP5] at HS0
  have HC0 := Lib.hid hP1; have HC1 := Lib.hid hP2; have HC2 := Lib.hid hP3; have HC5 := Lib.hid hP5
  clear hb hP1 hP2 hP3 hP5 G0 G1 G2 G3 G4 G5
  go_loopw [2] (fun i wr => ∃ (k : Nat) (v1 v2 : Value), k ≤ 3 ∧ i = .int .i64 (k : Int) ∧ Hid (ExSt E5 wr b (.slice P1 1 1) (.slice P2 1 1) (.slice P3 1 1) (.slice P5 4 4) k k v1 v2)) (fun i _ => 3 - (intOf i).toNat)
  case atStart => exact ⟨0, _, _, Nat.zero_le _, rfl, HS0⟩
  case round =>
    obtain ⟨k, v1, v2, hk, rfl, hS⟩ := hrel
    have hki : ((k : Nat) : Int).toNat = k := by omega
    obtain ⟨A1, d1, rfl⟩ := own_shape hS.out.rk
    obtain ⟨A2, d2, rfl⟩ := own_shape hS.out.hs
    have x0 := cell_of hS.out.box (o := 0) rfl
    have x1 := cell_of hS.out.box (o := 1) rfl
    have x2 := cell_of hS.out.box (o := 2) rfl
    have x3 := cell_of hS.out.box (o := 3) rfl
    have x4 := cell_of hS.out.box (o := 4) rfl
    have x5 := cell_of hS.out.box (o := 5) rfl
    have x6 := cell_of hS.out.box (o := 6) rfl
    by_cases hlt : k < 3
    · have hk3 : (k : Int) < 3 := by omega
      have HBL := hS.out.bel.size
      have HBS := at_lt hS.out.box
      go_wp2_with (first
        | (at_builtin; refine wpList_append_lies _ rfl _ _ 25 rfl (b + 1) 52 i1 (.agg #[.int .i64 0, .int .i64 0, .int .i64 0, .int .i64 0]) 4 32 Try.underlying25 hi1 hz1 hz2 hz3 rfl (by decide) (.slice A1 k d1) k _ rfl (hS.out.rk.alloc _) ⟨wr.heap.size, 0, none⟩ 1 1 [.int .i64 0, .int .i64 0, .int .i64 0, .int .i64 (k : Int)] rfl rfl (World.news_of_block (heap_alloc_new _ _)) (four_one _ _ _ _) (by decide) (by unfold maxLen; omega) (by omega) (by simp; omega) (wr.heap.size + 1) (by simp) ?_; intro g4 cap4 Z hown hgrow _ _; rw [← exRk_succ] at hown; have HP := Lib.hid (ExSt.rack hS.out hgrow hown); have p3 := cell_of HP.out.1 (o := 3) rfl; have p6 := cell_of HP.out.1 (o := 6) rfl; have p9 := frz HP.out.1 3; have HBZ := at_lt HP.out.1; clear hown hgrow)
        | (at_builtin; (refine wpList_append_lies _ rfl _ _ 27 rfl (b + 1) 54 i2 (.agg #[.int .i64 0, .int .i64 0, .int .i64 0, .int .i64 0]) 4 32 Try.underlying27 hi2 hy1 hy2 hy3 rfl (by decide) (.slice A2 k d2) k _ rfl (HP.out.2.hs.alloc _) ⟨Z.heap.size, 0, none⟩ 1 1 [.int .i64 (k : Int), .int .i64 1, .int .i64 0, .int .i64 0] rfl rfl (World.news_of_block (set_alloc_new Z _ _ _)) (four_one _ _ _ _) (by decide) (by unfold maxLen; omega) (by omega) (by simp [World.setCell]; omega) (Z.heap.size + 1) (by simp [World.setCell]) ?_); intro g5 cap5 Y hown hgrow _ _; rw [← exHs_succ] at hown; have HQ := Lib.hid (ExSt.host HP.out.2 hgrow hown); have q6 := cell_of HQ.out.1 (o := 6) rfl; have q9 := frz HQ.out.1 6; clear hown hgrow))
      go_roundw
      case rel => exact ⟨k + 1, _, _, by omega, by go_num, Lib.hid HQ.out.2⟩
      case measure => simp only [intOf]; omega
    · obtain rfl : k = 3 := by omega
      have hwb := HWB.out
      have hb0 := (hS.out.bel.block w.heap.size (by omega)).trans HA0.out
      have hb1 := (hS.out.bel.block (w.heap.size + 1) (by omega)).trans HA1.out
      have hb2 := (hS.out.bel.block (w.heap.size + 1 + 1) (by omega)).trans HA2.out
      have hb3 := (hS.out.bel.block (w.heap.size + 1 + 1 + 1) (by omega)).trans HA3.out
      have hb4 := (hS.out.bel.block (w.heap.size + 1 + 1 + 1 + 1) (by omega)).trans HA4.out
      obtain ⟨U, hU⟩ : ∃ U, U = st7 wr w.heap.size (.slice P1 1 1) (.slice P2 1 1) (.slice P3 1 1) (.slice A1 3 d1) (.int .i64 3) (.slice P5 4 4) (.slice A2 3 d2) := ⟨_, rfl⟩
      have r1 : U.ownsRow (b + 1) 52 4 (.slice A1 3 d1) (exRk 3).length (cellsR 4 rkF (exRk 3)) := by rw [hU]; exact own_row_kept hS.out.rk fun g cur hg hc => st7_else hc (by have := (ownsRow_lt hS.out.rk hg).1; omega)
      have r2 : U.ownsRow (b + 1) 54 4 (.slice A2 3 d2) (exHs 3).length (cellsR 4 hsF (exHs 3)) := by rw [hU]; exact own_row_kept hS.out.hs fun g cur hg hc => st7_else hc (by have := (ownsRow_lt hS.out.hs hg).1; omega)
      have HR1 := Lib.hid (own_rwk r1)
      have HR2 := Lib.hid (own_rwk r2)
      have HU0 := Lib.hid (show U.heap[w.heap.size]? = some (.cells #[.slice P1 1 1, .slice P2 1 1, .slice P3 1 1, .slice A1 3 d1, .int .i64 3, .slice P5 4 4, .slice A2 3 d2] 29 (0, 0)) by rw [hU]; exact st7_at hb0)
      have hE : ∀ (k : Nat) (o : Obj), wr.heap[k]? = some o → k ≠ w.heap.size → U.heap[k]? = some o := by rw [hU]; exact fun k o h hne => st7_else h hne
      have HU1 := Lib.hid (hE _ _ hb1 (by omega))
      have HU2 := Lib.hid (hE _ _ hb2 (by omega))
      have HU3 := Lib.hid (hE _ _ hb3 (by omega))
      have HU4 := Lib.hid (hE _ _ hb4 (by omega))
      have HUB := Lib.hid (show Below w.heap.size w U by rw [hU]; exact st7_below (below_join HB.out hS.out.bel (by omega)) (Nat.le_refl _))
      have HU := Lib.hid hU
      have z0 := cell_of hb0 (o := 0) rfl
      have z1 := cell_of hb0 (o := 1) rfl
      have z2 := cell_of hb0 (o := 2) rfl
      have z3 := cell_of hb0 (o := 3) rfl
      have z4 := cell_of hb0 (o := 4) rfl
      have z5 := cell_of hb0 (o := 5) rfl
      have z6 := cell_of hb0 (o := 6) rfl
      have y0 := frz hb0 0; have y1 := frz hb0 1; have y2 := frz hb0 2; have y3 := frz hb0 3; have y4 := frz hb0 4; have y5 := frz hb0 5; have y6 := frz hb0 6
      clear hb0 hb1 hb2 hb3 hb4 r1 r2 hU hwb hE
      go_wp2_with (fail)
      rw [show ((((((wr.setCell ⟨w.heap.size, 0, none⟩ (.slice P1 1 1)).setCell ⟨w.heap.size, 1, none⟩ (.slice P2 1 1)).setCell ⟨w.heap.size, 2, none⟩ (.slice P3 1 1)).setCell ⟨w.heap.size, 3, none⟩ (.slice A1 3 d1)).setCell ⟨w.heap.size, 4, none⟩ (.int .i64 3)).setCell ⟨w.heap.size, 5, none⟩ (.slice P5 4 4)).setCell ⟨w.heap.size, 6, none⟩ (.slice A2 3 d2) = U from HU.out.symm]
      obtain ⟨A1', d1', e1, hr1⟩ := HR1.out
      obtain ⟨A2', d2', e2, hr2⟩ := HR2.out
      injection e1 with e1 _ e3
      injection e2 with e2 _ e4
      subst e1 e2 e3 e4
      refine ret7 (i := 0) (b := w.heap.size) rfl rfl rfl HU0.out ⟨⟨some ⟨w.heap.size + 1, 0, none⟩, 1, some ⟨w.heap.size + 1 + 1, 0, none⟩, 1, some ⟨w.heap.size + 1 + 1 + 1, 0, none⟩, 1, A1, d1, some ⟨w.heap.size + 1 + 1 + 1 + 1, 0, none⟩, 4, A2, d2⟩, ?_, ⟨?_, ?_, ?_, hr1, ?_, hr2⟩, HUB.out⟩
      · rw [← HC0.out, ← HC1.out, ← HC2.out, ← HC5.out]; rfl
      · exact rw_block (α := Int) (k := 1) (F := inF) (l := [0]) HU1.out (by simp [maxLen])
      · exact rw_block (α := Brk) (k := 4) (F := brkF) (l := [⟨0, 0, 0, 0⟩]) HU2.out (by simp [maxLen])
      · exact rw_block (α := Lp) (k := 2) (F := lpF) (l := [⟨0, 0⟩]) HU3.out (by simp [maxLen])
      · exact rw_block (α := Lk) (k := 3) (F := lkF) (l := exLk) HU4.out (by simp [maxLen, exLk])
end Go.Proofs.Ytacdpklgnibkeaa

namespace Go.Proofs.Ytacdpklgnibkeaa
open Go.RowKit
set_option maxRecDepth 100000
set_option linter.unusedVariables false
set_option linter.unusedSimpArgs false

theorem c_neWayTo (p : SP) (s : SiteD) (a b : Int) (l : List Int) (hl : nats (wyI s a b) = l) (w : World) (h : SiAt w p s) :
    Calls Try.prog 15 #[.agg #[.slice p.a1 s.feeds.length p.c1, .slice p.a2 s.brks.length p.c2, .slice p.a3 s.loops.length p.c3, .slice p.a4 s.racks.length p.c4, .int .i64 s.sw, .slice p.a5 s.links.length p.c5, .slice p.a6 s.hosts.length p.c6], .int .i64 a, .int .i64 b] w fun e w' => ∃ A c, e = .returned (.slice A l.length c) ∧ Rw 1 inF w' A c l ∧ Below w.heap.size w w' := by
  subst hl
  refine (c_neWay p s a b _ rfl w h).mono ?_
  rintro e w' ⟨v, rfl, ho, hb⟩
  obtain ⟨A, c, rfl, hr⟩ := own_rw ho
  exact ⟨A, c, rfl, hr, hb⟩
theorem c_nrWayTo (p : SP) (s : SiteD) (a b : Int) (l : List Int) (hl : nats (wyI s a b) = l) (w : World) (h : SiAt w p s) :
    Calls Try.prog 16 #[.agg #[.slice p.a1 s.feeds.length p.c1, .slice p.a2 s.brks.length p.c2, .slice p.a3 s.loops.length p.c3, .slice p.a4 s.racks.length p.c4, .int .i64 s.sw, .slice p.a5 s.links.length p.c5, .slice p.a6 s.hosts.length p.c6], .int .i64 a, .int .i64 b] w fun e w' => ∃ A c, e = .returned (.slice A l.length c) ∧ Rw 1 inF w' A c l ∧ Below w.heap.size w w' := by
  subst hl
  refine (c_nrWay p s a b _ rfl w h).mono ?_
  rintro e w' ⟨v, rfl, ho, hb⟩
  obtain ⟨A, c, rfl, hr⟩ := own_rw ho
  exact ⟨A, c, rfl, hr, hb⟩
theorem c_neWithinTo (p : SP) (s : SiteD) (a b : Int) (l : List Int) (hl : nats (witI s a b) = l) (w : World) (h : SiAt w p s) :
    Calls Try.prog 17 #[.agg #[.slice p.a1 s.feeds.length p.c1, .slice p.a2 s.brks.length p.c2, .slice p.a3 s.loops.length p.c3, .slice p.a4 s.racks.length p.c4, .int .i64 s.sw, .slice p.a5 s.links.length p.c5, .slice p.a6 s.hosts.length p.c6], .int .i64 a, .int .i64 b] w fun e w' => ∃ A c, e = .returned (.slice A l.length c) ∧ Rw 1 inF w' A c l ∧ Below w.heap.size w w' := by
  subst hl
  refine (c_neWithin p s a b _ rfl w h).mono ?_
  rintro e w' ⟨v, rfl, ho, hb⟩
  obtain ⟨A, c, rfl, hr⟩ := own_rw ho
  exact ⟨A, c, rfl, hr, hb⟩
theorem c_nrWithinTo (p : SP) (s : SiteD) (h60 : s.hosts.length ≤ 60) (a b : Int) (l : List Int) (hl : nats (witI s a b) = l) (w : World) (h : SiAt w p s) :
    Calls Try.prog 18 #[.agg #[.slice p.a1 s.feeds.length p.c1, .slice p.a2 s.brks.length p.c2, .slice p.a3 s.loops.length p.c3, .slice p.a4 s.racks.length p.c4, .int .i64 s.sw, .slice p.a5 s.links.length p.c5, .slice p.a6 s.hosts.length p.c6], .int .i64 a, .int .i64 b] w fun e w' => ∃ A c, e = .returned (.slice A l.length c) ∧ Rw 1 inF w' A c l ∧ Below w.heap.size w w' := by
  subst hl
  refine (c_nrWithin p s h60 a b _ rfl w h).mono ?_
  rintro e w' ⟨v, rfl, ho, hb⟩
  obtain ⟨A, c, rfl, hr⟩ := own_rw ho
  exact ⟨A, c, rfl, hr, hb⟩
theorem c_neDistanceTo (p : SP) (s : SiteD) (a b r : Int) (hr : distI s a b = r) (w : World) (h : SiAt w p s) :
    Calls Try.prog 10 #[.agg #[.slice p.a1 s.feeds.length p.c1, .slice p.a2 s.brks.length p.c2, .slice p.a3 s.loops.length p.c3, .slice p.a4 s.racks.length p.c4, .int .i64 s.sw, .slice p.a5 s.links.length p.c5, .slice p.a6 s.hosts.length p.c6], .int .i64 a, .int .i64 b] w fun e w' => e = .returned (.int .i64 r) ∧ Below w.heap.size w w' := c_neDistance p s a b r hr w h
theorem c_neLatencyTo (p : SP) (s : SiteD) (a b r : Int) (hr : latI s a b = r) (w : World) (h : SiAt w p s) :
    Calls Try.prog 12 #[.agg #[.slice p.a1 s.feeds.length p.c1, .slice p.a2 s.brks.length p.c2, .slice p.a3 s.loops.length p.c3, .slice p.a4 s.racks.length p.c4, .int .i64 s.sw, .slice p.a5 s.links.length p.c5, .slice p.a6 s.hosts.length p.c6], .int .i64 a, .int .i64 b] w fun e w' => e = .returned (.int .i64 r) ∧ Below w.heap.size w w' := c_neLatencyI p s a b r hr w h
theorem c_nrDistanceTo (p : SP) (s : SiteD) (a b r : Int) (hr : distI s a b = r) (w : World) (h : SiAt w p s) :
    Calls Try.prog 11 #[.agg #[.slice p.a1 s.feeds.length p.c1, .slice p.a2 s.brks.length p.c2, .slice p.a3 s.loops.length p.c3, .slice p.a4 s.racks.length p.c4, .int .i64 s.sw, .slice p.a5 s.links.length p.c5, .slice p.a6 s.hosts.length p.c6], .int .i64 a, .int .i64 b] w fun e w' => e = .returned (.int .i64 r) ∧ Below w.heap.size w w' := c_nrDistance p s a b r hr w h
theorem c_nrLatencyTo (p : SP) (s : SiteD) (a b r : Int) (hr : latI s a b = r) (w : World) (h : SiAt w p s) :
    Calls Try.prog 13 #[.agg #[.slice p.a1 s.feeds.length p.c1, .slice p.a2 s.brks.length p.c2, .slice p.a3 s.loops.length p.c3, .slice p.a4 s.racks.length p.c4, .int .i64 s.sw, .slice p.a5 s.links.length p.c5, .slice p.a6 s.hosts.length p.c6], .int .i64 a, .int .i64 b] w fun e w' => e = .returned (.int .i64 r) ∧ Below w.heap.size w w' := c_nrLatency p s a b r hr w h
theorem dS_of {s : SiteD} (hs : siteOk s = true) {a b : Nat} (ha : a < nS s) (hb : b < nS s) {l : List Nat} {m : Int} (h : bst (nS s) (lkN s) b (nS s - 1) [a] a = some (l, m)) : dS s a b = m ∧ wayV (nS s) (lkN s) a b = l := by
  by_cases hd : 0 ≤ dS s a b
  · rw [bst_way (sk hs).1 ha hb hd] at h
    injection h with h
    injection h with h1 h2
    exact ⟨h2, h1⟩
  · rw [bst_noway (sk hs).1 (show dV (nS s) (lkN s) a b < 0 by unfold dS at hd; omega)] at h
    cases h
theorem ex_ok : siteOk exD = true := by decide +kernel
theorem ex_02 : dS exD 0 2 = 5 ∧ wayV (nS exD) (lkN exD) 0 2 = [1, 2] := dS_of ex_ok (by decide) (by decide) (by decide +kernel)
theorem ex_20 : dS exD 2 0 = 5 := (dS_of ex_ok (by decide) (by decide) (show bst (nS exD) (lkN exD) 0 (nS exD - 1) [2] 2 = some ([0], 5) by decide +kernel)).1
theorem ex_10 : dS exD 1 0 = 4 := (dS_of ex_ok (by decide) (by decide) (show bst (nS exD) (lkN exD) 0 (nS exD - 1) [1] 1 = some ([0], 4) by decide +kernel)).1
theorem ex_11 : dS exD 1 1 = 0 ∧ wayV (nS exD) (lkN exD) 1 1 = [] := dS_of ex_ok (by decide) (by decide) (by decide +kernel)
theorem ex_12 : dS exD 1 2 = 1 := (dS_of ex_ok (by decide) (by decide) (show bst (nS exD) (lkN exD) 2 (nS exD - 1) [1] 1 = some ([2], 1) by decide +kernel)).1
theorem exI_02 : distI exD 0 2 = 5 := (distI_is ex_ok (a := 0) (b := 2) (by decide) (by decide)).trans ex_02.1
theorem exI_20 : distI exD 2 0 = 5 := (distI_is ex_ok (a := 2) (b := 0) (by decide) (by decide)).trans ex_20
theorem exI_11 : distI exD 1 1 = 0 := (distI_is ex_ok (a := 1) (b := 1) (by decide) (by decide)).trans ex_11.1
theorem exI_03 : distI exD 0 3 = -1 := by unfold distI; rw [if_neg (by rintro ⟨-, -, h⟩; exact absurd h (by decide))]
theorem ex_sw (k : Nat) (hk : k < 3) : swOf exD k = k := by
  rcases (by omega : k = 0 ∨ k = 1 ∨ k = 2) with rfl | rfl | rfl <;> decide +kernel
theorem laS_02 : laS exD 0 2 = 6 := by unfold laS; rw [ex_sw 0 (by decide), ex_sw 2 (by decide), ex_02.1]; decide
theorem laS_00 : laS exD 0 0 = 0 := by unfold laS; rw [if_pos rfl]
theorem laS_10 : laS exD 1 0 = 5 := by unfold laS; rw [ex_sw 0 (by decide), ex_sw 1 (by decide), ex_10]; decide
theorem laS_11 : laS exD 1 1 = 0 := by unfold laS; rw [if_pos rfl]
theorem laS_12 : laS exD 1 2 = 2 := by unfold laS; rw [ex_sw 1 (by decide), ex_sw 2 (by decide), ex_12]; decide
theorem exI_l02 : latI exD 0 2 = 6 := (latI_is ex_ok (a := 0) (b := 2) (by decide) (by decide)).trans laS_02
theorem exI_l00 : latI exD 0 0 = 0 := (latI_is ex_ok (a := 0) (b := 0) (by decide) (by decide)).trans laS_00
theorem exI_l12 : latI exD 1 2 = 2 := (latI_is ex_ok (a := 1) (b := 2) (by decide) (by decide)).trans laS_12
theorem exI_l30 : latI exD 3 0 = -1 := by unfold latI; rw [if_neg (by rintro ⟨-, h, -⟩; exact absurd h (by decide))]
theorem exI_w02 : nats (wyI exD 0 2) = [0, 1, 2] := by
  unfold wyI
  rw [exI_02, if_pos (by decide)]
  show nats (0 :: wayV (nS exD) (lkN exD) 0 2) = _
  rw [ex_02.2]; rfl
theorem exI_w11 : nats (wyI exD 1 1) = [1] := by
  unfold wyI
  rw [exI_11, if_pos (by decide)]
  show nats (1 :: wayV (nS exD) (lkN exD) 1 1) = _
  rw [ex_11.2]; rfl
theorem wiL_3 (most : Int) : wiL exD 1 most 3 = (if wiF exD 1 most 0 then [0] else []) ++ (if wiF exD 1 most 1 then [1] else []) ++ (if wiF exD 1 most 2 then [2] else []) := by
  rw [wiL_succ, wiL_succ, wiL_succ]; rfl
theorem exI_i12 : nats (witI exD 1 2) = [1, 2] := by
  unfold witI
  rw [if_pos ⟨ex_ok, by decide⟩]
  show nats (wiL exD 1 2 3) = _
  rw [wiL_3]
  unfold wiF
  rw [laS_10, laS_11, laS_12]
  decide
theorem exI_i1m : nats (witI exD 1 (-1)) = [] := by
  unfold witI
  rw [if_pos ⟨ex_ok, by decide⟩]
  show nats (wiL exD 1 (-1) 3) = _
  rw [wiL_3]
  unfold wiF
  rw [laS_10, laS_11, laS_12]
  decide
theorem exI_i39 : nats (witI exD 3 9) = [] := by unfold witI; rw [if_neg (by rintro ⟨-, h⟩; exact absurd h (by decide))]; rfl
theorem c_exampleTo (w : World) : Calls Try.prog 19 #[] w fun e w' => ∃ p, e = .returned (.agg #[.slice p.a1 1 p.c1, .slice p.a2 1 p.c2, .slice p.a3 1 p.c3, .slice p.a4 3 p.c4, .int .i64 3, .slice p.a5 4 p.c5, .slice p.a6 3 p.c6]) ∧ SiAt w' p exD ∧ Below w.heap.size w w' := c_example w
set_option maxHeartbeats 32000000 in
theorem c_live (w : World) : Calls Try.prog 9 #[] w fun e w' => e = .returned (.bool true) ∧ Below w.heap.size w w' := by
  have HKw := Lib.hid (Below.refl w.heap.size w)
  go_enter Try.func9, Try.ntmps9
  go_wp2_with (fail)
  go_at_call 19
  refine (c_exampleTo w).mono ?_
  rintro e v1 ⟨p1, rfl, ha, bb⟩
  have HKv1 := Lib.hid (below_join HKw.out bb HKw.out.size)
  have HS1v1 := Lib.hid ha; clear ha
  clear bb
  go_wp2_with (fail)
  go_at_call 10
  refine (show Calls Try.prog 10 #[.agg #[.slice p1.a1 1 p1.c1, .slice p1.a2 1 p1.c2, .slice p1.a3 1 p1.c3, .slice p1.a4 3 p1.c4, .int .i64 3, .slice p1.a5 4 p1.c5, .slice p1.a6 3 p1.c6], .int .i64 0, .int .i64 2] v1 fun e w' => e = .returned (.int .i64 5) ∧ Below v1.heap.size v1 w' from c_neDistanceTo p1 exD 0 2 5 exI_02 v1 HS1v1.out).mono ?_
  rintro e v2 ⟨rfl, bb⟩
  have HKv2 := Lib.hid (below_join HKv1.out bb HKv1.out.size)
  have HS1v2 := Lib.hid (HS1v1.out.on bb (Nat.le_refl _))
  clear bb
  go_wp2_with (fail)
  go_at_call 19
  refine (c_exampleTo v2).mono ?_
  rintro e v3 ⟨p2, rfl, ha, bb⟩
  have HKv3 := Lib.hid (below_join HKv2.out bb HKv2.out.size)
  have HS1v3 := Lib.hid (HS1v2.out.on bb (Nat.le_refl _))
  have HS2v3 := Lib.hid ha; clear ha
  clear bb
  go_wp2_with (fail)
  go_at_call 12
  refine (show Calls Try.prog 12 #[.agg #[.slice p2.a1 1 p2.c1, .slice p2.a2 1 p2.c2, .slice p2.a3 1 p2.c3, .slice p2.a4 3 p2.c4, .int .i64 3, .slice p2.a5 4 p2.c5, .slice p2.a6 3 p2.c6], .int .i64 0, .int .i64 2] v3 fun e w' => e = .returned (.int .i64 6) ∧ Below v3.heap.size v3 w' from c_neLatencyTo p2 exD 0 2 6 exI_l02 v3 HS2v3.out).mono ?_
  rintro e v4 ⟨rfl, bb⟩
  have HKv4 := Lib.hid (below_join HKv3.out bb HKv3.out.size)
  have HS1v4 := Lib.hid (HS1v3.out.on bb (Nat.le_refl _))
  have HS2v4 := Lib.hid (HS2v3.out.on bb (Nat.le_refl _))
  clear bb
  go_wp2_with (fail)
  go_at_call 19
  refine (c_exampleTo v4).mono ?_
  rintro e v5 ⟨p3, rfl, ha, bb⟩
  have HKv5 := Lib.hid (below_join HKv4.out bb HKv4.out.size)
  have HS1v5 := Lib.hid (HS1v4.out.on bb (Nat.le_refl _))
  have HS2v5 := Lib.hid (HS2v4.out.on bb (Nat.le_refl _))
  have HS3v5 := Lib.hid ha; clear ha
  clear bb
  go_wp2_with (fail)
  go_at_call 15
  refine (show Calls Try.prog 15 #[.agg #[.slice p3.a1 1 p3.c1, .slice p3.a2 1 p3.c2, .slice p3.a3 1 p3.c3, .slice p3.a4 3 p3.c4, .int .i64 3, .slice p3.a5 4 p3.c5, .slice p3.a6 3 p3.c6], .int .i64 0, .int .i64 2] v5 fun e w' => ∃ A c, e = .returned (.slice A (3 : Nat) c) ∧ Rw 1 inF w' A c [(0 : Int), (1 : Int), (2 : Int)] ∧ Below v5.heap.size v5 w' from c_neWayTo p3 exD 0 2 _ exI_w02 v5 HS3v5.out).mono ?_
  rintro e v6 ⟨A1, q1, rfl, hy, bb⟩
  have HKv6 := Lib.hid (below_join HKv5.out bb HKv5.out.size)
  have HS1v6 := Lib.hid (HS1v5.out.on bb (Nat.le_refl _))
  have HS2v6 := Lib.hid (HS2v5.out.on bb (Nat.le_refl _))
  have HS3v6 := Lib.hid (HS3v5.out.on bb (Nat.le_refl _))
  have HYv6 := Lib.hid hy; clear hy
  clear bb
  obtain ⟨X7, hX7⟩ : ∃ X, X = v6.alloc (.cells #[.int .i64 0, .int .i64 1, .int .i64 2] 3) := ⟨_, rfl⟩
  have b7 : Below v6.heap.size v6 X7 := by subst hX7; exact (Below.refl _ _).alloc (Nat.le_refl _) _
  have HKX7 := Lib.hid (below_join HKv6.out b7 HKv6.out.size)
  have HS1X7 := Lib.hid (HS1v6.out.on b7 (Nat.le_refl _))
  have HS2X7 := Lib.hid (HS2v6.out.on b7 (Nat.le_refl _))
  have HS3X7 := Lib.hid (HS3v6.out.on b7 (Nat.le_refl _))
  have HYX7 := Lib.hid (HYv6.out.on b7 (Nat.le_refl _))
  have RLX7 := Lib.hid (show Rw 1 inF X7 (some ⟨v6.heap.size, 0, none⟩) 3 [(0 : Int), (1 : Int), (2 : Int)] by subst hX7; exact rw_lit [(0 : Int), (1 : Int), (2 : Int)] (by simp [maxLen]) _)
  clear b7
  go_wp2_with (fail)
  rw [← hX7]
  clear hX7
  go_at_call 14
  refine (c_Ints A1 (some ⟨v6.heap.size, 0, none⟩) q1 3 [(0 : Int), (1 : Int), (2 : Int)] [(0 : Int), (1 : Int), (2 : Int)] X7 HYX7.out RLX7.out true (decide_eq_true rfl)).mono ?_
  rintro e v8 ⟨rfl, bb⟩
  have HKv8 := Lib.hid (below_join HKX7.out bb HKX7.out.size)
  have HS1v8 := Lib.hid (HS1X7.out.on bb (Nat.le_refl _))
  have HS2v8 := Lib.hid (HS2X7.out.on bb (Nat.le_refl _))
  have HS3v8 := Lib.hid (HS3X7.out.on bb (Nat.le_refl _))
  have HYv8 := Lib.hid (HYX7.out.on bb (Nat.le_refl _))
  have RLv8 := Lib.hid (RLX7.out.on bb (Nat.le_refl _))
  clear bb
  go_wp2_with (fail)
  go_at_call 19
  refine (c_exampleTo v8).mono ?_
  rintro e v9 ⟨p4, rfl, ha, bb⟩
  have HKv9 := Lib.hid (below_join HKv8.out bb HKv8.out.size)
  have HS1v9 := Lib.hid (HS1v8.out.on bb (Nat.le_refl _))
  have HS2v9 := Lib.hid (HS2v8.out.on bb (Nat.le_refl _))
  have HS3v9 := Lib.hid (HS3v8.out.on bb (Nat.le_refl _))
  have HS4v9 := Lib.hid ha; clear ha
  clear bb
  go_wp2_with (fail)
  go_at_call 17
  refine (show Calls Try.prog 17 #[.agg #[.slice p4.a1 1 p4.c1, .slice p4.a2 1 p4.c2, .slice p4.a3 1 p4.c3, .slice p4.a4 3 p4.c4, .int .i64 3, .slice p4.a5 4 p4.c5, .slice p4.a6 3 p4.c6], .int .i64 1, .int .i64 2] v9 fun e w' => ∃ A c, e = .returned (.slice A (2 : Nat) c) ∧ Rw 1 inF w' A c [(1 : Int), (2 : Int)] ∧ Below v9.heap.size v9 w' from c_neWithinTo p4 exD 1 2 _ exI_i12 v9 HS4v9.out).mono ?_
  rintro e v10 ⟨A1, q1, rfl, hy, bb⟩
  have HKv10 := Lib.hid (below_join HKv9.out bb HKv9.out.size)
  have HS1v10 := Lib.hid (HS1v9.out.on bb (Nat.le_refl _))
  have HS2v10 := Lib.hid (HS2v9.out.on bb (Nat.le_refl _))
  have HS3v10 := Lib.hid (HS3v9.out.on bb (Nat.le_refl _))
  have HS4v10 := Lib.hid (HS4v9.out.on bb (Nat.le_refl _))
  have HYv10 := Lib.hid hy; clear hy
  clear bb
  obtain ⟨X11, hX11⟩ : ∃ X, X = v10.alloc (.cells #[.int .i64 1, .int .i64 2] 3) := ⟨_, rfl⟩
  have b11 : Below v10.heap.size v10 X11 := by subst hX11; exact (Below.refl _ _).alloc (Nat.le_refl _) _
  have HKX11 := Lib.hid (below_join HKv10.out b11 HKv10.out.size)
  have HS1X11 := Lib.hid (HS1v10.out.on b11 (Nat.le_refl _))
  have HS2X11 := Lib.hid (HS2v10.out.on b11 (Nat.le_refl _))
  have HS3X11 := Lib.hid (HS3v10.out.on b11 (Nat.le_refl _))
  have HS4X11 := Lib.hid (HS4v10.out.on b11 (Nat.le_refl _))
  have HYX11 := Lib.hid (HYv10.out.on b11 (Nat.le_refl _))
  have RLX11 := Lib.hid (show Rw 1 inF X11 (some ⟨v10.heap.size, 0, none⟩) 2 [(1 : Int), (2 : Int)] by subst hX11; exact rw_lit [(1 : Int), (2 : Int)] (by simp [maxLen]) _)
  clear b11
  go_wp2_with (fail)
  rw [← hX11]
  clear hX11
  go_at_call 14
  refine (c_Ints A1 (some ⟨v10.heap.size, 0, none⟩) q1 2 [(1 : Int), (2 : Int)] [(1 : Int), (2 : Int)] X11 HYX11.out RLX11.out true (decide_eq_true rfl)).mono ?_
  rintro e v12 ⟨rfl, bb⟩
  have HKv12 := Lib.hid (below_join HKX11.out bb HKX11.out.size)
  have HS1v12 := Lib.hid (HS1X11.out.on bb (Nat.le_refl _))
  have HS2v12 := Lib.hid (HS2X11.out.on bb (Nat.le_refl _))
  have HS3v12 := Lib.hid (HS3X11.out.on bb (Nat.le_refl _))
  have HS4v12 := Lib.hid (HS4X11.out.on bb (Nat.le_refl _))
  have HYv12 := Lib.hid (HYX11.out.on bb (Nat.le_refl _))
  have RLv12 := Lib.hid (RLX11.out.on bb (Nat.le_refl _))
  clear bb
  go_wp2_with (fail)
  go_ret
  exact ⟨rfl, HKv12.out⟩
end Go.Proofs.Ytacdpklgnibkeaa
