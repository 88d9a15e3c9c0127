/-
  DERIVED. The law WorldValid (written by a generator of gen/).
-/
import Derived.Test.YtplncglgolhfaaaFD
import Derived.Test.YtplncglgolhfaaaEV
namespace Go.Proofs.Ytplncglgolhfaaa
open Go.RowKit
set_option maxRecDepth 100000
set_option linter.unusedVariables false
set_option linter.unusedSimpArgs false

theorem c_fewTo (p : SP) (s : SiteD) (A : Option Addr) (c : Nat) (xs : List (Svc × SvA)) (q : WP) (d : WorldD) (r : Bool) (hr : r = true ↔ FewOk s xs d) (w : World) (hs : SiAt w p s) (hx : WiAt w A c xs) (hd : WoAt w q d) :
    Calls Try.prog 10 #[.agg #[.slice p.a1 s.feeds.length p.c1, .slice p.a2 s.brks.length p.c2, .slice p.a3 s.loops.length p.c3, .slice p.a4 s.racks.length p.c4, .int .i64 s.sw, .slice p.a5 s.links.length p.c5, .slice p.a6 s.hosts.length p.c6], .agg #[.slice A xs.length c], .agg #[.slice q.a1 d.hosts.length q.c1, .slice q.a2 d.reps.length q.c2]] w fun e w' => e = .returned (.bool r) ∧ Below w.heap.size w w' := c_few p s A c xs q d r hr w hs hx hd
theorem c_vTo (p : SP) (s : SiteD) (A : Option Addr) (c : Nat) (xs : List (Svc × SvA)) (q : WP) (d : WorldD) (r : Bool) (hr : r = true ↔ WorldOk s (svs xs) d) (w : World) (hs : SiAt w p s) (hx : WiAt w A c xs) (hd : WoAt w q d) :
    Calls Try.prog 14 #[.agg #[.slice p.a1 s.feeds.length p.c1, .slice p.a2 s.brks.length p.c2, .slice p.a3 s.loops.length p.c3, .slice p.a4 s.racks.length p.c4, .int .i64 s.sw, .slice p.a5 s.links.length p.c5, .slice p.a6 s.hosts.length p.c6], .agg #[.slice A xs.length c], .agg #[.slice q.a1 d.hosts.length q.c1, .slice q.a2 d.reps.length q.c2]] w fun e w' => e = .returned (.bool r) ∧ Below w.heap.size w w' := c_woValid p s A c xs q d r hr w hs hx hd
theorem c_wvTo (p : SP) (s : SiteD) (A : Option Addr) (c : Nat) (xs : List (Svc × SvA)) (q : WP) (d : WorldD) (r : Bool) (hr : r = true ↔ WorldOk s (svs xs) d) (w : World) (hs : SiAt w p s) (hx : WiAt w A c xs) (hd : WoAt w q d) :
    Calls Try.prog 15 #[.agg #[.slice p.a1 s.feeds.length p.c1, .slice p.a2 s.brks.length p.c2, .slice p.a3 s.loops.length p.c3, .slice p.a4 s.racks.length p.c4, .int .i64 s.sw, .slice p.a5 s.links.length p.c5, .slice p.a6 s.hosts.length p.c6], .agg #[.slice A xs.length c], .agg #[.slice q.a1 d.hosts.length q.c1, .slice q.a2 d.reps.length q.c2]] w fun e w' => e = .returned (.bool r) ∧ Below w.heap.size w w' := c_wrValid p s A c xs q d r hr w hs hx hd
theorem bool_of (P : Prop) : ∃ b : Bool, b = true ↔ P := by
  by_cases h : P
  · exact ⟨true, by simp [h]⟩
  · exact ⟨false, by simp [h]⟩
set_option maxHeartbeats 32000000 in
theorem row_WorldValid (w : World) (p : SP) (s : SiteD) (hs : SiAt w p s) (A : Option Addr) (c : Nat) (xs : List (Svc × SvA)) (hx : WiAt w A c xs) (q : WP) (d : WorldD) (hd : WoAt w q d) :
    Calls Try.prog 3 #[siV p s, .agg #[.slice A xs.length c], .agg #[.slice q.a1 d.hosts.length q.c1, .slice q.a2 d.reps.length q.c2]] w fun e w' => e = .returned (.bool true) ∧ Below w.heap.size w w' := by
  have HLV := Lib.hid (fun (X : World) => c_live X)
  unfold siV
  obtain ⟨W1, h1⟩ : ∃ W, W = w.alloc (.cells #[.slice p.a1 s.feeds.length p.c1, .slice p.a2 s.brks.length p.c2, .slice p.a3 s.loops.length p.c3, .slice p.a4 s.racks.length p.c4, .int .i64 s.sw, .slice p.a5 s.links.length p.c5, .slice p.a6 s.hosts.length p.c6] 29) := ⟨_, rfl⟩
  obtain ⟨W2, h2⟩ : ∃ W, W = W1.alloc (.cells #[.slice A xs.length c] 32) := ⟨_, rfl⟩
  obtain ⟨W, h3⟩ : ∃ W, W = W2.alloc (.cells (woA q d) 36) := ⟨_, rfl⟩
  obtain ⟨B0, X1, X2, X3⟩ := three_boxes h1 h2 h3
  have HBW := Lib.hid B0
  have S0 := hs.on B0 (Nat.le_refl _)
  have HSS := Lib.hid (fun (X : World) (hX : Below W.heap.size W X) => S0.on hX (Nat.le_refl _))
  have X0 := hx.on B0 (Nat.le_refl _)
  have HXX := Lib.hid (fun (X : World) (hX : Below W.heap.size W X) => X0.on hX (Nat.le_refl _))
  have D0 := hd.on B0 (Nat.le_refl _)
  have HDD := Lib.hid (fun (X : World) (hX : Below W.heap.size W X) => D0.on hX (Nat.le_refl _))
  have HF := Lib.hid (fun (X : World) (hX : Below W.heap.size W X) => (⟨cell_of (box_on X1 hX (Nat.le_refl _)) rfl, cell_of (box_on X1 hX (Nat.le_refl _)) rfl, cell_of (box_on X1 hX (Nat.le_refl _)) rfl, cell_of (box_on X1 hX (Nat.le_refl _)) rfl, cell_of (box_on X1 hX (Nat.le_refl _)) rfl, cell_of (box_on X1 hX (Nat.le_refl _)) rfl, cell_of (box_on X1 hX (Nat.le_refl _)) rfl, cell_of (box_on X2 hX (Nat.le_refl _)) rfl, cell_of (box_on X3 hX (Nat.le_refl _)) rfl, cell_of (box_on X3 hX (Nat.le_refl _)) rfl⟩ : X.cell? ⟨w.heap.size, 0, none⟩ = some (.slice p.a1 s.feeds.length p.c1) ∧ X.cell? ⟨w.heap.size, 1, none⟩ = some (.slice p.a2 s.brks.length p.c2) ∧ X.cell? ⟨w.heap.size, 2, none⟩ = some (.slice p.a3 s.loops.length p.c3) ∧ X.cell? ⟨w.heap.size, 3, none⟩ = some (.slice p.a4 s.racks.length p.c4) ∧ X.cell? ⟨w.heap.size, 4, none⟩ = some (.int .i64 s.sw) ∧ X.cell? ⟨w.heap.size, 5, none⟩ = some (.slice p.a5 s.links.length p.c5) ∧ X.cell? ⟨w.heap.size, 6, none⟩ = some (.slice p.a6 s.hosts.length p.c6) ∧ X.cell? ⟨w.heap.size + 1, 0, none⟩ = some (.slice A xs.length c) ∧ X.cell? ⟨w.heap.size + 1 + 1, 0, none⟩ = some (.slice q.a1 d.hosts.length q.c1) ∧ X.cell? ⟨w.heap.size + 1 + 1, 1, none⟩ = some (.slice q.a2 d.reps.length q.c2)))
  have n1 := hd.hosts.1; have n2 := hd.hosts.2.1; have n3 := hd.reps.1; have n4 := hd.reps.2.1; have n5 := hs.hosts.1; have n6 := hs.hosts.2.1; have n7 := hx.row.1; have n8 := hx.row.2.1
  unfold maxLen at n2 n4 n6 n8
  have HKW := Lib.hid (Below.refl W.heap.size W)
  clear B0 hs hx hd X1 X2 X3 S0 X0 D0
  obtain ⟨f0, f1, f2, f3, f4, f5, f6, g0, g1, g2⟩ := HF.out W HKW.out
  unfold woA at h3
  rw [h3, h2, h1] at f0 f1 f2 f3 f4 f5 f6 g0 g1 g2
  generalize hBB : w.heap.size = B at *
  go_enter Try.func3, Try.ntmps3
  go_wp2_with (fail)
  rw [← h1, ← h2, ← h3] at f0 f1 f2 f3 f4 f5 f6 g0 g1 g2 ⊢
  clear h1 h2 h3 f0 f1 f2 f3 f4 f5 f6 g0 g1 g2
  obtain ⟨r, hr⟩ : ∃ b : Bool, b = true ↔ FewOk s xs d := by
    by_cases h : FewOk s xs d
    · exact ⟨true, by simp [h]⟩
    · exact ⟨false, by simp [h]⟩
  have HR := Lib.hid hr
  clear hr
  go_at_call 10
  refine (c_fewTo p s A c xs q d r HR.out W (HSS.out W HKW.out) (HXX.out W HKW.out) (HDD.out W HKW.out)).mono ?_
  rintro e v1 ⟨rfl, bb⟩
  have HKv1 := Lib.hid (below_join HKW.out bb HKW.out.size)
  clear bb
  cases r
  · skip
    go_wp2_with (fail)
    go_at_call 11
    refine (HLV.out v1).mono ?_
    rintro e v102 ⟨rfl, bb⟩
    have HKv102 := Lib.hid (below_join HKv1.out bb HKv1.out.size)
    clear bb
    go_wp2_with (fail)
    go_ret
    exact ⟨rfl, below_join HBW.out HKv102.out (by rw [← hBB]; exact HBW.out.size)⟩
  obtain ⟨r1, hr1⟩ := bool_of (WishOk (svs xs))
  have HR1 := Lib.hid hr1
  obtain ⟨r2, hr2⟩ := bool_of (WorldOk s (svs xs) d)
  have HR2 := Lib.hid hr2
  clear hr1 hr2
  go_wp2_with (fail)
  obtain ⟨f0, f1, f2, f3, f4, f5, f6, g0, g1, g2⟩ := HF.out v1 HKv1.out
  go_region_held3 (fun X => X.cell? ⟨B, 0, none⟩ = some (.slice p.a1 s.feeds.length p.c1) ∧ X.cell? ⟨B, 1, none⟩ = some (.slice p.a2 s.brks.length p.c2) ∧ X.cell? ⟨B, 2, none⟩ = some (.slice p.a3 s.loops.length p.c3) ∧ X.cell? ⟨B, 3, none⟩ = some (.slice p.a4 s.racks.length p.c4) ∧ X.cell? ⟨B, 4, none⟩ = some (.int .i64 s.sw) ∧ X.cell? ⟨B, 5, none⟩ = some (.slice p.a5 s.links.length p.c5) ∧ X.cell? ⟨B, 6, none⟩ = some (.slice p.a6 s.hosts.length p.c6) ∧ X.cell? ⟨B + 1, 0, none⟩ = some (.slice A xs.length c) ∧ X.cell? ⟨B + 1 + 1, 0, none⟩ = some (.slice q.a1 d.hosts.length q.c1) ∧ X.cell? ⟨B + 1 + 1, 1, none⟩ = some (.slice q.a2 d.reps.length q.c2))
    (first | exact HF.out v157 HKv157.out | exact HF.out v156 HKv156.out | exact HF.out v155 HKv155.out | exact HF.out v154 HKv154.out | exact HF.out v153 HKv153.out | exact HF.out v1 HKv1.out | fail)
    (first
      | (go_at_call 12; (with_reducible refine (c_ValidWish A c xs r1 HR1.out v1.drew (HXX.out _ HKv1.out.drew)).mono ?_); rintro e v153 ⟨rfl, bb0⟩; have bb := below_join (Below.refl v1.heap.size v1).drew bb0 (Nat.le_refl _); have HKv153 := Lib.hid (below_join HKv1.out bb HKv1.out.size); clear bb bb0)
      | (go_at_call 13; (with_reducible refine (c_wrValidWish A c xs r1 HR1.out v153 (HXX.out _ HKv153.out)).mono ?_); rintro e v154 ⟨rfl, bb0⟩; have bb := below_join (Below.refl v153.heap.size v153) bb0 (Nat.le_refl _); have HKv154 := Lib.hid (below_join HKv153.out bb HKv153.out.size); clear bb bb0)
      | (go_at_call 14; (with_reducible refine (c_vTo p s A c xs q d r2 HR2.out v154 (HSS.out _ HKv154.out) (HXX.out _ HKv154.out) (HDD.out _ HKv154.out)).mono ?_); rintro e v155 ⟨rfl, bb0⟩; have bb := below_join (Below.refl v154.heap.size v154) bb0 (Nat.le_refl _); have HKv155 := Lib.hid (below_join HKv154.out bb HKv154.out.size); clear bb bb0)
      | (go_at_call 15; (with_reducible refine (c_wvTo p s A c xs q d r2 HR2.out v155 (HSS.out _ HKv155.out) (HXX.out _ HKv155.out) (HDD.out _ HKv155.out)).mono ?_); rintro e v156 ⟨rfl, bb0⟩; have bb := below_join (Below.refl v155.heap.size v155) bb0 (Nat.le_refl _); have HKv156 := Lib.hid (below_join HKv155.out bb HKv155.out.size); clear bb bb0)
      | (go_at_call 11; (with_reducible refine (HLV.out v156).mono ?_); rintro e v157 ⟨rfl, bb0⟩; have bb := below_join (Below.refl v156.heap.size v156) bb0 (Nat.le_refl _); have HKv157 := Lib.hid (below_join HKv156.out bb HKv156.out.size); clear bb bb0)
      | fail)
  go_wp2_with (fail)
  go_ret
  exact ⟨rfl, below_join HBW.out HKv157.out (by rw [← hBB]; exact HBW.out.size)⟩
end Go.Proofs.Ytplncglgolhfaaa
