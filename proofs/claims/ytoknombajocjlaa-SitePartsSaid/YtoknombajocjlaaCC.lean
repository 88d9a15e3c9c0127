/-
  DERIVED. domains and Count of the landed package (written by gen/site_CC.py).
-/
import Derived.Test.YtoknombajocjlaaCB
import Derived.Laws.EntriesVeiled
namespace Go.Proofs.Ytoknombajocjlaa
open Go.RowKit
set_option maxRecDepth 100000
set_option linter.unusedVariables false
set_option linter.unusedSimpArgs false

set_option maxHeartbeats 8000000 in
theorem c_domsNo (p : SP) (s : SiteD) (d : Nat) (hd : d < 256) (hok : siteOk s = false) (w : World) (h : SiAt w p s) :
    Calls Try.prog 37 #[siV p s, .int .u8 (d : Int)] w fun e w' => e = .returned (.tuple #[.int .i64 0, .nilFunc]) ∧ Below w.heap.size w w' := by
  have HV := Lib.hid (fun (X : World) (hX : SiAt X p s) => c_stValid p s _ hok X hX)
  unfold siV at HV
  unfold siV
  obtain ⟨W, hW⟩ : ∃ W, W = w.alloc (.cells #[.slice p.a1 s.feeds.length p.c1, .slice p.a2 s.brks.length p.c2, .slice p.a3 s.loops.length p.c3, .slice p.a4 s.racks.length p.c4, .int .i64 s.sw, .slice p.a5 s.links.length p.c5, .slice p.a6 s.hosts.length p.c6] 29) := ⟨_, rfl⟩
  have B0 : Below w.heap.size w W := by subst hW; exact (Below.refl _ _).alloc (Nat.le_refl _) _
  have HB0 := Lib.hid B0
  have HX := Lib.hid (show SiBox W w.heap.size p s by subst hW; exact siBox_new _ _ _)
  have HA := Lib.hid (h.on B0 (Nat.le_refl _))
  have HF := Lib.hid (fun (X : World) (hX : Below W.heap.size W X) => (let z := HX.out.on hX (Nat.le_refl _); ⟨z.c0, z.c1, z.c2, z.c3, z.c4, z.c5, z.c6⟩ : X.cell? ⟨w.heap.size, 0, none⟩ = some (.slice p.a1 s.feeds.length p.c1) ∧ X.cell? ⟨w.heap.size, 1, none⟩ = some (.slice p.a2 s.brks.length p.c2) ∧ X.cell? ⟨w.heap.size, 2, none⟩ = some (.slice p.a3 s.loops.length p.c3) ∧ X.cell? ⟨w.heap.size, 3, none⟩ = some (.slice p.a4 s.racks.length p.c4) ∧ X.cell? ⟨w.heap.size, 4, none⟩ = some (.int .i64 s.sw) ∧ X.cell? ⟨w.heap.size, 5, none⟩ = some (.slice p.a5 s.links.length p.c5) ∧ X.cell? ⟨w.heap.size, 6, none⟩ = some (.slice p.a6 s.hosts.length p.c6)))
  have m1 := h.feeds.1; have m2 := h.brks.1; have m3 := h.loops.1; have m4 := h.racks.1; have m5 := h.links.1; have m6 := h.hosts.1
  have n1 := h.feeds.2.1; have n2 := h.brks.2.1; have n3 := h.loops.2.1; have n4 := h.racks.2.1; have n5 := h.links.2.1; have n6 := h.hosts.2.1
  unfold maxLen at n1 n2 n3 n4 n5 n6
  have KW := Lib.hid (Below.refl W.heap.size W)
  have hlw : w.heap.size < W.heap.size := HX.out.lt
  clear B0 h
  obtain ⟨f0, f1, f2, f3, f4, f5, f6⟩ := HF.out W KW.out
  rw [hW] at f0 f1 f2 f3 f4 f5 f6
  go_enter Try.func37, Try.ntmps37
  go_wp2_with (fail)
  rw [← hW]
  clear hW f0 f1 f2 f3 f4 f5 f6
  go_at_call 10
  refine (HV.out W HA.out).mono ?_
  rintro e w1 ⟨rfl, b1⟩
  have K1 := Lib.hid b1
  have HX1 := Lib.hid (HX.out.on b1 (Nat.le_refl _))
  have HA1 := Lib.hid (HA.out.on b1 (Nat.le_refl _))
  clear b1
  go_wp2_with (fail)
  go_ret2
  exact ⟨rfl, below_join HB0.out K1.out HB0.out.size⟩
set_option maxHeartbeats 8000000 in
theorem c_domsNone (p : SP) (s : SiteD) (d : Nat) (hd : d < 256) (hno : ¬ (1 ≤ d ∧ d ≤ 5)) (hok : siteOk s = true) (w : World) (h : SiAt w p s) :
    Calls Try.prog 37 #[siV p s, .int .u8 (d : Int)] w fun e w' => e = .returned (.tuple #[.int .i64 0, .nilFunc]) ∧ Below w.heap.size w w' := by
  have HV := Lib.hid (fun (X : World) (hX : SiAt X p s) => c_stValid p s _ hok X hX)
  unfold siV at HV
  unfold siV
  obtain ⟨W, hW⟩ : ∃ W, W = w.alloc (.cells #[.slice p.a1 s.feeds.length p.c1, .slice p.a2 s.brks.length p.c2, .slice p.a3 s.loops.length p.c3, .slice p.a4 s.racks.length p.c4, .int .i64 s.sw, .slice p.a5 s.links.length p.c5, .slice p.a6 s.hosts.length p.c6] 29) := ⟨_, rfl⟩
  have B0 : Below w.heap.size w W := by subst hW; exact (Below.refl _ _).alloc (Nat.le_refl _) _
  have HB0 := Lib.hid B0
  have HX := Lib.hid (show SiBox W w.heap.size p s by subst hW; exact siBox_new _ _ _)
  have HA := Lib.hid (h.on B0 (Nat.le_refl _))
  have HF := Lib.hid (fun (X : World) (hX : Below W.heap.size W X) => (let z := HX.out.on hX (Nat.le_refl _); ⟨z.c0, z.c1, z.c2, z.c3, z.c4, z.c5, z.c6⟩ : X.cell? ⟨w.heap.size, 0, none⟩ = some (.slice p.a1 s.feeds.length p.c1) ∧ X.cell? ⟨w.heap.size, 1, none⟩ = some (.slice p.a2 s.brks.length p.c2) ∧ X.cell? ⟨w.heap.size, 2, none⟩ = some (.slice p.a3 s.loops.length p.c3) ∧ X.cell? ⟨w.heap.size, 3, none⟩ = some (.slice p.a4 s.racks.length p.c4) ∧ X.cell? ⟨w.heap.size, 4, none⟩ = some (.int .i64 s.sw) ∧ X.cell? ⟨w.heap.size, 5, none⟩ = some (.slice p.a5 s.links.length p.c5) ∧ X.cell? ⟨w.heap.size, 6, none⟩ = some (.slice p.a6 s.hosts.length p.c6)))
  have m1 := h.feeds.1; have m2 := h.brks.1; have m3 := h.loops.1; have m4 := h.racks.1; have m5 := h.links.1; have m6 := h.hosts.1
  have n1 := h.feeds.2.1; have n2 := h.brks.2.1; have n3 := h.loops.2.1; have n4 := h.racks.2.1; have n5 := h.links.2.1; have n6 := h.hosts.2.1
  unfold maxLen at n1 n2 n3 n4 n5 n6
  have KW := Lib.hid (Below.refl W.heap.size W)
  have hlw : w.heap.size < W.heap.size := HX.out.lt
  have d1 : ((d : Int) == 1) = false := by rw [beq_eq_false_iff_ne]; omega
  have d2 : ((d : Int) == 2) = false := by rw [beq_eq_false_iff_ne]; omega
  have d3 : ((d : Int) == 3) = false := by rw [beq_eq_false_iff_ne]; omega
  have d4 : ((d : Int) == 4) = false := by rw [beq_eq_false_iff_ne]; omega
  have d5 : ((d : Int) == 5) = false := by rw [beq_eq_false_iff_ne]; omega
  clear B0 h
  obtain ⟨f0, f1, f2, f3, f4, f5, f6⟩ := HF.out W KW.out
  rw [hW] at f0 f1 f2 f3 f4 f5 f6
  go_enter Try.func37, Try.ntmps37
  go_wp2_with (fail)
  rw [← hW]
  clear hW f0 f1 f2 f3 f4 f5 f6
  go_at_call 10
  refine (HV.out W HA.out).mono ?_
  rintro e w1 ⟨rfl, b1⟩
  have K1 := Lib.hid b1
  have HX1 := Lib.hid (HX.out.on b1 (Nat.le_refl _))
  have HA1 := Lib.hid (HA.out.on b1 (Nat.le_refl _))
  clear b1
  obtain ⟨V, hV⟩ : ∃ V, V = w1.alloc (.cells #[.func (.func 46) #[] #[.pointer (some ⟨w.heap.size, 0, none⟩)]] 80) := ⟨_, rfl⟩
  have bV : Below w1.heap.size w1 V := by subst hV; exact (Below.refl _ _).alloc (Nat.le_refl _) _
  have HBV := Lib.hid (below_join K1.out bV K1.out.size)
  have HRK := Lib.hid (show RkBox V w1.heap.size w.heap.size by subst hV; exact heap_alloc_new _ _)
  clear bV
  obtain ⟨f0, f1, f2, f3, f4, f5, f6⟩ := HF.out V HBV.out
  rw [hV] at f0 f1 f2 f3 f4 f5 f6
  go_wp2_with (fail)
  rw [← hV]
  clear hV f0 f1 f2 f3 f4 f5 f6
  go_ret2
  exact ⟨rfl, below_join HB0.out HBV.out HB0.out.size⟩
set_option maxHeartbeats 8000000 in
theorem c_doms1 (p : SP) (s : SiteD) (hok : siteOk s = true) (w : World) (h : SiAt w p s) :
    Calls Try.prog 37 #[siV p s, .int .u8 1] w fun e w' => ∃ bs bt : Nat, e = .returned (.tuple #[.int .i64 (s.hosts.length : Int), .func (.func 47) #[] #[]]) ∧ SiBox w' bs p s ∧ SiAt w' p s ∧ RkBox w' bt bs ∧ Below w.heap.size w w' := by
  have HV := Lib.hid (fun (X : World) (hX : SiAt X p s) => c_stValid p s _ hok X hX)
  unfold siV at HV
  unfold siV
  obtain ⟨W, hW⟩ : ∃ W, W = w.alloc (.cells #[.slice p.a1 s.feeds.length p.c1, .slice p.a2 s.brks.length p.c2, .slice p.a3 s.loops.length p.c3, .slice p.a4 s.racks.length p.c4, .int .i64 s.sw, .slice p.a5 s.links.length p.c5, .slice p.a6 s.hosts.length p.c6] 29) := ⟨_, rfl⟩
  have B0 : Below w.heap.size w W := by subst hW; exact (Below.refl _ _).alloc (Nat.le_refl _) _
  have HB0 := Lib.hid B0
  have HX := Lib.hid (show SiBox W w.heap.size p s by subst hW; exact siBox_new _ _ _)
  have HA := Lib.hid (h.on B0 (Nat.le_refl _))
  have HF := Lib.hid (fun (X : World) (hX : Below W.heap.size W X) => (let z := HX.out.on hX (Nat.le_refl _); ⟨z.c0, z.c1, z.c2, z.c3, z.c4, z.c5, z.c6⟩ : X.cell? ⟨w.heap.size, 0, none⟩ = some (.slice p.a1 s.feeds.length p.c1) ∧ X.cell? ⟨w.heap.size, 1, none⟩ = some (.slice p.a2 s.brks.length p.c2) ∧ X.cell? ⟨w.heap.size, 2, none⟩ = some (.slice p.a3 s.loops.length p.c3) ∧ X.cell? ⟨w.heap.size, 3, none⟩ = some (.slice p.a4 s.racks.length p.c4) ∧ X.cell? ⟨w.heap.size, 4, none⟩ = some (.int .i64 s.sw) ∧ X.cell? ⟨w.heap.size, 5, none⟩ = some (.slice p.a5 s.links.length p.c5) ∧ X.cell? ⟨w.heap.size, 6, none⟩ = some (.slice p.a6 s.hosts.length p.c6)))
  have m1 := h.feeds.1; have m2 := h.brks.1; have m3 := h.loops.1; have m4 := h.racks.1; have m5 := h.links.1; have m6 := h.hosts.1
  have n1 := h.feeds.2.1; have n2 := h.brks.2.1; have n3 := h.loops.2.1; have n4 := h.racks.2.1; have n5 := h.links.2.1; have n6 := h.hosts.2.1
  unfold maxLen at n1 n2 n3 n4 n5 n6
  have KW := Lib.hid (Below.refl W.heap.size W)
  have hlw : w.heap.size < W.heap.size := HX.out.lt
  clear B0 h
  obtain ⟨f0, f1, f2, f3, f4, f5, f6⟩ := HF.out W KW.out
  rw [hW] at f0 f1 f2 f3 f4 f5 f6
  go_enter Try.func37, Try.ntmps37
  go_wp2_with (fail)
  rw [← hW]
  clear hW f0 f1 f2 f3 f4 f5 f6
  go_at_call 10
  refine (HV.out W HA.out).mono ?_
  rintro e w1 ⟨rfl, b1⟩
  have K1 := Lib.hid b1
  have HX1 := Lib.hid (HX.out.on b1 (Nat.le_refl _))
  have HA1 := Lib.hid (HA.out.on b1 (Nat.le_refl _))
  clear b1
  obtain ⟨V, hV⟩ : ∃ V, V = w1.alloc (.cells #[.func (.func 46) #[] #[.pointer (some ⟨w.heap.size, 0, none⟩)]] 80) := ⟨_, rfl⟩
  have bV : Below w1.heap.size w1 V := by subst hV; exact (Below.refl _ _).alloc (Nat.le_refl _) _
  have HBV := Lib.hid (below_join K1.out bV K1.out.size)
  have HRK := Lib.hid (show RkBox V w1.heap.size w.heap.size by subst hV; exact heap_alloc_new _ _)
  clear bV
  obtain ⟨f0, f1, f2, f3, f4, f5, f6⟩ := HF.out V HBV.out
  rw [hV] at f0 f1 f2 f3 f4 f5 f6
  go_wp2_with (fail)
  rw [← hV]
  clear hV f0 f1 f2 f3 f4 f5 f6
  go_ret2
  exact ⟨w.heap.size, w1.heap.size, rfl, HX.out.on HBV.out (Nat.le_refl _), HA.out.on HBV.out (Nat.le_refl _), HRK.out, below_join HB0.out HBV.out HB0.out.size⟩
set_option maxHeartbeats 8000000 in
theorem c_doms2 (p : SP) (s : SiteD) (hok : siteOk s = true) (w : World) (h : SiAt w p s) :
    Calls Try.prog 37 #[siV p s, .int .u8 2] w fun e w' => ∃ bs bt : Nat, e = .returned (.tuple #[.int .i64 (s.racks.length : Int), .func (.func 48) #[] #[.pointer (some ⟨bs, 0, none⟩)]]) ∧ SiBox w' bs p s ∧ SiAt w' p s ∧ RkBox w' bt bs ∧ Below w.heap.size w w' := by
  have HV := Lib.hid (fun (X : World) (hX : SiAt X p s) => c_stValid p s _ hok X hX)
  unfold siV at HV
  unfold siV
  obtain ⟨W, hW⟩ : ∃ W, W = w.alloc (.cells #[.slice p.a1 s.feeds.length p.c1, .slice p.a2 s.brks.length p.c2, .slice p.a3 s.loops.length p.c3, .slice p.a4 s.racks.length p.c4, .int .i64 s.sw, .slice p.a5 s.links.length p.c5, .slice p.a6 s.hosts.length p.c6] 29) := ⟨_, rfl⟩
  have B0 : Below w.heap.size w W := by subst hW; exact (Below.refl _ _).alloc (Nat.le_refl _) _
  have HB0 := Lib.hid B0
  have HX := Lib.hid (show SiBox W w.heap.size p s by subst hW; exact siBox_new _ _ _)
  have HA := Lib.hid (h.on B0 (Nat.le_refl _))
  have HF := Lib.hid (fun (X : World) (hX : Below W.heap.size W X) => (let z := HX.out.on hX (Nat.le_refl _); ⟨z.c0, z.c1, z.c2, z.c3, z.c4, z.c5, z.c6⟩ : X.cell? ⟨w.heap.size, 0, none⟩ = some (.slice p.a1 s.feeds.length p.c1) ∧ X.cell? ⟨w.heap.size, 1, none⟩ = some (.slice p.a2 s.brks.length p.c2) ∧ X.cell? ⟨w.heap.size, 2, none⟩ = some (.slice p.a3 s.loops.length p.c3) ∧ X.cell? ⟨w.heap.size, 3, none⟩ = some (.slice p.a4 s.racks.length p.c4) ∧ X.cell? ⟨w.heap.size, 4, none⟩ = some (.int .i64 s.sw) ∧ X.cell? ⟨w.heap.size, 5, none⟩ = some (.slice p.a5 s.links.length p.c5) ∧ X.cell? ⟨w.heap.size, 6, none⟩ = some (.slice p.a6 s.hosts.length p.c6)))
  have m1 := h.feeds.1; have m2 := h.brks.1; have m3 := h.loops.1; have m4 := h.racks.1; have m5 := h.links.1; have m6 := h.hosts.1
  have n1 := h.feeds.2.1; have n2 := h.brks.2.1; have n3 := h.loops.2.1; have n4 := h.racks.2.1; have n5 := h.links.2.1; have n6 := h.hosts.2.1
  unfold maxLen at n1 n2 n3 n4 n5 n6
  have KW := Lib.hid (Below.refl W.heap.size W)
  have hlw : w.heap.size < W.heap.size := HX.out.lt
  clear B0 h
  obtain ⟨f0, f1, f2, f3, f4, f5, f6⟩ := HF.out W KW.out
  rw [hW] at f0 f1 f2 f3 f4 f5 f6
  go_enter Try.func37, Try.ntmps37
  go_wp2_with (fail)
  rw [← hW]
  clear hW f0 f1 f2 f3 f4 f5 f6
  go_at_call 10
  refine (HV.out W HA.out).mono ?_
  rintro e w1 ⟨rfl, b1⟩
  have K1 := Lib.hid b1
  have HX1 := Lib.hid (HX.out.on b1 (Nat.le_refl _))
  have HA1 := Lib.hid (HA.out.on b1 (Nat.le_refl _))
  clear b1
  obtain ⟨V, hV⟩ : ∃ V, V = w1.alloc (.cells #[.func (.func 46) #[] #[.pointer (some ⟨w.heap.size, 0, none⟩)]] 80) := ⟨_, rfl⟩
  have bV : Below w1.heap.size w1 V := by subst hV; exact (Below.refl _ _).alloc (Nat.le_refl _) _
  have HBV := Lib.hid (below_join K1.out bV K1.out.size)
  have HRK := Lib.hid (show RkBox V w1.heap.size w.heap.size by subst hV; exact heap_alloc_new _ _)
  clear bV
  obtain ⟨f0, f1, f2, f3, f4, f5, f6⟩ := HF.out V HBV.out
  rw [hV] at f0 f1 f2 f3 f4 f5 f6
  go_wp2_with (fail)
  rw [← hV]
  clear hV f0 f1 f2 f3 f4 f5 f6
  go_ret2
  exact ⟨w.heap.size, w1.heap.size, rfl, HX.out.on HBV.out (Nat.le_refl _), HA.out.on HBV.out (Nat.le_refl _), HRK.out, below_join HB0.out HBV.out HB0.out.size⟩
set_option maxHeartbeats 8000000 in
theorem c_doms3 (p : SP) (s : SiteD) (hok : siteOk s = true) (w : World) (h : SiAt w p s) :
    Calls Try.prog 37 #[siV p s, .int .u8 3] w fun e w' => ∃ bs bt : Nat, e = .returned (.tuple #[.int .i64 4, .func (.func 49) #[] #[.pointer (some ⟨bt, 0, none⟩)]]) ∧ SiBox w' bs p s ∧ SiAt w' p s ∧ RkBox w' bt bs ∧ Below w.heap.size w w' := by
  have HV := Lib.hid (fun (X : World) (hX : SiAt X p s) => c_stValid p s _ hok X hX)
  unfold siV at HV
  unfold siV
  obtain ⟨W, hW⟩ : ∃ W, W = w.alloc (.cells #[.slice p.a1 s.feeds.length p.c1, .slice p.a2 s.brks.length p.c2, .slice p.a3 s.loops.length p.c3, .slice p.a4 s.racks.length p.c4, .int .i64 s.sw, .slice p.a5 s.links.length p.c5, .slice p.a6 s.hosts.length p.c6] 29) := ⟨_, rfl⟩
  have B0 : Below w.heap.size w W := by subst hW; exact (Below.refl _ _).alloc (Nat.le_refl _) _
  have HB0 := Lib.hid B0
  have HX := Lib.hid (show SiBox W w.heap.size p s by subst hW; exact siBox_new _ _ _)
  have HA := Lib.hid (h.on B0 (Nat.le_refl _))
  have HF := Lib.hid (fun (X : World) (hX : Below W.heap.size W X) => (let z := HX.out.on hX (Nat.le_refl _); ⟨z.c0, z.c1, z.c2, z.c3, z.c4, z.c5, z.c6⟩ : X.cell? ⟨w.heap.size, 0, none⟩ = some (.slice p.a1 s.feeds.length p.c1) ∧ X.cell? ⟨w.heap.size, 1, none⟩ = some (.slice p.a2 s.brks.length p.c2) ∧ X.cell? ⟨w.heap.size, 2, none⟩ = some (.slice p.a3 s.loops.length p.c3) ∧ X.cell? ⟨w.heap.size, 3, none⟩ = some (.slice p.a4 s.racks.length p.c4) ∧ X.cell? ⟨w.heap.size, 4, none⟩ = some (.int .i64 s.sw) ∧ X.cell? ⟨w.heap.size, 5, none⟩ = some (.slice p.a5 s.links.length p.c5) ∧ X.cell? ⟨w.heap.size, 6, none⟩ = some (.slice p.a6 s.hosts.length p.c6)))
  have m1 := h.feeds.1; have m2 := h.brks.1; have m3 := h.loops.1; have m4 := h.racks.1; have m5 := h.links.1; have m6 := h.hosts.1
  have n1 := h.feeds.2.1; have n2 := h.brks.2.1; have n3 := h.loops.2.1; have n4 := h.racks.2.1; have n5 := h.links.2.1; have n6 := h.hosts.2.1
  unfold maxLen at n1 n2 n3 n4 n5 n6
  have KW := Lib.hid (Below.refl W.heap.size W)
  have hlw : w.heap.size < W.heap.size := HX.out.lt
  clear B0 h
  obtain ⟨f0, f1, f2, f3, f4, f5, f6⟩ := HF.out W KW.out
  rw [hW] at f0 f1 f2 f3 f4 f5 f6
  go_enter Try.func37, Try.ntmps37
  go_wp2_with (fail)
  rw [← hW]
  clear hW f0 f1 f2 f3 f4 f5 f6
  go_at_call 10
  refine (HV.out W HA.out).mono ?_
  rintro e w1 ⟨rfl, b1⟩
  have K1 := Lib.hid b1
  have HX1 := Lib.hid (HX.out.on b1 (Nat.le_refl _))
  have HA1 := Lib.hid (HA.out.on b1 (Nat.le_refl _))
  clear b1
  obtain ⟨V, hV⟩ : ∃ V, V = w1.alloc (.cells #[.func (.func 46) #[] #[.pointer (some ⟨w.heap.size, 0, none⟩)]] 80) := ⟨_, rfl⟩
  have bV : Below w1.heap.size w1 V := by subst hV; exact (Below.refl _ _).alloc (Nat.le_refl _) _
  have HBV := Lib.hid (below_join K1.out bV K1.out.size)
  have HRK := Lib.hid (show RkBox V w1.heap.size w.heap.size by subst hV; exact heap_alloc_new _ _)
  clear bV
  obtain ⟨f0, f1, f2, f3, f4, f5, f6⟩ := HF.out V HBV.out
  rw [hV] at f0 f1 f2 f3 f4 f5 f6
  go_wp2_with (fail)
  rw [← hV]
  clear hV f0 f1 f2 f3 f4 f5 f6
  go_ret2
  exact ⟨w.heap.size, w1.heap.size, rfl, HX.out.on HBV.out (Nat.le_refl _), HA.out.on HBV.out (Nat.le_refl _), HRK.out, below_join HB0.out HBV.out HB0.out.size⟩
set_option maxHeartbeats 8000000 in
theorem c_doms4 (p : SP) (s : SiteD) (hok : siteOk s = true) (w : World) (h : SiAt w p s) :
    Calls Try.prog 37 #[siV p s, .int .u8 4] w fun e w' => ∃ bs bt : Nat, e = .returned (.tuple #[.int .i64 (s.feeds.length : Int), .func (.func 50) #[] #[.pointer (some ⟨bs, 0, none⟩), .pointer (some ⟨bt, 0, none⟩)]]) ∧ SiBox w' bs p s ∧ SiAt w' p s ∧ RkBox w' bt bs ∧ Below w.heap.size w w' := by
  have HV := Lib.hid (fun (X : World) (hX : SiAt X p s) => c_stValid p s _ hok X hX)
  unfold siV at HV
  unfold siV
  obtain ⟨W, hW⟩ : ∃ W, W = w.alloc (.cells #[.slice p.a1 s.feeds.length p.c1, .slice p.a2 s.brks.length p.c2, .slice p.a3 s.loops.length p.c3, .slice p.a4 s.racks.length p.c4, .int .i64 s.sw, .slice p.a5 s.links.length p.c5, .slice p.a6 s.hosts.length p.c6] 29) := ⟨_, rfl⟩
  have B0 : Below w.heap.size w W := by subst hW; exact (Below.refl _ _).alloc (Nat.le_refl _) _
  have HB0 := Lib.hid B0
  have HX := Lib.hid (show SiBox W w.heap.size p s by subst hW; exact siBox_new _ _ _)
  have HA := Lib.hid (h.on B0 (Nat.le_refl _))
  have HF := Lib.hid (fun (X : World) (hX : Below W.heap.size W X) => (let z := HX.out.on hX (Nat.le_refl _); ⟨z.c0, z.c1, z.c2, z.c3, z.c4, z.c5, z.c6⟩ : X.cell? ⟨w.heap.size, 0, none⟩ = some (.slice p.a1 s.feeds.length p.c1) ∧ X.cell? ⟨w.heap.size, 1, none⟩ = some (.slice p.a2 s.brks.length p.c2) ∧ X.cell? ⟨w.heap.size, 2, none⟩ = some (.slice p.a3 s.loops.length p.c3) ∧ X.cell? ⟨w.heap.size, 3, none⟩ = some (.slice p.a4 s.racks.length p.c4) ∧ X.cell? ⟨w.heap.size, 4, none⟩ = some (.int .i64 s.sw) ∧ X.cell? ⟨w.heap.size, 5, none⟩ = some (.slice p.a5 s.links.length p.c5) ∧ X.cell? ⟨w.heap.size, 6, none⟩ = some (.slice p.a6 s.hosts.length p.c6)))
  have m1 := h.feeds.1; have m2 := h.brks.1; have m3 := h.loops.1; have m4 := h.racks.1; have m5 := h.links.1; have m6 := h.hosts.1
  have n1 := h.feeds.2.1; have n2 := h.brks.2.1; have n3 := h.loops.2.1; have n4 := h.racks.2.1; have n5 := h.links.2.1; have n6 := h.hosts.2.1
  unfold maxLen at n1 n2 n3 n4 n5 n6
  have KW := Lib.hid (Below.refl W.heap.size W)
  have hlw : w.heap.size < W.heap.size := HX.out.lt
  clear B0 h
  obtain ⟨f0, f1, f2, f3, f4, f5, f6⟩ := HF.out W KW.out
  rw [hW] at f0 f1 f2 f3 f4 f5 f6
  go_enter Try.func37, Try.ntmps37
  go_wp2_with (fail)
  rw [← hW]
  clear hW f0 f1 f2 f3 f4 f5 f6
  go_at_call 10
  refine (HV.out W HA.out).mono ?_
  rintro e w1 ⟨rfl, b1⟩
  have K1 := Lib.hid b1
  have HX1 := Lib.hid (HX.out.on b1 (Nat.le_refl _))
  have HA1 := Lib.hid (HA.out.on b1 (Nat.le_refl _))
  clear b1
  obtain ⟨V, hV⟩ : ∃ V, V = w1.alloc (.cells #[.func (.func 46) #[] #[.pointer (some ⟨w.heap.size, 0, none⟩)]] 80) := ⟨_, rfl⟩
  have bV : Below w1.heap.size w1 V := by subst hV; exact (Below.refl _ _).alloc (Nat.le_refl _) _
  have HBV := Lib.hid (below_join K1.out bV K1.out.size)
  have HRK := Lib.hid (show RkBox V w1.heap.size w.heap.size by subst hV; exact heap_alloc_new _ _)
  clear bV
  obtain ⟨f0, f1, f2, f3, f4, f5, f6⟩ := HF.out V HBV.out
  rw [hV] at f0 f1 f2 f3 f4 f5 f6
  go_wp2_with (fail)
  rw [← hV]
  clear hV f0 f1 f2 f3 f4 f5 f6
  go_ret2
  exact ⟨w.heap.size, w1.heap.size, rfl, HX.out.on HBV.out (Nat.le_refl _), HA.out.on HBV.out (Nat.le_refl _), HRK.out, below_join HB0.out HBV.out HB0.out.size⟩
set_option maxHeartbeats 8000000 in
theorem c_doms5 (p : SP) (s : SiteD) (hok : siteOk s = true) (w : World) (h : SiAt w p s) :
    Calls Try.prog 37 #[siV p s, .int .u8 5] w fun e w' => ∃ bs bt : Nat, e = .returned (.tuple #[.int .i64 (s.loops.length : Int), .func (.func 51) #[] #[.pointer (some ⟨bt, 0, none⟩)]]) ∧ SiBox w' bs p s ∧ SiAt w' p s ∧ RkBox w' bt bs ∧ Below w.heap.size w w' := by
  have HV := Lib.hid (fun (X : World) (hX : SiAt X p s) => c_stValid p s _ hok X hX)
  unfold siV at HV
  unfold siV
  obtain ⟨W, hW⟩ : ∃ W, W = w.alloc (.cells #[.slice p.a1 s.feeds.length p.c1, .slice p.a2 s.brks.length p.c2, .slice p.a3 s.loops.length p.c3, .slice p.a4 s.racks.length p.c4, .int .i64 s.sw, .slice p.a5 s.links.length p.c5, .slice p.a6 s.hosts.length p.c6] 29) := ⟨_, rfl⟩
  have B0 : Below w.heap.size w W := by subst hW; exact (Below.refl _ _).alloc (Nat.le_refl _) _
  have HB0 := Lib.hid B0
  have HX := Lib.hid (show SiBox W w.heap.size p s by subst hW; exact siBox_new _ _ _)
  have HA := Lib.hid (h.on B0 (Nat.le_refl _))
  have HF := Lib.hid (fun (X : World) (hX : Below W.heap.size W X) => (let z := HX.out.on hX (Nat.le_refl _); ⟨z.c0, z.c1, z.c2, z.c3, z.c4, z.c5, z.c6⟩ : X.cell? ⟨w.heap.size, 0, none⟩ = some (.slice p.a1 s.feeds.length p.c1) ∧ X.cell? ⟨w.heap.size, 1, none⟩ = some (.slice p.a2 s.brks.length p.c2) ∧ X.cell? ⟨w.heap.size, 2, none⟩ = some (.slice p.a3 s.loops.length p.c3) ∧ X.cell? ⟨w.heap.size, 3, none⟩ = some (.slice p.a4 s.racks.length p.c4) ∧ X.cell? ⟨w.heap.size, 4, none⟩ = some (.int .i64 s.sw) ∧ X.cell? ⟨w.heap.size, 5, none⟩ = some (.slice p.a5 s.links.length p.c5) ∧ X.cell? ⟨w.heap.size, 6, none⟩ = some (.slice p.a6 s.hosts.length p.c6)))
  have m1 := h.feeds.1; have m2 := h.brks.1; have m3 := h.loops.1; have m4 := h.racks.1; have m5 := h.links.1; have m6 := h.hosts.1
  have n1 := h.feeds.2.1; have n2 := h.brks.2.1; have n3 := h.loops.2.1; have n4 := h.racks.2.1; have n5 := h.links.2.1; have n6 := h.hosts.2.1
  unfold maxLen at n1 n2 n3 n4 n5 n6
  have KW := Lib.hid (Below.refl W.heap.size W)
  have hlw : w.heap.size < W.heap.size := HX.out.lt
  clear B0 h
  obtain ⟨f0, f1, f2, f3, f4, f5, f6⟩ := HF.out W KW.out
  rw [hW] at f0 f1 f2 f3 f4 f5 f6
  go_enter Try.func37, Try.ntmps37
  go_wp2_with (fail)
  rw [← hW]
  clear hW f0 f1 f2 f3 f4 f5 f6
  go_at_call 10
  refine (HV.out W HA.out).mono ?_
  rintro e w1 ⟨rfl, b1⟩
  have K1 := Lib.hid b1
  have HX1 := Lib.hid (HX.out.on b1 (Nat.le_refl _))
  have HA1 := Lib.hid (HA.out.on b1 (Nat.le_refl _))
  clear b1
  obtain ⟨V, hV⟩ : ∃ V, V = w1.alloc (.cells #[.func (.func 46) #[] #[.pointer (some ⟨w.heap.size, 0, none⟩)]] 80) := ⟨_, rfl⟩
  have bV : Below w1.heap.size w1 V := by subst hV; exact (Below.refl _ _).alloc (Nat.le_refl _) _
  have HBV := Lib.hid (below_join K1.out bV K1.out.size)
  have HRK := Lib.hid (show RkBox V w1.heap.size w.heap.size by subst hV; exact heap_alloc_new _ _)
  clear bV
  obtain ⟨f0, f1, f2, f3, f4, f5, f6⟩ := HF.out V HBV.out
  rw [hV] at f0 f1 f2 f3 f4 f5 f6
  go_wp2_with (fail)
  rw [← hV]
  clear hV f0 f1 f2 f3 f4 f5 f6
  go_ret2
  exact ⟨w.heap.size, w1.heap.size, rfl, HX.out.on HBV.out (Nat.le_refl _), HA.out.on HBV.out (Nat.le_refl _), HRK.out, below_join HB0.out HBV.out HB0.out.size⟩
/-- What domains answers, for the number alone. -/
theorem c_doms (p : SP) (s : SiteD) (d : Nat) (hd : d < 256) (w : World) (h : SiAt w p s) :
    Calls Try.prog 37 #[siV p s, .int .u8 (d : Int)] w fun e w' => (∃ f, e = .returned (.tuple #[.int .i64 (cntD s d), f])) ∧ Below w.heap.size w w' := by
  rcases hok : siteOk s with _ | _
  · refine (c_domsNo p s d hd hok w h).mono ?_
    rintro e w' ⟨rfl, hb⟩
    exact ⟨⟨_, by unfold cntD; rw [hok]; rfl⟩, hb⟩
  · by_cases hno : 1 ≤ d ∧ d ≤ 5
    · rcases (by omega : d = 1 ∨ d = 2 ∨ d = 3 ∨ d = 4 ∨ d = 5) with rfl | rfl | rfl | rfl | rfl

      · refine (c_doms1 p s hok w h).mono ?_
        rintro e w' ⟨bs, bt, rfl, -, -, -, hb⟩
        exact ⟨⟨_, by unfold cntD; rw [hok]; rfl⟩, hb⟩
      · refine (c_doms2 p s hok w h).mono ?_
        rintro e w' ⟨bs, bt, rfl, -, -, -, hb⟩
        exact ⟨⟨_, by unfold cntD; rw [hok]; rfl⟩, hb⟩
      · refine (c_doms3 p s hok w h).mono ?_
        rintro e w' ⟨bs, bt, rfl, -, -, -, hb⟩
        exact ⟨⟨_, by unfold cntD; rw [hok]; rfl⟩, hb⟩
      · refine (c_doms4 p s hok w h).mono ?_
        rintro e w' ⟨bs, bt, rfl, -, -, -, hb⟩
        exact ⟨⟨_, by unfold cntD; rw [hok]; rfl⟩, hb⟩
      · refine (c_doms5 p s hok w h).mono ?_
        rintro e w' ⟨bs, bt, rfl, -, -, -, hb⟩
        exact ⟨⟨_, by unfold cntD; rw [hok]; rfl⟩, hb⟩
    · refine (c_domsNone p s d hd hno hok w h).mono ?_
      rintro e w' ⟨rfl, hb⟩
      refine ⟨⟨.nilFunc, ?_⟩, hb⟩
      have hc : cntD s d = 0 := by
        unfold cntD
        rw [hok, if_pos rfl]
        unfold cntOf
        split <;> first | rfl | (exfalso; omega)
      rw [hc]
set_option maxHeartbeats 4000000 in
theorem c_Count (p : SP) (s : SiteD) (d : Nat) (hd : d < 256) (r : Int) (hr : cntD s d = r) (w : World) (h : SiAt w p s) :
    Calls Try.prog 12 #[siV p s, .int .u8 (d : Int)] w fun e w' => e = .returned (.int .i64 r) ∧ Below w.heap.size w w' := by
  have HV := Lib.hid (fun (X : World) (hX : SiAt X p s) => c_doms p s d hd X hX)
  rw [hr] at HV
  unfold siV at HV
  unfold siV
  obtain ⟨W, hW⟩ : ∃ W, W = w.alloc (.cells #[.slice p.a1 s.feeds.length p.c1, .slice p.a2 s.brks.length p.c2, .slice p.a3 s.loops.length p.c3, .slice p.a4 s.racks.length p.c4, .int .i64 s.sw, .slice p.a5 s.links.length p.c5, .slice p.a6 s.hosts.length p.c6] 29) := ⟨_, rfl⟩
  have B0 : Below w.heap.size w W := by subst hW; exact (Below.refl _ _).alloc (Nat.le_refl _) _
  have HB0 := Lib.hid B0
  have HX := Lib.hid (show SiBox W w.heap.size p s by subst hW; exact siBox_new _ _ _)
  have HA := Lib.hid (h.on B0 (Nat.le_refl _))
  have HF := Lib.hid (fun (X : World) (hX : Below W.heap.size W X) => (let z := HX.out.on hX (Nat.le_refl _); ⟨z.c0, z.c1, z.c2, z.c3, z.c4, z.c5, z.c6⟩ : X.cell? ⟨w.heap.size, 0, none⟩ = some (.slice p.a1 s.feeds.length p.c1) ∧ X.cell? ⟨w.heap.size, 1, none⟩ = some (.slice p.a2 s.brks.length p.c2) ∧ X.cell? ⟨w.heap.size, 2, none⟩ = some (.slice p.a3 s.loops.length p.c3) ∧ X.cell? ⟨w.heap.size, 3, none⟩ = some (.slice p.a4 s.racks.length p.c4) ∧ X.cell? ⟨w.heap.size, 4, none⟩ = some (.int .i64 s.sw) ∧ X.cell? ⟨w.heap.size, 5, none⟩ = some (.slice p.a5 s.links.length p.c5) ∧ X.cell? ⟨w.heap.size, 6, none⟩ = some (.slice p.a6 s.hosts.length p.c6)))
  have m1 := h.feeds.1; have m2 := h.brks.1; have m3 := h.loops.1; have m4 := h.racks.1; have m5 := h.links.1; have m6 := h.hosts.1
  have n1 := h.feeds.2.1; have n2 := h.brks.2.1; have n3 := h.loops.2.1; have n4 := h.racks.2.1; have n5 := h.links.2.1; have n6 := h.hosts.2.1
  unfold maxLen at n1 n2 n3 n4 n5 n6
  have KW := Lib.hid (Below.refl W.heap.size W)
  have hlw : w.heap.size < W.heap.size := HX.out.lt
  clear B0 h hr
  obtain ⟨f0, f1, f2, f3, f4, f5, f6⟩ := HF.out W KW.out
  rw [hW] at f0 f1 f2 f3 f4 f5 f6
  go_enter Try.func12, Try.ntmps12
  go_wp2_with (fail)
  rw [← hW]
  clear hW f0 f1 f2 f3 f4 f5 f6
  go_at_call 37
  refine (HV.out W HA.out).mono ?_
  rintro e w1 ⟨⟨f, rfl⟩, b1⟩
  have K1 := Lib.hid b1
  clear b1
  go_wp2_with (fail)
  go_ret
  exact ⟨rfl, below_join HB0.out K1.out HB0.out.size⟩
end Go.Proofs.Ytoknombajocjlaa
