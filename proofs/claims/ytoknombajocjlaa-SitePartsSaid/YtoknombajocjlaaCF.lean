/-
  DERIVED. Count, DomainOf, Members, Ints of the specification (written by gen/site_CC.py).
-/
import Derived.Test.YtoknombajocjlaaCE
namespace Go.Proofs.Ytoknombajocjlaa
open Go.RowKit
set_option maxRecDepth 100000
set_option linter.unusedVariables false
set_option linter.unusedSimpArgs false

set_option maxHeartbeats 8000000 in
theorem c_Ints (A A2 : Option Addr) (c c2 : Nat) (l m : List Int) (w : World) (h : Rw 1 inF w A c l) (h2 : Rw 1 inF w A2 c2 m) (r : Bool) (hr : decide (l = m) = r) :
    Calls Try.prog 16 #[.slice A l.length c, .slice A2 m.length c2] w fun e w' => e = .returned (.bool r) ∧ Below w.heap.size w w' := by
  have H := Lib.hid h
  have H2 := Lib.hid h2
  have HR := Lib.hid hr
  have k1 := h.1; have k2 := h.2.1; have k3 := h2.1; have k4 := h2.2.1
  unfold maxLen at k2 k4
  clear h h2 hr
  by_cases hl : l.length = m.length
  · have hne : ((l.length : Int) != (m.length : Int)) = false := by rw [hl]; simp
    have HL := Lib.hid hl
    clear hl
    go_enter Try.func16, Try.ntmps16
    go_wp2_with (fail)
    go_loopw [5] (fun i wr => ∃ k : Nat, k ≤ l.length ∧ i = .int .i64 (k : Int) ∧ Hid (Below w.heap.size w wr) ∧ Hid (l.take k = m.take k)) (fun i _ => l.length - (intOf i).toNat)
    case atStart => exact ⟨0, Nat.zero_le _, rfl, Lib.hid (Below.refl _ _), Lib.hid rfl⟩
    case round =>
      obtain ⟨k, hk, rfl, hB, hsame⟩ := hrel
      have hki : ((k : Nat) : Int).toNat = k := by omega
      by_cases hlt : k < l.length
      · obtain ⟨x, hx⟩ : ∃ x, l[k]? = some x := ⟨_, List.getElem?_eq_getElem hlt⟩
        obtain ⟨y, hy⟩ : ∃ y, m[k]? = some y := ⟨_, List.getElem?_eq_getElem (by rw [← HL.out]; exact hlt)⟩
        have HK := H.out.on hB.out (Nat.le_refl _)
        have HK2 := H2.out.on hB.out (Nat.le_refl _)
        obtain ⟨b, o, rfl, -, -⟩ := HK.at_ hx
        obtain ⟨b2, o2, rfl, -, -⟩ := HK2.at_ hy
        have x0 := inRw HK hx
        have y0 := inRw HK2 hy
        have hkl : (k : Int) < (l.length : Int) := by omega
        have hkm : (k : Int) < (m.length : Int) := by have := HL.out; omega
        have HXX := Lib.hid hx
        have HYY := Lib.hid hy
        clear HK HK2 hx hy
        rcases hne2 : (x != y) with _ | _
        · have HS := Lib.hid (show l.take (k + 1) = m.take (k + 1) by
            rw [List.take_add_one, List.take_add_one, hsame.out, HXX.out, HYY.out]
            rw [bne_eq_false_iff_eq] at hne2
            rw [hne2])
          go_wp2_with (fail)
          go_quiet (fail)
          go_wp2_with (fail)
          go_roundw
          case rel => exact ⟨k + 1, by omega, by go_num, Lib.hid (below_drewN hB.out), HS⟩
          case measure => simp only [intOf]; omega
        · obtain rfl : false = r := by
            rw [← HR.out]
            refine (decide_eq_false fun e => ?_).symm
            rw [bne_iff_ne] at hne2
            refine hne2 ?_
            have h1 := HXX.out
            rw [e, HYY.out] at h1
            injection h1 with h1
            exact h1.symm
          go_wp2_with (fail)
          go_quiet (fail)
          go_wp2_with (fail)
          go_ret
          exact ⟨rfl, below_drewN hB.out⟩
      · obtain rfl : k = l.length := by omega
        obtain rfl : true = r := by
          rw [← HR.out]
          refine (decide_eq_true ?_).symm
          have h := hsame.out
          rw [List.take_length, HL.out, List.take_length] at h
          exact h
        go_wp2_with (fail)
        go_ret
        exact ⟨rfl, hB.out⟩
  · have hne : ((l.length : Int) != (m.length : Int)) = true := by rw [bne_iff_ne]; omega
    obtain rfl : false = r := by rw [← HR.out]; exact (decide_eq_false fun e => hl (by rw [e])).symm
    clear hl
    go_enter Try.func16, Try.ntmps16
    go_wp2_with (fail)
    go_ret
    exact ⟨rfl, Below.refl _ _⟩
set_option maxHeartbeats 8000000 in
theorem c_rCountNone (p : SP) (s : SiteD) (d : Nat) (hd : d < 256) (hno : ¬ (1 ≤ d ∧ d ≤ 5)) (ok : Bool) (hok : siteOk s = ok) (r : Int) (hr : (if ok = true then 0 else 0) = r) (w : World) (h : SiAt w p s) :
    Calls Try.prog 13 #[siV p s, .int .u8 (d : Int)] w fun e w' => e = .returned (.int .i64 r) ∧ Below w.heap.size w w' := by
  have HV := Lib.hid (fun (X : World) (hX : SiAt X p s) => c_srValid p s ok hok X hX)
  unfold siV at HV
  have d1 : ((d : Int) == 1) = false := by rw [beq_eq_false_iff_ne]; omega
  have d2 : ((d : Int) == 2) = false := by rw [beq_eq_false_iff_ne]; omega
  have d3 : ((d : Int) == 3) = false := by rw [beq_eq_false_iff_ne]; omega
  have d4 : ((d : Int) == 4) = false := by rw [beq_eq_false_iff_ne]; omega
  have d5 : ((d : Int) == 5) = false := by rw [beq_eq_false_iff_ne]; omega

  unfold siV
  obtain ⟨W, hW⟩ : ∃ W, W = w.alloc (.cells #[.slice p.a1 s.feeds.length p.c1, .slice p.a2 s.brks.length p.c2, .slice p.a3 s.loops.length p.c3, .slice p.a4 s.racks.length p.c4, .int .i64 s.sw, .slice p.a5 s.links.length p.c5, .slice p.a6 s.hosts.length p.c6] 29) := ⟨_, rfl⟩
  have B0 : Below w.heap.size w W := by subst hW; exact (Below.refl _ _).alloc (Nat.le_refl _) _
  have HB0 := Lib.hid B0
  have HX := Lib.hid (show SiBox W w.heap.size p s by subst hW; exact siBox_new _ _ _)
  have HA := Lib.hid (h.on B0 (Nat.le_refl _))
  have HF := Lib.hid (fun (X : World) (hX : Below W.heap.size W X) => (let z := HX.out.on hX (Nat.le_refl _); ⟨z.c0, z.c1, z.c2, z.c3, z.c4, z.c5, z.c6⟩ : X.cell? ⟨w.heap.size, 0, none⟩ = some (.slice p.a1 s.feeds.length p.c1) ∧ X.cell? ⟨w.heap.size, 1, none⟩ = some (.slice p.a2 s.brks.length p.c2) ∧ X.cell? ⟨w.heap.size, 2, none⟩ = some (.slice p.a3 s.loops.length p.c3) ∧ X.cell? ⟨w.heap.size, 3, none⟩ = some (.slice p.a4 s.racks.length p.c4) ∧ X.cell? ⟨w.heap.size, 4, none⟩ = some (.int .i64 s.sw) ∧ X.cell? ⟨w.heap.size, 5, none⟩ = some (.slice p.a5 s.links.length p.c5) ∧ X.cell? ⟨w.heap.size, 6, none⟩ = some (.slice p.a6 s.hosts.length p.c6)))
  have m1 := h.feeds.1; have m2 := h.brks.1; have m3 := h.loops.1; have m4 := h.racks.1; have m5 := h.links.1; have m6 := h.hosts.1
  have n1 := h.feeds.2.1; have n2 := h.brks.2.1; have n3 := h.loops.2.1; have n4 := h.racks.2.1; have n5 := h.links.2.1; have n6 := h.hosts.2.1
  unfold maxLen at n1 n2 n3 n4 n5 n6
  have KW := Lib.hid (Below.refl W.heap.size W)
  have hlw : w.heap.size < W.heap.size := HX.out.lt
  clear B0 h
  obtain ⟨f0, f1, f2, f3, f4, f5, f6⟩ := HF.out W KW.out
  rw [hW] at f0 f1 f2 f3 f4 f5 f6
  go_enter Try.func13, Try.ntmps13
  go_wp2_with (fail)
  rw [← hW]
  clear hW f0 f1 f2 f3 f4 f5 f6
  go_at_call 11
  refine (HV.out W HA.out).mono ?_
  rintro e w1 ⟨rfl, b1⟩
  have K1 := Lib.hid b1
  clear b1
  obtain ⟨f0, f1, f2, f3, f4, f5, f6⟩ := HF.out w1 K1.out
  cases ok
  · obtain rfl : 0 = r := hr
    go_wp2_with (fail)
    go_ret
    exact ⟨rfl, below_join HB0.out K1.out HB0.out.size⟩
  · obtain rfl : 0 = r := hr
    go_wp2_with (fail)
    go_ret
    exact ⟨rfl, below_join HB0.out K1.out HB0.out.size⟩
set_option maxHeartbeats 8000000 in
theorem c_rCount1 (p : SP) (s : SiteD) (ok : Bool) (hok : siteOk s = ok) (r : Int) (hr : (if ok = true then (s.hosts.length : Int) else 0) = r) (w : World) (h : SiAt w p s) :
    Calls Try.prog 13 #[siV p s, .int .u8 1] w fun e w' => e = .returned (.int .i64 r) ∧ Below w.heap.size w w' := by
  have HV := Lib.hid (fun (X : World) (hX : SiAt X p s) => c_srValid p s ok hok X hX)
  unfold siV at HV

  unfold siV
  obtain ⟨W, hW⟩ : ∃ W, W = w.alloc (.cells #[.slice p.a1 s.feeds.length p.c1, .slice p.a2 s.brks.length p.c2, .slice p.a3 s.loops.length p.c3, .slice p.a4 s.racks.length p.c4, .int .i64 s.sw, .slice p.a5 s.links.length p.c5, .slice p.a6 s.hosts.length p.c6] 29) := ⟨_, rfl⟩
  have B0 : Below w.heap.size w W := by subst hW; exact (Below.refl _ _).alloc (Nat.le_refl _) _
  have HB0 := Lib.hid B0
  have HX := Lib.hid (show SiBox W w.heap.size p s by subst hW; exact siBox_new _ _ _)
  have HA := Lib.hid (h.on B0 (Nat.le_refl _))
  have HF := Lib.hid (fun (X : World) (hX : Below W.heap.size W X) => (let z := HX.out.on hX (Nat.le_refl _); ⟨z.c0, z.c1, z.c2, z.c3, z.c4, z.c5, z.c6⟩ : X.cell? ⟨w.heap.size, 0, none⟩ = some (.slice p.a1 s.feeds.length p.c1) ∧ X.cell? ⟨w.heap.size, 1, none⟩ = some (.slice p.a2 s.brks.length p.c2) ∧ X.cell? ⟨w.heap.size, 2, none⟩ = some (.slice p.a3 s.loops.length p.c3) ∧ X.cell? ⟨w.heap.size, 3, none⟩ = some (.slice p.a4 s.racks.length p.c4) ∧ X.cell? ⟨w.heap.size, 4, none⟩ = some (.int .i64 s.sw) ∧ X.cell? ⟨w.heap.size, 5, none⟩ = some (.slice p.a5 s.links.length p.c5) ∧ X.cell? ⟨w.heap.size, 6, none⟩ = some (.slice p.a6 s.hosts.length p.c6)))
  have m1 := h.feeds.1; have m2 := h.brks.1; have m3 := h.loops.1; have m4 := h.racks.1; have m5 := h.links.1; have m6 := h.hosts.1
  have n1 := h.feeds.2.1; have n2 := h.brks.2.1; have n3 := h.loops.2.1; have n4 := h.racks.2.1; have n5 := h.links.2.1; have n6 := h.hosts.2.1
  unfold maxLen at n1 n2 n3 n4 n5 n6
  have KW := Lib.hid (Below.refl W.heap.size W)
  have hlw : w.heap.size < W.heap.size := HX.out.lt
  clear B0 h
  obtain ⟨f0, f1, f2, f3, f4, f5, f6⟩ := HF.out W KW.out
  rw [hW] at f0 f1 f2 f3 f4 f5 f6
  go_enter Try.func13, Try.ntmps13
  go_wp2_with (fail)
  rw [← hW]
  clear hW f0 f1 f2 f3 f4 f5 f6
  go_at_call 11
  refine (HV.out W HA.out).mono ?_
  rintro e w1 ⟨rfl, b1⟩
  have K1 := Lib.hid b1
  clear b1
  obtain ⟨f0, f1, f2, f3, f4, f5, f6⟩ := HF.out w1 K1.out
  cases ok
  · obtain rfl : 0 = r := hr
    go_wp2_with (fail)
    go_ret
    exact ⟨rfl, below_join HB0.out K1.out HB0.out.size⟩
  · obtain rfl : (s.hosts.length : Int) = r := hr
    go_wp2_with (fail)
    go_ret
    exact ⟨rfl, below_join HB0.out K1.out HB0.out.size⟩
set_option maxHeartbeats 8000000 in
theorem c_rCount2 (p : SP) (s : SiteD) (ok : Bool) (hok : siteOk s = ok) (r : Int) (hr : (if ok = true then (s.racks.length : Int) else 0) = r) (w : World) (h : SiAt w p s) :
    Calls Try.prog 13 #[siV p s, .int .u8 2] w fun e w' => e = .returned (.int .i64 r) ∧ Below w.heap.size w w' := by
  have HV := Lib.hid (fun (X : World) (hX : SiAt X p s) => c_srValid p s ok hok X hX)
  unfold siV at HV

  unfold siV
  obtain ⟨W, hW⟩ : ∃ W, W = w.alloc (.cells #[.slice p.a1 s.feeds.length p.c1, .slice p.a2 s.brks.length p.c2, .slice p.a3 s.loops.length p.c3, .slice p.a4 s.racks.length p.c4, .int .i64 s.sw, .slice p.a5 s.links.length p.c5, .slice p.a6 s.hosts.length p.c6] 29) := ⟨_, rfl⟩
  have B0 : Below w.heap.size w W := by subst hW; exact (Below.refl _ _).alloc (Nat.le_refl _) _
  have HB0 := Lib.hid B0
  have HX := Lib.hid (show SiBox W w.heap.size p s by subst hW; exact siBox_new _ _ _)
  have HA := Lib.hid (h.on B0 (Nat.le_refl _))
  have HF := Lib.hid (fun (X : World) (hX : Below W.heap.size W X) => (let z := HX.out.on hX (Nat.le_refl _); ⟨z.c0, z.c1, z.c2, z.c3, z.c4, z.c5, z.c6⟩ : X.cell? ⟨w.heap.size, 0, none⟩ = some (.slice p.a1 s.feeds.length p.c1) ∧ X.cell? ⟨w.heap.size, 1, none⟩ = some (.slice p.a2 s.brks.length p.c2) ∧ X.cell? ⟨w.heap.size, 2, none⟩ = some (.slice p.a3 s.loops.length p.c3) ∧ X.cell? ⟨w.heap.size, 3, none⟩ = some (.slice p.a4 s.racks.length p.c4) ∧ X.cell? ⟨w.heap.size, 4, none⟩ = some (.int .i64 s.sw) ∧ X.cell? ⟨w.heap.size, 5, none⟩ = some (.slice p.a5 s.links.length p.c5) ∧ X.cell? ⟨w.heap.size, 6, none⟩ = some (.slice p.a6 s.hosts.length p.c6)))
  have m1 := h.feeds.1; have m2 := h.brks.1; have m3 := h.loops.1; have m4 := h.racks.1; have m5 := h.links.1; have m6 := h.hosts.1
  have n1 := h.feeds.2.1; have n2 := h.brks.2.1; have n3 := h.loops.2.1; have n4 := h.racks.2.1; have n5 := h.links.2.1; have n6 := h.hosts.2.1
  unfold maxLen at n1 n2 n3 n4 n5 n6
  have KW := Lib.hid (Below.refl W.heap.size W)
  have hlw : w.heap.size < W.heap.size := HX.out.lt
  clear B0 h
  obtain ⟨f0, f1, f2, f3, f4, f5, f6⟩ := HF.out W KW.out
  rw [hW] at f0 f1 f2 f3 f4 f5 f6
  go_enter Try.func13, Try.ntmps13
  go_wp2_with (fail)
  rw [← hW]
  clear hW f0 f1 f2 f3 f4 f5 f6
  go_at_call 11
  refine (HV.out W HA.out).mono ?_
  rintro e w1 ⟨rfl, b1⟩
  have K1 := Lib.hid b1
  clear b1
  obtain ⟨f0, f1, f2, f3, f4, f5, f6⟩ := HF.out w1 K1.out
  cases ok
  · obtain rfl : 0 = r := hr
    go_wp2_with (fail)
    go_ret
    exact ⟨rfl, below_join HB0.out K1.out HB0.out.size⟩
  · obtain rfl : (s.racks.length : Int) = r := hr
    go_wp2_with (fail)
    go_ret
    exact ⟨rfl, below_join HB0.out K1.out HB0.out.size⟩
set_option maxHeartbeats 8000000 in
theorem c_rCount3 (p : SP) (s : SiteD) (ok : Bool) (hok : siteOk s = ok) (r : Int) (hr : (if ok = true then 4 else 0) = r) (w : World) (h : SiAt w p s) :
    Calls Try.prog 13 #[siV p s, .int .u8 3] w fun e w' => e = .returned (.int .i64 r) ∧ Below w.heap.size w w' := by
  have HV := Lib.hid (fun (X : World) (hX : SiAt X p s) => c_srValid p s ok hok X hX)
  unfold siV at HV

  unfold siV
  obtain ⟨W, hW⟩ : ∃ W, W = w.alloc (.cells #[.slice p.a1 s.feeds.length p.c1, .slice p.a2 s.brks.length p.c2, .slice p.a3 s.loops.length p.c3, .slice p.a4 s.racks.length p.c4, .int .i64 s.sw, .slice p.a5 s.links.length p.c5, .slice p.a6 s.hosts.length p.c6] 29) := ⟨_, rfl⟩
  have B0 : Below w.heap.size w W := by subst hW; exact (Below.refl _ _).alloc (Nat.le_refl _) _
  have HB0 := Lib.hid B0
  have HX := Lib.hid (show SiBox W w.heap.size p s by subst hW; exact siBox_new _ _ _)
  have HA := Lib.hid (h.on B0 (Nat.le_refl _))
  have HF := Lib.hid (fun (X : World) (hX : Below W.heap.size W X) => (let z := HX.out.on hX (Nat.le_refl _); ⟨z.c0, z.c1, z.c2, z.c3, z.c4, z.c5, z.c6⟩ : X.cell? ⟨w.heap.size, 0, none⟩ = some (.slice p.a1 s.feeds.length p.c1) ∧ X.cell? ⟨w.heap.size, 1, none⟩ = some (.slice p.a2 s.brks.length p.c2) ∧ X.cell? ⟨w.heap.size, 2, none⟩ = some (.slice p.a3 s.loops.length p.c3) ∧ X.cell? ⟨w.heap.size, 3, none⟩ = some (.slice p.a4 s.racks.length p.c4) ∧ X.cell? ⟨w.heap.size, 4, none⟩ = some (.int .i64 s.sw) ∧ X.cell? ⟨w.heap.size, 5, none⟩ = some (.slice p.a5 s.links.length p.c5) ∧ X.cell? ⟨w.heap.size, 6, none⟩ = some (.slice p.a6 s.hosts.length p.c6)))
  have m1 := h.feeds.1; have m2 := h.brks.1; have m3 := h.loops.1; have m4 := h.racks.1; have m5 := h.links.1; have m6 := h.hosts.1
  have n1 := h.feeds.2.1; have n2 := h.brks.2.1; have n3 := h.loops.2.1; have n4 := h.racks.2.1; have n5 := h.links.2.1; have n6 := h.hosts.2.1
  unfold maxLen at n1 n2 n3 n4 n5 n6
  have KW := Lib.hid (Below.refl W.heap.size W)
  have hlw : w.heap.size < W.heap.size := HX.out.lt
  clear B0 h
  obtain ⟨f0, f1, f2, f3, f4, f5, f6⟩ := HF.out W KW.out
  rw [hW] at f0 f1 f2 f3 f4 f5 f6
  go_enter Try.func13, Try.ntmps13
  go_wp2_with (fail)
  rw [← hW]
  clear hW f0 f1 f2 f3 f4 f5 f6
  go_at_call 11
  refine (HV.out W HA.out).mono ?_
  rintro e w1 ⟨rfl, b1⟩
  have K1 := Lib.hid b1
  clear b1
  obtain ⟨f0, f1, f2, f3, f4, f5, f6⟩ := HF.out w1 K1.out
  cases ok
  · obtain rfl : 0 = r := hr
    go_wp2_with (fail)
    go_ret
    exact ⟨rfl, below_join HB0.out K1.out HB0.out.size⟩
  · obtain rfl : 4 = r := hr
    go_wp2_with (fail)
    go_ret
    exact ⟨rfl, below_join HB0.out K1.out HB0.out.size⟩
set_option maxHeartbeats 8000000 in
theorem c_rCount4 (p : SP) (s : SiteD) (ok : Bool) (hok : siteOk s = ok) (r : Int) (hr : (if ok = true then (s.feeds.length : Int) else 0) = r) (w : World) (h : SiAt w p s) :
    Calls Try.prog 13 #[siV p s, .int .u8 4] w fun e w' => e = .returned (.int .i64 r) ∧ Below w.heap.size w w' := by
  have HV := Lib.hid (fun (X : World) (hX : SiAt X p s) => c_srValid p s ok hok X hX)
  unfold siV at HV

  unfold siV
  obtain ⟨W, hW⟩ : ∃ W, W = w.alloc (.cells #[.slice p.a1 s.feeds.length p.c1, .slice p.a2 s.brks.length p.c2, .slice p.a3 s.loops.length p.c3, .slice p.a4 s.racks.length p.c4, .int .i64 s.sw, .slice p.a5 s.links.length p.c5, .slice p.a6 s.hosts.length p.c6] 29) := ⟨_, rfl⟩
  have B0 : Below w.heap.size w W := by subst hW; exact (Below.refl _ _).alloc (Nat.le_refl _) _
  have HB0 := Lib.hid B0
  have HX := Lib.hid (show SiBox W w.heap.size p s by subst hW; exact siBox_new _ _ _)
  have HA := Lib.hid (h.on B0 (Nat.le_refl _))
  have HF := Lib.hid (fun (X : World) (hX : Below W.heap.size W X) => (let z := HX.out.on hX (Nat.le_refl _); ⟨z.c0, z.c1, z.c2, z.c3, z.c4, z.c5, z.c6⟩ : X.cell? ⟨w.heap.size, 0, none⟩ = some (.slice p.a1 s.feeds.length p.c1) ∧ X.cell? ⟨w.heap.size, 1, none⟩ = some (.slice p.a2 s.brks.length p.c2) ∧ X.cell? ⟨w.heap.size, 2, none⟩ = some (.slice p.a3 s.loops.length p.c3) ∧ X.cell? ⟨w.heap.size, 3, none⟩ = some (.slice p.a4 s.racks.length p.c4) ∧ X.cell? ⟨w.heap.size, 4, none⟩ = some (.int .i64 s.sw) ∧ X.cell? ⟨w.heap.size, 5, none⟩ = some (.slice p.a5 s.links.length p.c5) ∧ X.cell? ⟨w.heap.size, 6, none⟩ = some (.slice p.a6 s.hosts.length p.c6)))
  have m1 := h.feeds.1; have m2 := h.brks.1; have m3 := h.loops.1; have m4 := h.racks.1; have m5 := h.links.1; have m6 := h.hosts.1
  have n1 := h.feeds.2.1; have n2 := h.brks.2.1; have n3 := h.loops.2.1; have n4 := h.racks.2.1; have n5 := h.links.2.1; have n6 := h.hosts.2.1
  unfold maxLen at n1 n2 n3 n4 n5 n6
  have KW := Lib.hid (Below.refl W.heap.size W)
  have hlw : w.heap.size < W.heap.size := HX.out.lt
  clear B0 h
  obtain ⟨f0, f1, f2, f3, f4, f5, f6⟩ := HF.out W KW.out
  rw [hW] at f0 f1 f2 f3 f4 f5 f6
  go_enter Try.func13, Try.ntmps13
  go_wp2_with (fail)
  rw [← hW]
  clear hW f0 f1 f2 f3 f4 f5 f6
  go_at_call 11
  refine (HV.out W HA.out).mono ?_
  rintro e w1 ⟨rfl, b1⟩
  have K1 := Lib.hid b1
  clear b1
  obtain ⟨f0, f1, f2, f3, f4, f5, f6⟩ := HF.out w1 K1.out
  cases ok
  · obtain rfl : 0 = r := hr
    go_wp2_with (fail)
    go_ret
    exact ⟨rfl, below_join HB0.out K1.out HB0.out.size⟩
  · obtain rfl : (s.feeds.length : Int) = r := hr
    go_wp2_with (fail)
    go_ret
    exact ⟨rfl, below_join HB0.out K1.out HB0.out.size⟩
set_option maxHeartbeats 8000000 in
theorem c_rCount5 (p : SP) (s : SiteD) (ok : Bool) (hok : siteOk s = ok) (r : Int) (hr : (if ok = true then (s.loops.length : Int) else 0) = r) (w : World) (h : SiAt w p s) :
    Calls Try.prog 13 #[siV p s, .int .u8 5] w fun e w' => e = .returned (.int .i64 r) ∧ Below w.heap.size w w' := by
  have HV := Lib.hid (fun (X : World) (hX : SiAt X p s) => c_srValid p s ok hok X hX)
  unfold siV at HV

  unfold siV
  obtain ⟨W, hW⟩ : ∃ W, W = w.alloc (.cells #[.slice p.a1 s.feeds.length p.c1, .slice p.a2 s.brks.length p.c2, .slice p.a3 s.loops.length p.c3, .slice p.a4 s.racks.length p.c4, .int .i64 s.sw, .slice p.a5 s.links.length p.c5, .slice p.a6 s.hosts.length p.c6] 29) := ⟨_, rfl⟩
  have B0 : Below w.heap.size w W := by subst hW; exact (Below.refl _ _).alloc (Nat.le_refl _) _
  have HB0 := Lib.hid B0
  have HX := Lib.hid (show SiBox W w.heap.size p s by subst hW; exact siBox_new _ _ _)
  have HA := Lib.hid (h.on B0 (Nat.le_refl _))
  have HF := Lib.hid (fun (X : World) (hX : Below W.heap.size W X) => (let z := HX.out.on hX (Nat.le_refl _); ⟨z.c0, z.c1, z.c2, z.c3, z.c4, z.c5, z.c6⟩ : X.cell? ⟨w.heap.size, 0, none⟩ = some (.slice p.a1 s.feeds.length p.c1) ∧ X.cell? ⟨w.heap.size, 1, none⟩ = some (.slice p.a2 s.brks.length p.c2) ∧ X.cell? ⟨w.heap.size, 2, none⟩ = some (.slice p.a3 s.loops.length p.c3) ∧ X.cell? ⟨w.heap.size, 3, none⟩ = some (.slice p.a4 s.racks.length p.c4) ∧ X.cell? ⟨w.heap.size, 4, none⟩ = some (.int .i64 s.sw) ∧ X.cell? ⟨w.heap.size, 5, none⟩ = some (.slice p.a5 s.links.length p.c5) ∧ X.cell? ⟨w.heap.size, 6, none⟩ = some (.slice p.a6 s.hosts.length p.c6)))
  have m1 := h.feeds.1; have m2 := h.brks.1; have m3 := h.loops.1; have m4 := h.racks.1; have m5 := h.links.1; have m6 := h.hosts.1
  have n1 := h.feeds.2.1; have n2 := h.brks.2.1; have n3 := h.loops.2.1; have n4 := h.racks.2.1; have n5 := h.links.2.1; have n6 := h.hosts.2.1
  unfold maxLen at n1 n2 n3 n4 n5 n6
  have KW := Lib.hid (Below.refl W.heap.size W)
  have hlw : w.heap.size < W.heap.size := HX.out.lt
  clear B0 h
  obtain ⟨f0, f1, f2, f3, f4, f5, f6⟩ := HF.out W KW.out
  rw [hW] at f0 f1 f2 f3 f4 f5 f6
  go_enter Try.func13, Try.ntmps13
  go_wp2_with (fail)
  rw [← hW]
  clear hW f0 f1 f2 f3 f4 f5 f6
  go_at_call 11
  refine (HV.out W HA.out).mono ?_
  rintro e w1 ⟨rfl, b1⟩
  have K1 := Lib.hid b1
  clear b1
  obtain ⟨f0, f1, f2, f3, f4, f5, f6⟩ := HF.out w1 K1.out
  cases ok
  · obtain rfl : 0 = r := hr
    go_wp2_with (fail)
    go_ret
    exact ⟨rfl, below_join HB0.out K1.out HB0.out.size⟩
  · obtain rfl : (s.loops.length : Int) = r := hr
    go_wp2_with (fail)
    go_ret
    exact ⟨rfl, below_join HB0.out K1.out HB0.out.size⟩
theorem c_rCount (p : SP) (s : SiteD) (d : Nat) (hd : d < 256) (r : Int) (hr : cntD s d = r) (w : World) (h : SiAt w p s) :
    Calls Try.prog 13 #[siV p s, .int .u8 (d : Int)] w fun e w' => e = .returned (.int .i64 r) ∧ Below w.heap.size w w' := by
  unfold cntD at hr
  obtain ⟨ok, hok⟩ : ∃ b, siteOk s = b := ⟨_, rfl⟩
  rw [hok] at hr
  by_cases hno : 1 ≤ d ∧ d ≤ 5
  · rcases (by omega : d = 1 ∨ d = 2 ∨ d = 3 ∨ d = 4 ∨ d = 5) with rfl | rfl | rfl | rfl | rfl
    · exact c_rCount1 p s ok hok r hr w h
    · exact c_rCount2 p s ok hok r hr w h
    · exact c_rCount3 p s ok hok r hr w h
    · exact c_rCount4 p s ok hok r hr w h
    · exact c_rCount5 p s ok hok r hr w h
  · have h0 : cntOf s d = 0 := by unfold cntOf; split <;> first | rfl | (exfalso; omega)
    rw [h0] at hr
    exact c_rCountNone p s d hd hno ok hok r hr w h
set_option maxHeartbeats 8000000 in
theorem c_rDomNone (p : SP) (s : SiteD) (d : Nat) (hd : d < 256) (hno : ¬ (1 ≤ d ∧ d ≤ 5)) (host r : Int) (hr : domD s d host = r) (w : World) (h : SiAt w p s) :
    Calls Try.prog 15 #[siV p s, .int .u8 (d : Int), .int .i64 host] w fun e w' => e = .returned (.int .i64 r) ∧ Below w.heap.size w w' := by
  obtain ⟨ok, hok⟩ : ∃ b, siteOk s = b := ⟨_, rfl⟩
  have HV := Lib.hid (fun (X : World) (hX : SiAt X p s) => c_srValid p s ok hok X hX)
  have HOK := Lib.hid hok
  unfold siV at HV
  have d1 : ((d : Int) == 1) = false := by rw [beq_eq_false_iff_ne]; omega
  have d2 : ((d : Int) == 2) = false := by rw [beq_eq_false_iff_ne]; omega
  have d3 : ((d : Int) == 3) = false := by rw [beq_eq_false_iff_ne]; omega
  have d4 : ((d : Int) == 4) = false := by rw [beq_eq_false_iff_ne]; omega
  have d5 : ((d : Int) == 5) = false := by rw [beq_eq_false_iff_ne]; omega

  unfold siV
  obtain ⟨W, hW⟩ : ∃ W, W = w.alloc (.cells #[.slice p.a1 s.feeds.length p.c1, .slice p.a2 s.brks.length p.c2, .slice p.a3 s.loops.length p.c3, .slice p.a4 s.racks.length p.c4, .int .i64 s.sw, .slice p.a5 s.links.length p.c5, .slice p.a6 s.hosts.length p.c6] 29) := ⟨_, rfl⟩
  have B0 : Below w.heap.size w W := by subst hW; exact (Below.refl _ _).alloc (Nat.le_refl _) _
  have HB0 := Lib.hid B0
  have HX := Lib.hid (show SiBox W w.heap.size p s by subst hW; exact siBox_new _ _ _)
  have HA := Lib.hid (h.on B0 (Nat.le_refl _))
  have HF := Lib.hid (fun (X : World) (hX : Below W.heap.size W X) => (let z := HX.out.on hX (Nat.le_refl _); ⟨z.c0, z.c1, z.c2, z.c3, z.c4, z.c5, z.c6⟩ : X.cell? ⟨w.heap.size, 0, none⟩ = some (.slice p.a1 s.feeds.length p.c1) ∧ X.cell? ⟨w.heap.size, 1, none⟩ = some (.slice p.a2 s.brks.length p.c2) ∧ X.cell? ⟨w.heap.size, 2, none⟩ = some (.slice p.a3 s.loops.length p.c3) ∧ X.cell? ⟨w.heap.size, 3, none⟩ = some (.slice p.a4 s.racks.length p.c4) ∧ X.cell? ⟨w.heap.size, 4, none⟩ = some (.int .i64 s.sw) ∧ X.cell? ⟨w.heap.size, 5, none⟩ = some (.slice p.a5 s.links.length p.c5) ∧ X.cell? ⟨w.heap.size, 6, none⟩ = some (.slice p.a6 s.hosts.length p.c6)))
  have m1 := h.feeds.1; have m2 := h.brks.1; have m3 := h.loops.1; have m4 := h.racks.1; have m5 := h.links.1; have m6 := h.hosts.1
  have n1 := h.feeds.2.1; have n2 := h.brks.2.1; have n3 := h.loops.2.1; have n4 := h.racks.2.1; have n5 := h.links.2.1; have n6 := h.hosts.2.1
  unfold maxLen at n1 n2 n3 n4 n5 n6
  have KW := Lib.hid (Below.refl W.heap.size W)
  have hlw : w.heap.size < W.heap.size := HX.out.lt
  have HR := Lib.hid hr
  clear B0 h hr hok
  obtain ⟨f0, f1, f2, f3, f4, f5, f6⟩ := HF.out W KW.out
  rw [hW] at f0 f1 f2 f3 f4 f5 f6
  go_enter Try.func15, Try.ntmps15
  go_wp2_with (fail)
  rw [← hW]
  clear hW f0 f1 f2 f3 f4 f5 f6
  go_at_call 11
  refine (HV.out W HA.out).mono ?_
  rintro e w1 ⟨rfl, b1⟩
  have K1 := Lib.hid b1
  have HA1 := Lib.hid (HA.out.on b1 (Nat.le_refl _))
  clear b1
  obtain ⟨f0, f1, f2, f3, f4, f5, f6⟩ := HF.out w1 K1.out
  cases ok
  · obtain rfl : -1 = r := by rw [← HR.out]; unfold domD; rw [if_neg (by rw [HOK.out]; rintro ⟨h, -⟩; cases h)]
    go_wp2_with (fail)
    go_ret
    exact ⟨rfl, below_join HB0.out K1.out HB0.out.size⟩
  rcases h1 : decide (host < 0) with _ | _
  rotate_left
  · obtain rfl : -1 = r := by rw [← HR.out]; unfold domD; rw [if_neg (by rintro ⟨-, -, h⟩; have h2 := ixB_iff.1 h; have h3 := of_decide_eq_true h1; omega)]
    go_wp2_with (fail)
    go_ret
    exact ⟨rfl, below_join HB0.out K1.out HB0.out.size⟩
  rcases h2 : decide ((s.hosts.length : Int) ≤ host) with _ | _
  rotate_left
  · obtain rfl : -1 = r := by rw [← HR.out]; unfold domD; rw [if_neg (by rintro ⟨-, -, h⟩; have h4 := ixB_iff.1 h; have h3 := of_decide_eq_true h2; omega)]
    go_wp2_with (fail)
    go_ret
    exact ⟨rfl, below_join HB0.out K1.out HB0.out.size⟩
  have h1' := of_decide_eq_false h1
  have h2' := of_decide_eq_false h2
  obtain ⟨k, rfl⟩ : ∃ k : Nat, host = (k : Int) := ⟨host.toNat, by omega⟩
  have hk : k < s.hosts.length := by omega
  have hsok := siteOk_iff.1 HOK.out
  obtain ⟨m, hm, hm1, hmr, -⟩ := rk_ok hsok hk
  obtain ⟨hb, ho, he, y0⟩ := host_row HA1.out hk
  obtain ⟨rb, ro, hre, z0, z1, z2, z3⟩ := rack_row HA1.out hmr
  rw [hm] at y0
  rw [he] at f6
  rw [hre] at f3
  have hkk : (k : Int) < ((s.hosts.length : Nat) : Int) := by omega
  have hmm : (m : Int) < ((s.racks.length : Nat) : Int) := by omega
  have ht1 : ((k : Nat) : Int).toNat = k := by omega
  have ht2 : ((m : Nat) : Int).toNat = m := by omega
  obtain rfl : -1 = r := by rw [← HR.out]; unfold domD; rw [if_neg (by rintro ⟨-, h, -⟩; exact hno h)]
  clear he hre hm hmr h1' h2' hsok
  go_wp2_with (fail)
  go_ret
  exact ⟨rfl, below_join HB0.out K1.out HB0.out.size⟩
set_option maxHeartbeats 8000000 in
theorem c_rDom1 (p : SP) (s : SiteD) (host r : Int) (hr : domD s 1 host = r) (w : World) (h : SiAt w p s) :
    Calls Try.prog 15 #[siV p s, .int .u8 1, .int .i64 host] w fun e w' => e = .returned (.int .i64 r) ∧ Below w.heap.size w w' := by
  obtain ⟨ok, hok⟩ : ∃ b, siteOk s = b := ⟨_, rfl⟩
  have HV := Lib.hid (fun (X : World) (hX : SiAt X p s) => c_srValid p s ok hok X hX)
  have HOK := Lib.hid hok
  unfold siV at HV

  unfold siV
  obtain ⟨W, hW⟩ : ∃ W, W = w.alloc (.cells #[.slice p.a1 s.feeds.length p.c1, .slice p.a2 s.brks.length p.c2, .slice p.a3 s.loops.length p.c3, .slice p.a4 s.racks.length p.c4, .int .i64 s.sw, .slice p.a5 s.links.length p.c5, .slice p.a6 s.hosts.length p.c6] 29) := ⟨_, rfl⟩
  have B0 : Below w.heap.size w W := by subst hW; exact (Below.refl _ _).alloc (Nat.le_refl _) _
  have HB0 := Lib.hid B0
  have HX := Lib.hid (show SiBox W w.heap.size p s by subst hW; exact siBox_new _ _ _)
  have HA := Lib.hid (h.on B0 (Nat.le_refl _))
  have HF := Lib.hid (fun (X : World) (hX : Below W.heap.size W X) => (let z := HX.out.on hX (Nat.le_refl _); ⟨z.c0, z.c1, z.c2, z.c3, z.c4, z.c5, z.c6⟩ : X.cell? ⟨w.heap.size, 0, none⟩ = some (.slice p.a1 s.feeds.length p.c1) ∧ X.cell? ⟨w.heap.size, 1, none⟩ = some (.slice p.a2 s.brks.length p.c2) ∧ X.cell? ⟨w.heap.size, 2, none⟩ = some (.slice p.a3 s.loops.length p.c3) ∧ X.cell? ⟨w.heap.size, 3, none⟩ = some (.slice p.a4 s.racks.length p.c4) ∧ X.cell? ⟨w.heap.size, 4, none⟩ = some (.int .i64 s.sw) ∧ X.cell? ⟨w.heap.size, 5, none⟩ = some (.slice p.a5 s.links.length p.c5) ∧ X.cell? ⟨w.heap.size, 6, none⟩ = some (.slice p.a6 s.hosts.length p.c6)))
  have m1 := h.feeds.1; have m2 := h.brks.1; have m3 := h.loops.1; have m4 := h.racks.1; have m5 := h.links.1; have m6 := h.hosts.1
  have n1 := h.feeds.2.1; have n2 := h.brks.2.1; have n3 := h.loops.2.1; have n4 := h.racks.2.1; have n5 := h.links.2.1; have n6 := h.hosts.2.1
  unfold maxLen at n1 n2 n3 n4 n5 n6
  have KW := Lib.hid (Below.refl W.heap.size W)
  have hlw : w.heap.size < W.heap.size := HX.out.lt
  have HR := Lib.hid hr
  clear B0 h hr hok
  obtain ⟨f0, f1, f2, f3, f4, f5, f6⟩ := HF.out W KW.out
  rw [hW] at f0 f1 f2 f3 f4 f5 f6
  go_enter Try.func15, Try.ntmps15
  go_wp2_with (fail)
  rw [← hW]
  clear hW f0 f1 f2 f3 f4 f5 f6
  go_at_call 11
  refine (HV.out W HA.out).mono ?_
  rintro e w1 ⟨rfl, b1⟩
  have K1 := Lib.hid b1
  have HA1 := Lib.hid (HA.out.on b1 (Nat.le_refl _))
  clear b1
  obtain ⟨f0, f1, f2, f3, f4, f5, f6⟩ := HF.out w1 K1.out
  cases ok
  · obtain rfl : -1 = r := by rw [← HR.out]; unfold domD; rw [if_neg (by rw [HOK.out]; rintro ⟨h, -⟩; cases h)]
    go_wp2_with (fail)
    go_ret
    exact ⟨rfl, below_join HB0.out K1.out HB0.out.size⟩
  rcases h1 : decide (host < 0) with _ | _
  rotate_left
  · obtain rfl : -1 = r := by rw [← HR.out]; unfold domD; rw [if_neg (by rintro ⟨-, -, h⟩; have h2 := ixB_iff.1 h; have h3 := of_decide_eq_true h1; omega)]
    go_wp2_with (fail)
    go_ret
    exact ⟨rfl, below_join HB0.out K1.out HB0.out.size⟩
  rcases h2 : decide ((s.hosts.length : Int) ≤ host) with _ | _
  rotate_left
  · obtain rfl : -1 = r := by rw [← HR.out]; unfold domD; rw [if_neg (by rintro ⟨-, -, h⟩; have h4 := ixB_iff.1 h; have h3 := of_decide_eq_true h2; omega)]
    go_wp2_with (fail)
    go_ret
    exact ⟨rfl, below_join HB0.out K1.out HB0.out.size⟩
  have h1' := of_decide_eq_false h1
  have h2' := of_decide_eq_false h2
  obtain ⟨k, rfl⟩ : ∃ k : Nat, host = (k : Int) := ⟨host.toNat, by omega⟩
  have hk : k < s.hosts.length := by omega
  have hsok := siteOk_iff.1 HOK.out
  obtain ⟨m, hm, hm1, hmr, -⟩ := rk_ok hsok hk
  obtain ⟨hb, ho, he, y0⟩ := host_row HA1.out hk
  obtain ⟨rb, ro, hre, z0, z1, z2, z3⟩ := rack_row HA1.out hmr
  rw [hm] at y0
  rw [he] at f6
  rw [hre] at f3
  have hkk : (k : Int) < ((s.hosts.length : Nat) : Int) := by omega
  have hmm : (m : Int) < ((s.racks.length : Nat) : Int) := by omega
  have ht1 : ((k : Nat) : Int).toNat = k := by omega
  have ht2 : ((m : Nat) : Int).toNat = m := by omega
  obtain rfl : (k : Int) = r := by rw [← HR.out]; unfold domD; rw [if_pos ⟨HOK.out, by decide, ixB_iff.2 ⟨by omega, by omega⟩⟩]; rfl
  clear he hre hm hmr h1' h2' hsok
  go_wp2_with (fail)
  go_ret
  exact ⟨rfl, below_join HB0.out K1.out HB0.out.size⟩
set_option maxHeartbeats 8000000 in
theorem c_rDom2 (p : SP) (s : SiteD) (host r : Int) (hr : domD s 2 host = r) (w : World) (h : SiAt w p s) :
    Calls Try.prog 15 #[siV p s, .int .u8 2, .int .i64 host] w fun e w' => e = .returned (.int .i64 r) ∧ Below w.heap.size w w' := by
  obtain ⟨ok, hok⟩ : ∃ b, siteOk s = b := ⟨_, rfl⟩
  have HV := Lib.hid (fun (X : World) (hX : SiAt X p s) => c_srValid p s ok hok X hX)
  have HOK := Lib.hid hok
  unfold siV at HV

  unfold siV
  obtain ⟨W, hW⟩ : ∃ W, W = w.alloc (.cells #[.slice p.a1 s.feeds.length p.c1, .slice p.a2 s.brks.length p.c2, .slice p.a3 s.loops.length p.c3, .slice p.a4 s.racks.length p.c4, .int .i64 s.sw, .slice p.a5 s.links.length p.c5, .slice p.a6 s.hosts.length p.c6] 29) := ⟨_, rfl⟩
  have B0 : Below w.heap.size w W := by subst hW; exact (Below.refl _ _).alloc (Nat.le_refl _) _
  have HB0 := Lib.hid B0
  have HX := Lib.hid (show SiBox W w.heap.size p s by subst hW; exact siBox_new _ _ _)
  have HA := Lib.hid (h.on B0 (Nat.le_refl _))
  have HF := Lib.hid (fun (X : World) (hX : Below W.heap.size W X) => (let z := HX.out.on hX (Nat.le_refl _); ⟨z.c0, z.c1, z.c2, z.c3, z.c4, z.c5, z.c6⟩ : X.cell? ⟨w.heap.size, 0, none⟩ = some (.slice p.a1 s.feeds.length p.c1) ∧ X.cell? ⟨w.heap.size, 1, none⟩ = some (.slice p.a2 s.brks.length p.c2) ∧ X.cell? ⟨w.heap.size, 2, none⟩ = some (.slice p.a3 s.loops.length p.c3) ∧ X.cell? ⟨w.heap.size, 3, none⟩ = some (.slice p.a4 s.racks.length p.c4) ∧ X.cell? ⟨w.heap.size, 4, none⟩ = some (.int .i64 s.sw) ∧ X.cell? ⟨w.heap.size, 5, none⟩ = some (.slice p.a5 s.links.length p.c5) ∧ X.cell? ⟨w.heap.size, 6, none⟩ = some (.slice p.a6 s.hosts.length p.c6)))
  have m1 := h.feeds.1; have m2 := h.brks.1; have m3 := h.loops.1; have m4 := h.racks.1; have m5 := h.links.1; have m6 := h.hosts.1
  have n1 := h.feeds.2.1; have n2 := h.brks.2.1; have n3 := h.loops.2.1; have n4 := h.racks.2.1; have n5 := h.links.2.1; have n6 := h.hosts.2.1
  unfold maxLen at n1 n2 n3 n4 n5 n6
  have KW := Lib.hid (Below.refl W.heap.size W)
  have hlw : w.heap.size < W.heap.size := HX.out.lt
  have HR := Lib.hid hr
  clear B0 h hr hok
  obtain ⟨f0, f1, f2, f3, f4, f5, f6⟩ := HF.out W KW.out
  rw [hW] at f0 f1 f2 f3 f4 f5 f6
  go_enter Try.func15, Try.ntmps15
  go_wp2_with (fail)
  rw [← hW]
  clear hW f0 f1 f2 f3 f4 f5 f6
  go_at_call 11
  refine (HV.out W HA.out).mono ?_
  rintro e w1 ⟨rfl, b1⟩
  have K1 := Lib.hid b1
  have HA1 := Lib.hid (HA.out.on b1 (Nat.le_refl _))
  clear b1
  obtain ⟨f0, f1, f2, f3, f4, f5, f6⟩ := HF.out w1 K1.out
  cases ok
  · obtain rfl : -1 = r := by rw [← HR.out]; unfold domD; rw [if_neg (by rw [HOK.out]; rintro ⟨h, -⟩; cases h)]
    go_wp2_with (fail)
    go_ret
    exact ⟨rfl, below_join HB0.out K1.out HB0.out.size⟩
  rcases h1 : decide (host < 0) with _ | _
  rotate_left
  · obtain rfl : -1 = r := by rw [← HR.out]; unfold domD; rw [if_neg (by rintro ⟨-, -, h⟩; have h2 := ixB_iff.1 h; have h3 := of_decide_eq_true h1; omega)]
    go_wp2_with (fail)
    go_ret
    exact ⟨rfl, below_join HB0.out K1.out HB0.out.size⟩
  rcases h2 : decide ((s.hosts.length : Int) ≤ host) with _ | _
  rotate_left
  · obtain rfl : -1 = r := by rw [← HR.out]; unfold domD; rw [if_neg (by rintro ⟨-, -, h⟩; have h4 := ixB_iff.1 h; have h3 := of_decide_eq_true h2; omega)]
    go_wp2_with (fail)
    go_ret
    exact ⟨rfl, below_join HB0.out K1.out HB0.out.size⟩
  have h1' := of_decide_eq_false h1
  have h2' := of_decide_eq_false h2
  obtain ⟨k, rfl⟩ : ∃ k : Nat, host = (k : Int) := ⟨host.toNat, by omega⟩
  have hk : k < s.hosts.length := by omega
  have hsok := siteOk_iff.1 HOK.out
  obtain ⟨m, hm, hm1, hmr, -⟩ := rk_ok hsok hk
  obtain ⟨hb, ho, he, y0⟩ := host_row HA1.out hk
  obtain ⟨rb, ro, hre, z0, z1, z2, z3⟩ := rack_row HA1.out hmr
  rw [hm] at y0
  rw [he] at f6
  rw [hre] at f3
  have hkk : (k : Int) < ((s.hosts.length : Nat) : Int) := by omega
  have hmm : (m : Int) < ((s.racks.length : Nat) : Int) := by omega
  have ht1 : ((k : Nat) : Int).toNat = k := by omega
  have ht2 : ((m : Nat) : Int).toNat = m := by omega
  obtain rfl : (m : Int) = r := by rw [← HR.out, ← hm]; unfold domD; rw [if_pos ⟨HOK.out, by decide, ixB_iff.2 ⟨by omega, by omega⟩⟩]; rfl
  clear he hre hm hmr h1' h2' hsok
  go_wp2_with (fail)
  go_ret
  exact ⟨rfl, below_join HB0.out K1.out HB0.out.size⟩
set_option maxHeartbeats 8000000 in
theorem c_rDom3 (p : SP) (s : SiteD) (host r : Int) (hr : domD s 3 host = r) (w : World) (h : SiAt w p s) :
    Calls Try.prog 15 #[siV p s, .int .u8 3, .int .i64 host] w fun e w' => e = .returned (.int .i64 r) ∧ Below w.heap.size w w' := by
  obtain ⟨ok, hok⟩ : ∃ b, siteOk s = b := ⟨_, rfl⟩
  have HV := Lib.hid (fun (X : World) (hX : SiAt X p s) => c_srValid p s ok hok X hX)
  have HOK := Lib.hid hok
  unfold siV at HV

  unfold siV
  obtain ⟨W, hW⟩ : ∃ W, W = w.alloc (.cells #[.slice p.a1 s.feeds.length p.c1, .slice p.a2 s.brks.length p.c2, .slice p.a3 s.loops.length p.c3, .slice p.a4 s.racks.length p.c4, .int .i64 s.sw, .slice p.a5 s.links.length p.c5, .slice p.a6 s.hosts.length p.c6] 29) := ⟨_, rfl⟩
  have B0 : Below w.heap.size w W := by subst hW; exact (Below.refl _ _).alloc (Nat.le_refl _) _
  have HB0 := Lib.hid B0
  have HX := Lib.hid (show SiBox W w.heap.size p s by subst hW; exact siBox_new _ _ _)
  have HA := Lib.hid (h.on B0 (Nat.le_refl _))
  have HF := Lib.hid (fun (X : World) (hX : Below W.heap.size W X) => (let z := HX.out.on hX (Nat.le_refl _); ⟨z.c0, z.c1, z.c2, z.c3, z.c4, z.c5, z.c6⟩ : X.cell? ⟨w.heap.size, 0, none⟩ = some (.slice p.a1 s.feeds.length p.c1) ∧ X.cell? ⟨w.heap.size, 1, none⟩ = some (.slice p.a2 s.brks.length p.c2) ∧ X.cell? ⟨w.heap.size, 2, none⟩ = some (.slice p.a3 s.loops.length p.c3) ∧ X.cell? ⟨w.heap.size, 3, none⟩ = some (.slice p.a4 s.racks.length p.c4) ∧ X.cell? ⟨w.heap.size, 4, none⟩ = some (.int .i64 s.sw) ∧ X.cell? ⟨w.heap.size, 5, none⟩ = some (.slice p.a5 s.links.length p.c5) ∧ X.cell? ⟨w.heap.size, 6, none⟩ = some (.slice p.a6 s.hosts.length p.c6)))
  have m1 := h.feeds.1; have m2 := h.brks.1; have m3 := h.loops.1; have m4 := h.racks.1; have m5 := h.links.1; have m6 := h.hosts.1
  have n1 := h.feeds.2.1; have n2 := h.brks.2.1; have n3 := h.loops.2.1; have n4 := h.racks.2.1; have n5 := h.links.2.1; have n6 := h.hosts.2.1
  unfold maxLen at n1 n2 n3 n4 n5 n6
  have KW := Lib.hid (Below.refl W.heap.size W)
  have hlw : w.heap.size < W.heap.size := HX.out.lt
  have HR := Lib.hid hr
  clear B0 h hr hok
  obtain ⟨f0, f1, f2, f3, f4, f5, f6⟩ := HF.out W KW.out
  rw [hW] at f0 f1 f2 f3 f4 f5 f6
  go_enter Try.func15, Try.ntmps15
  go_wp2_with (fail)
  rw [← hW]
  clear hW f0 f1 f2 f3 f4 f5 f6
  go_at_call 11
  refine (HV.out W HA.out).mono ?_
  rintro e w1 ⟨rfl, b1⟩
  have K1 := Lib.hid b1
  have HA1 := Lib.hid (HA.out.on b1 (Nat.le_refl _))
  clear b1
  obtain ⟨f0, f1, f2, f3, f4, f5, f6⟩ := HF.out w1 K1.out
  cases ok
  · obtain rfl : -1 = r := by rw [← HR.out]; unfold domD; rw [if_neg (by rw [HOK.out]; rintro ⟨h, -⟩; cases h)]
    go_wp2_with (fail)
    go_ret
    exact ⟨rfl, below_join HB0.out K1.out HB0.out.size⟩
  rcases h1 : decide (host < 0) with _ | _
  rotate_left
  · obtain rfl : -1 = r := by rw [← HR.out]; unfold domD; rw [if_neg (by rintro ⟨-, -, h⟩; have h2 := ixB_iff.1 h; have h3 := of_decide_eq_true h1; omega)]
    go_wp2_with (fail)
    go_ret
    exact ⟨rfl, below_join HB0.out K1.out HB0.out.size⟩
  rcases h2 : decide ((s.hosts.length : Int) ≤ host) with _ | _
  rotate_left
  · obtain rfl : -1 = r := by rw [← HR.out]; unfold domD; rw [if_neg (by rintro ⟨-, -, h⟩; have h4 := ixB_iff.1 h; have h3 := of_decide_eq_true h2; omega)]
    go_wp2_with (fail)
    go_ret
    exact ⟨rfl, below_join HB0.out K1.out HB0.out.size⟩
  have h1' := of_decide_eq_false h1
  have h2' := of_decide_eq_false h2
  obtain ⟨k, rfl⟩ : ∃ k : Nat, host = (k : Int) := ⟨host.toNat, by omega⟩
  have hk : k < s.hosts.length := by omega
  have hsok := siteOk_iff.1 HOK.out
  obtain ⟨m, hm, hm1, hmr, -⟩ := rk_ok hsok hk
  obtain ⟨hb, ho, he, y0⟩ := host_row HA1.out hk
  obtain ⟨rb, ro, hre, z0, z1, z2, z3⟩ := rack_row HA1.out hmr
  rw [hm] at y0
  rw [he] at f6
  rw [hre] at f3
  have hkk : (k : Int) < ((s.hosts.length : Nat) : Int) := by omega
  have hmm : (m : Int) < ((s.racks.length : Nat) : Int) := by omega
  have ht1 : ((k : Nat) : Int).toNat = k := by omega
  have ht2 : ((m : Nat) : Int).toNat = m := by omega
  obtain rfl : (rkAt s k).row = r := by rw [← HR.out]; unfold domD; rw [if_pos ⟨HOK.out, by decide, ixB_iff.2 ⟨by omega, by omega⟩⟩]; rfl
  clear he hre hm hmr h1' h2' hsok
  go_wp2_with (fail)
  go_ret
  exact ⟨rfl, below_join HB0.out K1.out HB0.out.size⟩
set_option maxHeartbeats 8000000 in
theorem c_rDom4 (p : SP) (s : SiteD) (host r : Int) (hr : domD s 4 host = r) (w : World) (h : SiAt w p s) :
    Calls Try.prog 15 #[siV p s, .int .u8 4, .int .i64 host] w fun e w' => e = .returned (.int .i64 r) ∧ Below w.heap.size w w' := by
  obtain ⟨ok, hok⟩ : ∃ b, siteOk s = b := ⟨_, rfl⟩
  have HV := Lib.hid (fun (X : World) (hX : SiAt X p s) => c_srValid p s ok hok X hX)
  have HOK := Lib.hid hok
  unfold siV at HV

  unfold siV
  obtain ⟨W, hW⟩ : ∃ W, W = w.alloc (.cells #[.slice p.a1 s.feeds.length p.c1, .slice p.a2 s.brks.length p.c2, .slice p.a3 s.loops.length p.c3, .slice p.a4 s.racks.length p.c4, .int .i64 s.sw, .slice p.a5 s.links.length p.c5, .slice p.a6 s.hosts.length p.c6] 29) := ⟨_, rfl⟩
  have B0 : Below w.heap.size w W := by subst hW; exact (Below.refl _ _).alloc (Nat.le_refl _) _
  have HB0 := Lib.hid B0
  have HX := Lib.hid (show SiBox W w.heap.size p s by subst hW; exact siBox_new _ _ _)
  have HA := Lib.hid (h.on B0 (Nat.le_refl _))
  have HF := Lib.hid (fun (X : World) (hX : Below W.heap.size W X) => (let z := HX.out.on hX (Nat.le_refl _); ⟨z.c0, z.c1, z.c2, z.c3, z.c4, z.c5, z.c6⟩ : X.cell? ⟨w.heap.size, 0, none⟩ = some (.slice p.a1 s.feeds.length p.c1) ∧ X.cell? ⟨w.heap.size, 1, none⟩ = some (.slice p.a2 s.brks.length p.c2) ∧ X.cell? ⟨w.heap.size, 2, none⟩ = some (.slice p.a3 s.loops.length p.c3) ∧ X.cell? ⟨w.heap.size, 3, none⟩ = some (.slice p.a4 s.racks.length p.c4) ∧ X.cell? ⟨w.heap.size, 4, none⟩ = some (.int .i64 s.sw) ∧ X.cell? ⟨w.heap.size, 5, none⟩ = some (.slice p.a5 s.links.length p.c5) ∧ X.cell? ⟨w.heap.size, 6, none⟩ = some (.slice p.a6 s.hosts.length p.c6)))
  have m1 := h.feeds.1; have m2 := h.brks.1; have m3 := h.loops.1; have m4 := h.racks.1; have m5 := h.links.1; have m6 := h.hosts.1
  have n1 := h.feeds.2.1; have n2 := h.brks.2.1; have n3 := h.loops.2.1; have n4 := h.racks.2.1; have n5 := h.links.2.1; have n6 := h.hosts.2.1
  unfold maxLen at n1 n2 n3 n4 n5 n6
  have KW := Lib.hid (Below.refl W.heap.size W)
  have hlw : w.heap.size < W.heap.size := HX.out.lt
  have HR := Lib.hid hr
  clear B0 h hr hok
  obtain ⟨f0, f1, f2, f3, f4, f5, f6⟩ := HF.out W KW.out
  rw [hW] at f0 f1 f2 f3 f4 f5 f6
  go_enter Try.func15, Try.ntmps15
  go_wp2_with (fail)
  rw [← hW]
  clear hW f0 f1 f2 f3 f4 f5 f6
  go_at_call 11
  refine (HV.out W HA.out).mono ?_
  rintro e w1 ⟨rfl, b1⟩
  have K1 := Lib.hid b1
  have HA1 := Lib.hid (HA.out.on b1 (Nat.le_refl _))
  clear b1
  obtain ⟨f0, f1, f2, f3, f4, f5, f6⟩ := HF.out w1 K1.out
  cases ok
  · obtain rfl : -1 = r := by rw [← HR.out]; unfold domD; rw [if_neg (by rw [HOK.out]; rintro ⟨h, -⟩; cases h)]
    go_wp2_with (fail)
    go_ret
    exact ⟨rfl, below_join HB0.out K1.out HB0.out.size⟩
  rcases h1 : decide (host < 0) with _ | _
  rotate_left
  · obtain rfl : -1 = r := by rw [← HR.out]; unfold domD; rw [if_neg (by rintro ⟨-, -, h⟩; have h2 := ixB_iff.1 h; have h3 := of_decide_eq_true h1; omega)]
    go_wp2_with (fail)
    go_ret
    exact ⟨rfl, below_join HB0.out K1.out HB0.out.size⟩
  rcases h2 : decide ((s.hosts.length : Int) ≤ host) with _ | _
  rotate_left
  · obtain rfl : -1 = r := by rw [← HR.out]; unfold domD; rw [if_neg (by rintro ⟨-, -, h⟩; have h4 := ixB_iff.1 h; have h3 := of_decide_eq_true h2; omega)]
    go_wp2_with (fail)
    go_ret
    exact ⟨rfl, below_join HB0.out K1.out HB0.out.size⟩
  have h1' := of_decide_eq_false h1
  have h2' := of_decide_eq_false h2
  obtain ⟨k, rfl⟩ : ∃ k : Nat, host = (k : Int) := ⟨host.toNat, by omega⟩
  have hk : k < s.hosts.length := by omega
  have hsok := siteOk_iff.1 HOK.out
  obtain ⟨m, hm, hm1, hmr, -⟩ := rk_ok hsok hk
  obtain ⟨hb, ho, he, y0⟩ := host_row HA1.out hk
  obtain ⟨rb, ro, hre, z0, z1, z2, z3⟩ := rack_row HA1.out hmr
  rw [hm] at y0
  rw [he] at f6
  rw [hre] at f3
  have hkk : (k : Int) < ((s.hosts.length : Nat) : Int) := by omega
  have hmm : (m : Int) < ((s.racks.length : Nat) : Int) := by omega
  have ht1 : ((k : Nat) : Int).toNat = k := by omega
  have ht2 : ((m : Nat) : Int).toNat = m := by omega
  obtain ⟨y, hy⟩ : ∃ y, feedAt s k = y := ⟨_, rfl⟩
  obtain rfl : y = r := by rw [← HR.out, ← hy]; unfold domD; rw [if_pos ⟨HOK.out, by decide, ixB_iff.2 ⟨by omega, by omega⟩⟩]; rfl
  obtain ⟨q, x, hq, hq1, hqx, hfx, -⟩ := feed_ok hsok hk
  obtain ⟨bb, bo, hbe, b0⟩ := brk_row HA1.out hqx
  rw [hbe] at f1
  rw [hq] at z1
  rw [← hfx] at b0
  have hqq : (q : Int) < ((s.brks.length : Nat) : Int) := by omega
  have ht3 : ((q : Nat) : Int).toNat = q := by omega
  rw [hy] at b0
  clear hq hqx hfx hbe hy
  clear he hre hm hmr h1' h2' hsok
  go_wp2_with (fail)
  go_quiet (fail)
  go_wp2_with (fail)
  go_ret
  exact ⟨rfl, below_join HB0.out (below_drewN K1.out) HB0.out.size⟩
set_option maxHeartbeats 8000000 in
theorem c_rDom5 (p : SP) (s : SiteD) (host r : Int) (hr : domD s 5 host = r) (w : World) (h : SiAt w p s) :
    Calls Try.prog 15 #[siV p s, .int .u8 5, .int .i64 host] w fun e w' => e = .returned (.int .i64 r) ∧ Below w.heap.size w w' := by
  obtain ⟨ok, hok⟩ : ∃ b, siteOk s = b := ⟨_, rfl⟩
  have HV := Lib.hid (fun (X : World) (hX : SiAt X p s) => c_srValid p s ok hok X hX)
  have HOK := Lib.hid hok
  unfold siV at HV

  unfold siV
  obtain ⟨W, hW⟩ : ∃ W, W = w.alloc (.cells #[.slice p.a1 s.feeds.length p.c1, .slice p.a2 s.brks.length p.c2, .slice p.a3 s.loops.length p.c3, .slice p.a4 s.racks.length p.c4, .int .i64 s.sw, .slice p.a5 s.links.length p.c5, .slice p.a6 s.hosts.length p.c6] 29) := ⟨_, rfl⟩
  have B0 : Below w.heap.size w W := by subst hW; exact (Below.refl _ _).alloc (Nat.le_refl _) _
  have HB0 := Lib.hid B0
  have HX := Lib.hid (show SiBox W w.heap.size p s by subst hW; exact siBox_new _ _ _)
  have HA := Lib.hid (h.on B0 (Nat.le_refl _))
  have HF := Lib.hid (fun (X : World) (hX : Below W.heap.size W X) => (let z := HX.out.on hX (Nat.le_refl _); ⟨z.c0, z.c1, z.c2, z.c3, z.c4, z.c5, z.c6⟩ : X.cell? ⟨w.heap.size, 0, none⟩ = some (.slice p.a1 s.feeds.length p.c1) ∧ X.cell? ⟨w.heap.size, 1, none⟩ = some (.slice p.a2 s.brks.length p.c2) ∧ X.cell? ⟨w.heap.size, 2, none⟩ = some (.slice p.a3 s.loops.length p.c3) ∧ X.cell? ⟨w.heap.size, 3, none⟩ = some (.slice p.a4 s.racks.length p.c4) ∧ X.cell? ⟨w.heap.size, 4, none⟩ = some (.int .i64 s.sw) ∧ X.cell? ⟨w.heap.size, 5, none⟩ = some (.slice p.a5 s.links.length p.c5) ∧ X.cell? ⟨w.heap.size, 6, none⟩ = some (.slice p.a6 s.hosts.length p.c6)))
  have m1 := h.feeds.1; have m2 := h.brks.1; have m3 := h.loops.1; have m4 := h.racks.1; have m5 := h.links.1; have m6 := h.hosts.1
  have n1 := h.feeds.2.1; have n2 := h.brks.2.1; have n3 := h.loops.2.1; have n4 := h.racks.2.1; have n5 := h.links.2.1; have n6 := h.hosts.2.1
  unfold maxLen at n1 n2 n3 n4 n5 n6
  have KW := Lib.hid (Below.refl W.heap.size W)
  have hlw : w.heap.size < W.heap.size := HX.out.lt
  have HR := Lib.hid hr
  clear B0 h hr hok
  obtain ⟨f0, f1, f2, f3, f4, f5, f6⟩ := HF.out W KW.out
  rw [hW] at f0 f1 f2 f3 f4 f5 f6
  go_enter Try.func15, Try.ntmps15
  go_wp2_with (fail)
  rw [← hW]
  clear hW f0 f1 f2 f3 f4 f5 f6
  go_at_call 11
  refine (HV.out W HA.out).mono ?_
  rintro e w1 ⟨rfl, b1⟩
  have K1 := Lib.hid b1
  have HA1 := Lib.hid (HA.out.on b1 (Nat.le_refl _))
  clear b1
  obtain ⟨f0, f1, f2, f3, f4, f5, f6⟩ := HF.out w1 K1.out
  cases ok
  · obtain rfl : -1 = r := by rw [← HR.out]; unfold domD; rw [if_neg (by rw [HOK.out]; rintro ⟨h, -⟩; cases h)]
    go_wp2_with (fail)
    go_ret
    exact ⟨rfl, below_join HB0.out K1.out HB0.out.size⟩
  rcases h1 : decide (host < 0) with _ | _
  rotate_left
  · obtain rfl : -1 = r := by rw [← HR.out]; unfold domD; rw [if_neg (by rintro ⟨-, -, h⟩; have h2 := ixB_iff.1 h; have h3 := of_decide_eq_true h1; omega)]
    go_wp2_with (fail)
    go_ret
    exact ⟨rfl, below_join HB0.out K1.out HB0.out.size⟩
  rcases h2 : decide ((s.hosts.length : Int) ≤ host) with _ | _
  rotate_left
  · obtain rfl : -1 = r := by rw [← HR.out]; unfold domD; rw [if_neg (by rintro ⟨-, -, h⟩; have h4 := ixB_iff.1 h; have h3 := of_decide_eq_true h2; omega)]
    go_wp2_with (fail)
    go_ret
    exact ⟨rfl, below_join HB0.out K1.out HB0.out.size⟩
  have h1' := of_decide_eq_false h1
  have h2' := of_decide_eq_false h2
  obtain ⟨k, rfl⟩ : ∃ k : Nat, host = (k : Int) := ⟨host.toNat, by omega⟩
  have hk : k < s.hosts.length := by omega
  have hsok := siteOk_iff.1 HOK.out
  obtain ⟨m, hm, hm1, hmr, -⟩ := rk_ok hsok hk
  obtain ⟨hb, ho, he, y0⟩ := host_row HA1.out hk
  obtain ⟨rb, ro, hre, z0, z1, z2, z3⟩ := rack_row HA1.out hmr
  rw [hm] at y0
  rw [he] at f6
  rw [hre] at f3
  have hkk : (k : Int) < ((s.hosts.length : Nat) : Int) := by omega
  have hmm : (m : Int) < ((s.racks.length : Nat) : Int) := by omega
  have ht1 : ((k : Nat) : Int).toNat = k := by omega
  have ht2 : ((m : Nat) : Int).toNat = m := by omega
  obtain rfl : (rkAt s k).loop = r := by rw [← HR.out]; unfold domD; rw [if_pos ⟨HOK.out, by decide, ixB_iff.2 ⟨by omega, by omega⟩⟩]; rfl
  clear he hre hm hmr h1' h2' hsok
  go_wp2_with (fail)
  go_ret
  exact ⟨rfl, below_join HB0.out K1.out HB0.out.size⟩
theorem c_rDom (p : SP) (s : SiteD) (d : Nat) (hd : d < 256) (host r : Int) (hr : domD s d host = r) (w : World) (h : SiAt w p s) :
    Calls Try.prog 15 #[siV p s, .int .u8 (d : Int), .int .i64 host] w fun e w' => e = .returned (.int .i64 r) ∧ Below w.heap.size w w' := by
  by_cases hno : 1 ≤ d ∧ d ≤ 5
  · rcases (by omega : d = 1 ∨ d = 2 ∨ d = 3 ∨ d = 4 ∨ d = 5) with rfl | rfl | rfl | rfl | rfl
    · exact c_rDom1 p s host r hr w h
    · exact c_rDom2 p s host r hr w h
    · exact c_rDom3 p s host r hr w h
    · exact c_rDom4 p s host r hr w h
    · exact c_rDom5 p s host r hr w h
  · exact c_rDomNone p s d hd hno host r hr w h
end Go.Proofs.Ytoknombajocjlaa
