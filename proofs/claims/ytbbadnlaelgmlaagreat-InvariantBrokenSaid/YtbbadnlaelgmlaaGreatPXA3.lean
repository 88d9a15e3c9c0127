/-
  DERIVED. Several texts in one.
-/
import Derived.Test.YtbbadnlaelgmlaaGreatPXA2
import Derived.Deep.RegionHeld3
import Derived.Test.YtbbadnlaelgmlaaGreatRows
import Derived.Handed
import Derived.OpenShut
import Derived.Deep.Fields
import Derived.Deep.Slices
import Derived.ChangeSame
import Derived.ChangeSlices
import Derived.Test.YtbbadnlaelgmlaaGreatPXA1
import Derived.RegionTactic
set_option linter.unusedVariables false
set_option linter.unusedSimpArgs false

namespace Go.Proofs.YtbbadnlaelgmlaaGreat
open Go.RowKit
set_option maxRecDepth 100000
set_option linter.unusedVariables false
set_option linter.unusedSimpArgs false

set_option maxHeartbeats 8000000 in
theorem c_domOfNeg (p : SP) (s : SiteD) (d : Nat) (host : Int) (w : World) (h : SiAt w p s) (hd : ∀ X : World, SiAt X p s → Calls Tryz.prog 127 #[siV p s, .int .u8 (d : Int)] X fun e w' => e = .returned (.tuple #[.int .i64 0, .nilFunc]) ∧ Below X.heap.size X w') :
    Calls Tryz.prog 98 #[siV p s, .int .u8 (d : Int), .int .i64 host] w fun e w' => e = .returned (.int .i64 (-1)) ∧ Below w.heap.size w w' := by
  have HV := Lib.hid hd
  clear hd
  unfold siV at HV
  unfold siV
  obtain ⟨W, hW⟩ : ∃ W, W = w.alloc (.cells #[.slice p.a1 s.feeds.length p.c1, .slice p.a2 s.brks.length p.c2, .slice p.a3 s.loops.length p.c3, .slice p.a4 s.racks.length p.c4, .int .i64 s.sw, .slice p.a5 s.links.length p.c5, .slice p.a6 s.hosts.length p.c6] 29) := ⟨_, rfl⟩
  have B0 : Below w.heap.size w W := by subst hW; exact (Below.refl _ _).alloc (Nat.le_refl _) _
  have HB0 := Lib.hid B0
  have HX := Lib.hid (show SiBox W w.heap.size p s by subst hW; exact siBox_new _ _ _)
  have HA := Lib.hid (h.on B0 (Nat.le_refl _))
  have HF := Lib.hid (fun (X : World) (hX : Below W.heap.size W X) => (let z := HX.out.on hX (Nat.le_refl _); ⟨z.c0, z.c1, z.c2, z.c3, z.c4, z.c5, z.c6⟩ : X.cell? ⟨w.heap.size, 0, none⟩ = some (.slice p.a1 s.feeds.length p.c1) ∧ X.cell? ⟨w.heap.size, 1, none⟩ = some (.slice p.a2 s.brks.length p.c2) ∧ X.cell? ⟨w.heap.size, 2, none⟩ = some (.slice p.a3 s.loops.length p.c3) ∧ X.cell? ⟨w.heap.size, 3, none⟩ = some (.slice p.a4 s.racks.length p.c4) ∧ X.cell? ⟨w.heap.size, 4, none⟩ = some (.int .i64 s.sw) ∧ X.cell? ⟨w.heap.size, 5, none⟩ = some (.slice p.a5 s.links.length p.c5) ∧ X.cell? ⟨w.heap.size, 6, none⟩ = some (.slice p.a6 s.hosts.length p.c6)))
  have m1 := h.feeds.1; have m2 := h.brks.1; have m3 := h.loops.1; have m4 := h.racks.1; have m5 := h.links.1; have m6 := h.hosts.1
  have n1 := h.feeds.2.1; have n2 := h.brks.2.1; have n3 := h.loops.2.1; have n4 := h.racks.2.1; have n5 := h.links.2.1; have n6 := h.hosts.2.1
  unfold maxLen at n1 n2 n3 n4 n5 n6
  have KW := Lib.hid (Below.refl W.heap.size W)
  have hlw : w.heap.size < W.heap.size := HX.out.lt
  clear B0 h
  obtain ⟨f0, f1, f2, f3, f4, f5, f6⟩ := HF.out W KW.out
  rw [hW] at f0 f1 f2 f3 f4 f5 f6
  go_enter Tryz.func98, Tryz.ntmps98
  go_wp2_with (fail)
  rw [← hW]
  clear hW f0 f1 f2 f3 f4 f5 f6
  go_at_call 127
  refine (HV.out W HA.out).mono ?_
  rintro e w1 ⟨rfl, b1⟩
  have K1 := Lib.hid b1
  clear b1
  go_wp2_with (fail)
  go_ret
  exact ⟨rfl, below_join HB0.out K1.out HB0.out.size⟩
set_option maxHeartbeats 8000000 in
theorem c_domOf1 (p : SP) (s : SiteD) (hok : siteOk s = true) (host r : Int) (hr : domD s 1 host = r) (w : World) (h : SiAt w p s) :
    Calls Tryz.prog 98 #[siV p s, .int .u8 1, .int .i64 host] w fun e w' => e = .returned (.int .i64 r) ∧ Below w.heap.size w w' := by
  have hsok := siteOk_iff.1 hok
  have hcnt : ((s.hosts.length : Int) == (0 : Int)) = false := by rw [beq_eq_false_iff_ne]; have h1 := hsok.nhosts; have h2 := hsok.nracks; have h3 := hsok.nfeeds; have h4 := hsok.nloops; omega
  have HV := Lib.hid (fun (X : World) (hX : SiAt X p s) => c_doms1 p s hok X hX)
  have HSOK := Lib.hid hsok
  have HOK := Lib.hid hok
  unfold siV at HV
  clear hok hsok
  unfold siV
  obtain ⟨W, hW⟩ : ∃ W, W = w.alloc (.cells #[.slice p.a1 s.feeds.length p.c1, .slice p.a2 s.brks.length p.c2, .slice p.a3 s.loops.length p.c3, .slice p.a4 s.racks.length p.c4, .int .i64 s.sw, .slice p.a5 s.links.length p.c5, .slice p.a6 s.hosts.length p.c6] 29) := ⟨_, rfl⟩
  have B0 : Below w.heap.size w W := by subst hW; exact (Below.refl _ _).alloc (Nat.le_refl _) _
  have HB0 := Lib.hid B0
  have HX := Lib.hid (show SiBox W w.heap.size p s by subst hW; exact siBox_new _ _ _)
  have HA := Lib.hid (h.on B0 (Nat.le_refl _))
  have HF := Lib.hid (fun (X : World) (hX : Below W.heap.size W X) => (let z := HX.out.on hX (Nat.le_refl _); ⟨z.c0, z.c1, z.c2, z.c3, z.c4, z.c5, z.c6⟩ : X.cell? ⟨w.heap.size, 0, none⟩ = some (.slice p.a1 s.feeds.length p.c1) ∧ X.cell? ⟨w.heap.size, 1, none⟩ = some (.slice p.a2 s.brks.length p.c2) ∧ X.cell? ⟨w.heap.size, 2, none⟩ = some (.slice p.a3 s.loops.length p.c3) ∧ X.cell? ⟨w.heap.size, 3, none⟩ = some (.slice p.a4 s.racks.length p.c4) ∧ X.cell? ⟨w.heap.size, 4, none⟩ = some (.int .i64 s.sw) ∧ X.cell? ⟨w.heap.size, 5, none⟩ = some (.slice p.a5 s.links.length p.c5) ∧ X.cell? ⟨w.heap.size, 6, none⟩ = some (.slice p.a6 s.hosts.length p.c6)))
  have m1 := h.feeds.1; have m2 := h.brks.1; have m3 := h.loops.1; have m4 := h.racks.1; have m5 := h.links.1; have m6 := h.hosts.1
  have n1 := h.feeds.2.1; have n2 := h.brks.2.1; have n3 := h.loops.2.1; have n4 := h.racks.2.1; have n5 := h.links.2.1; have n6 := h.hosts.2.1
  unfold maxLen at n1 n2 n3 n4 n5 n6
  have KW := Lib.hid (Below.refl W.heap.size W)
  have hlw : w.heap.size < W.heap.size := HX.out.lt
  have HR := Lib.hid hr
  clear B0 h hr
  obtain ⟨f0, f1, f2, f3, f4, f5, f6⟩ := HF.out W KW.out
  rw [hW] at f0 f1 f2 f3 f4 f5 f6
  go_enter Tryz.func98, Tryz.ntmps98
  go_wp2_with (fail)
  rw [← hW]
  clear hW f0 f1 f2 f3 f4 f5 f6
  go_at_call 127
  refine (HV.out W HA.out).mono ?_
  rintro e w1 ⟨bs, bt, rfl, hb1, ha1, hr1, b1⟩
  have K1 := Lib.hid b1
  have HB1 := Lib.hid hb1
  have HA1 := Lib.hid ha1
  have HR1 := Lib.hid hr1
  clear b1 hb1 ha1 hr1
  obtain ⟨f0, f1, f2, f3, f4, f5, f6⟩ := HF.out w1 K1.out
  obtain ⟨r1, h1⟩ : ∃ b, ixB host (s.hosts.length : Int) = b := ⟨_, rfl⟩
  have Q1 := Lib.hid h1
  clear h1
  go_wp2_with (fail)
  clear f0 f1 f2 f3 f4 f5 f6
  go_at_call 77
  refine (c_isIndex host (s.hosts.length : Int) r1 Q1.out w1).mono ?_
  rintro e w2 ⟨rfl, b2⟩
  have K2 := Lib.hid (below_join K1.out b2 K1.out.size)
  have KK := Lib.hid b2
  clear b2
  cases r1
  · obtain rfl : -1 = r := by rw [← HR.out]; unfold domD; rw [if_neg (by rw [Q1.out]; rintro ⟨-, -, h⟩; cases h)]
    go_wp2_with (fail)
    go_ret
    exact ⟨rfl, below_join HB0.out K2.out HB0.out.size⟩
  · have hix := ixB_iff.1 Q1.out
    obtain ⟨k, rfl⟩ : ∃ k : Nat, host = (k : Int) := ⟨host.toNat, by omega⟩
    have hk : k < s.hosts.length := by omega
    have HC := Lib.hid (fun (X : World) (hb : SiBox X bs p s) (ha : SiAt X p s) (hr : RkBox X bt bs) (hsok : SiteOk s) => (show Calls Tryz.prog 152 #[.int .i64 (k : Int)] X fun e w' => e = .returned (.int .i64 (k : Int)) ∧ Below X.heap.size X w' from c_dom2 (k : Int) X))
    obtain rfl : (k : Int) = r := by rw [← HR.out]; unfold domD; rw [if_pos ⟨HOK.out, by decide, Q1.out⟩]; rfl
    clear hix
    go_wp2_with (fail)
    go_at_call 152
    refine (HC.out w2 (HB1.out.on KK.out (Nat.le_refl _)) (HA1.out.on KK.out (Nat.le_refl _)) (HR1.out.on KK.out (Nat.le_refl _)) HSOK.out).mono ?_
    rintro e w3 ⟨rfl, b3⟩
    have K3 := Lib.hid (below_join K2.out b3 K2.out.size)
    clear b3
    go_wp2_with (fail)
    go_ret
    exact ⟨rfl, below_join HB0.out K3.out HB0.out.size⟩
set_option maxHeartbeats 8000000 in
theorem c_domOf2 (p : SP) (s : SiteD) (hok : siteOk s = true) (host r : Int) (hr : domD s 2 host = r) (w : World) (h : SiAt w p s) :
    Calls Tryz.prog 98 #[siV p s, .int .u8 2, .int .i64 host] w fun e w' => e = .returned (.int .i64 r) ∧ Below w.heap.size w w' := by
  have hsok := siteOk_iff.1 hok
  have hcnt : ((s.racks.length : Int) == (0 : Int)) = false := by rw [beq_eq_false_iff_ne]; have h1 := hsok.nhosts; have h2 := hsok.nracks; have h3 := hsok.nfeeds; have h4 := hsok.nloops; omega
  have HV := Lib.hid (fun (X : World) (hX : SiAt X p s) => c_doms2 p s hok X hX)
  have HSOK := Lib.hid hsok
  have HOK := Lib.hid hok
  unfold siV at HV
  clear hok hsok
  unfold siV
  obtain ⟨W, hW⟩ : ∃ W, W = w.alloc (.cells #[.slice p.a1 s.feeds.length p.c1, .slice p.a2 s.brks.length p.c2, .slice p.a3 s.loops.length p.c3, .slice p.a4 s.racks.length p.c4, .int .i64 s.sw, .slice p.a5 s.links.length p.c5, .slice p.a6 s.hosts.length p.c6] 29) := ⟨_, rfl⟩
  have B0 : Below w.heap.size w W := by subst hW; exact (Below.refl _ _).alloc (Nat.le_refl _) _
  have HB0 := Lib.hid B0
  have HX := Lib.hid (show SiBox W w.heap.size p s by subst hW; exact siBox_new _ _ _)
  have HA := Lib.hid (h.on B0 (Nat.le_refl _))
  have HF := Lib.hid (fun (X : World) (hX : Below W.heap.size W X) => (let z := HX.out.on hX (Nat.le_refl _); ⟨z.c0, z.c1, z.c2, z.c3, z.c4, z.c5, z.c6⟩ : X.cell? ⟨w.heap.size, 0, none⟩ = some (.slice p.a1 s.feeds.length p.c1) ∧ X.cell? ⟨w.heap.size, 1, none⟩ = some (.slice p.a2 s.brks.length p.c2) ∧ X.cell? ⟨w.heap.size, 2, none⟩ = some (.slice p.a3 s.loops.length p.c3) ∧ X.cell? ⟨w.heap.size, 3, none⟩ = some (.slice p.a4 s.racks.length p.c4) ∧ X.cell? ⟨w.heap.size, 4, none⟩ = some (.int .i64 s.sw) ∧ X.cell? ⟨w.heap.size, 5, none⟩ = some (.slice p.a5 s.links.length p.c5) ∧ X.cell? ⟨w.heap.size, 6, none⟩ = some (.slice p.a6 s.hosts.length p.c6)))
  have m1 := h.feeds.1; have m2 := h.brks.1; have m3 := h.loops.1; have m4 := h.racks.1; have m5 := h.links.1; have m6 := h.hosts.1
  have n1 := h.feeds.2.1; have n2 := h.brks.2.1; have n3 := h.loops.2.1; have n4 := h.racks.2.1; have n5 := h.links.2.1; have n6 := h.hosts.2.1
  unfold maxLen at n1 n2 n3 n4 n5 n6
  have KW := Lib.hid (Below.refl W.heap.size W)
  have hlw : w.heap.size < W.heap.size := HX.out.lt
  have HR := Lib.hid hr
  clear B0 h hr
  obtain ⟨f0, f1, f2, f3, f4, f5, f6⟩ := HF.out W KW.out
  rw [hW] at f0 f1 f2 f3 f4 f5 f6
  go_enter Tryz.func98, Tryz.ntmps98
  go_wp2_with (fail)
  rw [← hW]
  clear hW f0 f1 f2 f3 f4 f5 f6
  go_at_call 127
  refine (HV.out W HA.out).mono ?_
  rintro e w1 ⟨bs, bt, rfl, hb1, ha1, hr1, b1⟩
  have K1 := Lib.hid b1
  have HB1 := Lib.hid hb1
  have HA1 := Lib.hid ha1
  have HR1 := Lib.hid hr1
  clear b1 hb1 ha1 hr1
  obtain ⟨f0, f1, f2, f3, f4, f5, f6⟩ := HF.out w1 K1.out
  obtain ⟨r1, h1⟩ : ∃ b, ixB host (s.hosts.length : Int) = b := ⟨_, rfl⟩
  have Q1 := Lib.hid h1
  clear h1
  go_wp2_with (fail)
  clear f0 f1 f2 f3 f4 f5 f6
  go_at_call 77
  refine (c_isIndex host (s.hosts.length : Int) r1 Q1.out w1).mono ?_
  rintro e w2 ⟨rfl, b2⟩
  have K2 := Lib.hid (below_join K1.out b2 K1.out.size)
  have KK := Lib.hid b2
  clear b2
  cases r1
  · obtain rfl : -1 = r := by rw [← HR.out]; unfold domD; rw [if_neg (by rw [Q1.out]; rintro ⟨-, -, h⟩; cases h)]
    go_wp2_with (fail)
    go_ret
    exact ⟨rfl, below_join HB0.out K2.out HB0.out.size⟩
  · have hix := ixB_iff.1 Q1.out
    obtain ⟨k, rfl⟩ : ∃ k : Nat, host = (k : Int) := ⟨host.toNat, by omega⟩
    have hk : k < s.hosts.length := by omega
    have HC := Lib.hid (fun (X : World) (hb : SiBox X bs p s) (ha : SiAt X p s) (hr : RkBox X bt bs) (hsok : SiteOk s) => (show Calls Tryz.prog 153 #[.int .i64 (k : Int), .pointer (some ⟨bs, 0, none⟩)] X fun e w' => e = .returned (.int .i64 (rackAt s k)) ∧ Below X.heap.size X w' from c_dom3 bs p s k hk X hb ha))
    obtain rfl : (rackAt s k) = r := by rw [← HR.out]; unfold domD; rw [if_pos ⟨HOK.out, by decide, Q1.out⟩]; rfl
    clear hix
    go_wp2_with (fail)
    go_at_call 153
    refine (HC.out w2 (HB1.out.on KK.out (Nat.le_refl _)) (HA1.out.on KK.out (Nat.le_refl _)) (HR1.out.on KK.out (Nat.le_refl _)) HSOK.out).mono ?_
    rintro e w3 ⟨rfl, b3⟩
    have K3 := Lib.hid (below_join K2.out b3 K2.out.size)
    clear b3
    go_wp2_with (fail)
    go_ret
    exact ⟨rfl, below_join HB0.out K3.out HB0.out.size⟩
set_option maxHeartbeats 8000000 in
theorem c_domOf3 (p : SP) (s : SiteD) (hok : siteOk s = true) (host r : Int) (hr : domD s 3 host = r) (w : World) (h : SiAt w p s) :
    Calls Tryz.prog 98 #[siV p s, .int .u8 3, .int .i64 host] w fun e w' => e = .returned (.int .i64 r) ∧ Below w.heap.size w w' := by
  have hsok := siteOk_iff.1 hok
  have hcnt : (4 == (0 : Int)) = false := by rw [beq_eq_false_iff_ne]; have h1 := hsok.nhosts; have h2 := hsok.nracks; have h3 := hsok.nfeeds; have h4 := hsok.nloops; omega
  have HV := Lib.hid (fun (X : World) (hX : SiAt X p s) => c_doms3 p s hok X hX)
  have HSOK := Lib.hid hsok
  have HOK := Lib.hid hok
  unfold siV at HV
  clear hok hsok
  unfold siV
  obtain ⟨W, hW⟩ : ∃ W, W = w.alloc (.cells #[.slice p.a1 s.feeds.length p.c1, .slice p.a2 s.brks.length p.c2, .slice p.a3 s.loops.length p.c3, .slice p.a4 s.racks.length p.c4, .int .i64 s.sw, .slice p.a5 s.links.length p.c5, .slice p.a6 s.hosts.length p.c6] 29) := ⟨_, rfl⟩
  have B0 : Below w.heap.size w W := by subst hW; exact (Below.refl _ _).alloc (Nat.le_refl _) _
  have HB0 := Lib.hid B0
  have HX := Lib.hid (show SiBox W w.heap.size p s by subst hW; exact siBox_new _ _ _)
  have HA := Lib.hid (h.on B0 (Nat.le_refl _))
  have HF := Lib.hid (fun (X : World) (hX : Below W.heap.size W X) => (let z := HX.out.on hX (Nat.le_refl _); ⟨z.c0, z.c1, z.c2, z.c3, z.c4, z.c5, z.c6⟩ : X.cell? ⟨w.heap.size, 0, none⟩ = some (.slice p.a1 s.feeds.length p.c1) ∧ X.cell? ⟨w.heap.size, 1, none⟩ = some (.slice p.a2 s.brks.length p.c2) ∧ X.cell? ⟨w.heap.size, 2, none⟩ = some (.slice p.a3 s.loops.length p.c3) ∧ X.cell? ⟨w.heap.size, 3, none⟩ = some (.slice p.a4 s.racks.length p.c4) ∧ X.cell? ⟨w.heap.size, 4, none⟩ = some (.int .i64 s.sw) ∧ X.cell? ⟨w.heap.size, 5, none⟩ = some (.slice p.a5 s.links.length p.c5) ∧ X.cell? ⟨w.heap.size, 6, none⟩ = some (.slice p.a6 s.hosts.length p.c6)))
  have m1 := h.feeds.1; have m2 := h.brks.1; have m3 := h.loops.1; have m4 := h.racks.1; have m5 := h.links.1; have m6 := h.hosts.1
  have n1 := h.feeds.2.1; have n2 := h.brks.2.1; have n3 := h.loops.2.1; have n4 := h.racks.2.1; have n5 := h.links.2.1; have n6 := h.hosts.2.1
  unfold maxLen at n1 n2 n3 n4 n5 n6
  have KW := Lib.hid (Below.refl W.heap.size W)
  have hlw : w.heap.size < W.heap.size := HX.out.lt
  have HR := Lib.hid hr
  clear B0 h hr
  obtain ⟨f0, f1, f2, f3, f4, f5, f6⟩ := HF.out W KW.out
  rw [hW] at f0 f1 f2 f3 f4 f5 f6
  go_enter Tryz.func98, Tryz.ntmps98
  go_wp2_with (fail)
  rw [← hW]
  clear hW f0 f1 f2 f3 f4 f5 f6
  go_at_call 127
  refine (HV.out W HA.out).mono ?_
  rintro e w1 ⟨bs, bt, rfl, hb1, ha1, hr1, b1⟩
  have K1 := Lib.hid b1
  have HB1 := Lib.hid hb1
  have HA1 := Lib.hid ha1
  have HR1 := Lib.hid hr1
  clear b1 hb1 ha1 hr1
  obtain ⟨f0, f1, f2, f3, f4, f5, f6⟩ := HF.out w1 K1.out
  obtain ⟨r1, h1⟩ : ∃ b, ixB host (s.hosts.length : Int) = b := ⟨_, rfl⟩
  have Q1 := Lib.hid h1
  clear h1
  go_wp2_with (fail)
  clear f0 f1 f2 f3 f4 f5 f6
  go_at_call 77
  refine (c_isIndex host (s.hosts.length : Int) r1 Q1.out w1).mono ?_
  rintro e w2 ⟨rfl, b2⟩
  have K2 := Lib.hid (below_join K1.out b2 K1.out.size)
  have KK := Lib.hid b2
  clear b2
  cases r1
  · obtain rfl : -1 = r := by rw [← HR.out]; unfold domD; rw [if_neg (by rw [Q1.out]; rintro ⟨-, -, h⟩; cases h)]
    go_wp2_with (fail)
    go_ret
    exact ⟨rfl, below_join HB0.out K2.out HB0.out.size⟩
  · have hix := ixB_iff.1 Q1.out
    obtain ⟨k, rfl⟩ : ∃ k : Nat, host = (k : Int) := ⟨host.toNat, by omega⟩
    have hk : k < s.hosts.length := by omega
    have HC := Lib.hid (fun (X : World) (hb : SiBox X bs p s) (ha : SiAt X p s) (hr : RkBox X bt bs) (hsok : SiteOk s) => (show Calls Tryz.prog 154 #[.int .i64 (k : Int), .pointer (some ⟨bt, 0, none⟩)] X fun e w' => e = .returned (.int .i64 (rkAt s k).row) ∧ Below X.heap.size X w' from c_dom4 bs bt p s hsok k hk X hb ha hr))
    obtain rfl : (rkAt s k).row = r := by rw [← HR.out]; unfold domD; rw [if_pos ⟨HOK.out, by decide, Q1.out⟩]; rfl
    clear hix
    go_wp2_with (fail)
    go_at_call 154
    refine (HC.out w2 (HB1.out.on KK.out (Nat.le_refl _)) (HA1.out.on KK.out (Nat.le_refl _)) (HR1.out.on KK.out (Nat.le_refl _)) HSOK.out).mono ?_
    rintro e w3 ⟨rfl, b3⟩
    have K3 := Lib.hid (below_join K2.out b3 K2.out.size)
    clear b3
    go_wp2_with (fail)
    go_ret
    exact ⟨rfl, below_join HB0.out K3.out HB0.out.size⟩
set_option maxHeartbeats 8000000 in
theorem c_domOf4 (p : SP) (s : SiteD) (hok : siteOk s = true) (host r : Int) (hr : domD s 4 host = r) (w : World) (h : SiAt w p s) :
    Calls Tryz.prog 98 #[siV p s, .int .u8 4, .int .i64 host] w fun e w' => e = .returned (.int .i64 r) ∧ Below w.heap.size w w' := by
  have hsok := siteOk_iff.1 hok
  have hcnt : ((s.feeds.length : Int) == (0 : Int)) = false := by rw [beq_eq_false_iff_ne]; have h1 := hsok.nhosts; have h2 := hsok.nracks; have h3 := hsok.nfeeds; have h4 := hsok.nloops; omega
  have HV := Lib.hid (fun (X : World) (hX : SiAt X p s) => c_doms4 p s hok X hX)
  have HSOK := Lib.hid hsok
  have HOK := Lib.hid hok
  unfold siV at HV
  clear hok hsok
  unfold siV
  obtain ⟨W, hW⟩ : ∃ W, W = w.alloc (.cells #[.slice p.a1 s.feeds.length p.c1, .slice p.a2 s.brks.length p.c2, .slice p.a3 s.loops.length p.c3, .slice p.a4 s.racks.length p.c4, .int .i64 s.sw, .slice p.a5 s.links.length p.c5, .slice p.a6 s.hosts.length p.c6] 29) := ⟨_, rfl⟩
  have B0 : Below w.heap.size w W := by subst hW; exact (Below.refl _ _).alloc (Nat.le_refl _) _
  have HB0 := Lib.hid B0
  have HX := Lib.hid (show SiBox W w.heap.size p s by subst hW; exact siBox_new _ _ _)
  have HA := Lib.hid (h.on B0 (Nat.le_refl _))
  have HF := Lib.hid (fun (X : World) (hX : Below W.heap.size W X) => (let z := HX.out.on hX (Nat.le_refl _); ⟨z.c0, z.c1, z.c2, z.c3, z.c4, z.c5, z.c6⟩ : X.cell? ⟨w.heap.size, 0, none⟩ = some (.slice p.a1 s.feeds.length p.c1) ∧ X.cell? ⟨w.heap.size, 1, none⟩ = some (.slice p.a2 s.brks.length p.c2) ∧ X.cell? ⟨w.heap.size, 2, none⟩ = some (.slice p.a3 s.loops.length p.c3) ∧ X.cell? ⟨w.heap.size, 3, none⟩ = some (.slice p.a4 s.racks.length p.c4) ∧ X.cell? ⟨w.heap.size, 4, none⟩ = some (.int .i64 s.sw) ∧ X.cell? ⟨w.heap.size, 5, none⟩ = some (.slice p.a5 s.links.length p.c5) ∧ X.cell? ⟨w.heap.size, 6, none⟩ = some (.slice p.a6 s.hosts.length p.c6)))
  have m1 := h.feeds.1; have m2 := h.brks.1; have m3 := h.loops.1; have m4 := h.racks.1; have m5 := h.links.1; have m6 := h.hosts.1
  have n1 := h.feeds.2.1; have n2 := h.brks.2.1; have n3 := h.loops.2.1; have n4 := h.racks.2.1; have n5 := h.links.2.1; have n6 := h.hosts.2.1
  unfold maxLen at n1 n2 n3 n4 n5 n6
  have KW := Lib.hid (Below.refl W.heap.size W)
  have hlw : w.heap.size < W.heap.size := HX.out.lt
  have HR := Lib.hid hr
  clear B0 h hr
  obtain ⟨f0, f1, f2, f3, f4, f5, f6⟩ := HF.out W KW.out
  rw [hW] at f0 f1 f2 f3 f4 f5 f6
  go_enter Tryz.func98, Tryz.ntmps98
  go_wp2_with (fail)
  rw [← hW]
  clear hW f0 f1 f2 f3 f4 f5 f6
  go_at_call 127
  refine (HV.out W HA.out).mono ?_
  rintro e w1 ⟨bs, bt, rfl, hb1, ha1, hr1, b1⟩
  have K1 := Lib.hid b1
  have HB1 := Lib.hid hb1
  have HA1 := Lib.hid ha1
  have HR1 := Lib.hid hr1
  clear b1 hb1 ha1 hr1
  obtain ⟨f0, f1, f2, f3, f4, f5, f6⟩ := HF.out w1 K1.out
  obtain ⟨r1, h1⟩ : ∃ b, ixB host (s.hosts.length : Int) = b := ⟨_, rfl⟩
  have Q1 := Lib.hid h1
  clear h1
  go_wp2_with (fail)
  clear f0 f1 f2 f3 f4 f5 f6
  go_at_call 77
  refine (c_isIndex host (s.hosts.length : Int) r1 Q1.out w1).mono ?_
  rintro e w2 ⟨rfl, b2⟩
  have K2 := Lib.hid (below_join K1.out b2 K1.out.size)
  have KK := Lib.hid b2
  clear b2
  cases r1
  · obtain rfl : -1 = r := by rw [← HR.out]; unfold domD; rw [if_neg (by rw [Q1.out]; rintro ⟨-, -, h⟩; cases h)]
    go_wp2_with (fail)
    go_ret
    exact ⟨rfl, below_join HB0.out K2.out HB0.out.size⟩
  · have hix := ixB_iff.1 Q1.out
    obtain ⟨k, rfl⟩ : ∃ k : Nat, host = (k : Int) := ⟨host.toNat, by omega⟩
    have hk : k < s.hosts.length := by omega
    have HC := Lib.hid (fun (X : World) (hb : SiBox X bs p s) (ha : SiAt X p s) (hr : RkBox X bt bs) (hsok : SiteOk s) => (show Calls Tryz.prog 155 #[.int .i64 (k : Int), .pointer (some ⟨bs, 0, none⟩), .pointer (some ⟨bt, 0, none⟩)] X fun e w' => e = .returned (.int .i64 (feedAt s k)) ∧ Below X.heap.size X w' from c_dom5 bs bt p s hsok k hk X hb ha hr))
    obtain rfl : (feedAt s k) = r := by rw [← HR.out]; unfold domD; rw [if_pos ⟨HOK.out, by decide, Q1.out⟩]; rfl
    clear hix
    go_wp2_with (fail)
    go_at_call 155
    refine (HC.out w2 (HB1.out.on KK.out (Nat.le_refl _)) (HA1.out.on KK.out (Nat.le_refl _)) (HR1.out.on KK.out (Nat.le_refl _)) HSOK.out).mono ?_
    rintro e w3 ⟨rfl, b3⟩
    have K3 := Lib.hid (below_join K2.out b3 K2.out.size)
    clear b3
    go_wp2_with (fail)
    go_ret
    exact ⟨rfl, below_join HB0.out K3.out HB0.out.size⟩
set_option maxHeartbeats 8000000 in
theorem c_domOf5 (p : SP) (s : SiteD) (hok : siteOk s = true) (host r : Int) (hr : domD s 5 host = r) (w : World) (h : SiAt w p s) :
    Calls Tryz.prog 98 #[siV p s, .int .u8 5, .int .i64 host] w fun e w' => e = .returned (.int .i64 r) ∧ Below w.heap.size w w' := by
  have hsok := siteOk_iff.1 hok
  have hcnt : ((s.loops.length : Int) == (0 : Int)) = false := by rw [beq_eq_false_iff_ne]; have h1 := hsok.nhosts; have h2 := hsok.nracks; have h3 := hsok.nfeeds; have h4 := hsok.nloops; omega
  have HV := Lib.hid (fun (X : World) (hX : SiAt X p s) => c_doms5 p s hok X hX)
  have HSOK := Lib.hid hsok
  have HOK := Lib.hid hok
  unfold siV at HV
  clear hok hsok
  unfold siV
  obtain ⟨W, hW⟩ : ∃ W, W = w.alloc (.cells #[.slice p.a1 s.feeds.length p.c1, .slice p.a2 s.brks.length p.c2, .slice p.a3 s.loops.length p.c3, .slice p.a4 s.racks.length p.c4, .int .i64 s.sw, .slice p.a5 s.links.length p.c5, .slice p.a6 s.hosts.length p.c6] 29) := ⟨_, rfl⟩
  have B0 : Below w.heap.size w W := by subst hW; exact (Below.refl _ _).alloc (Nat.le_refl _) _
  have HB0 := Lib.hid B0
  have HX := Lib.hid (show SiBox W w.heap.size p s by subst hW; exact siBox_new _ _ _)
  have HA := Lib.hid (h.on B0 (Nat.le_refl _))
  have HF := Lib.hid (fun (X : World) (hX : Below W.heap.size W X) => (let z := HX.out.on hX (Nat.le_refl _); ⟨z.c0, z.c1, z.c2, z.c3, z.c4, z.c5, z.c6⟩ : X.cell? ⟨w.heap.size, 0, none⟩ = some (.slice p.a1 s.feeds.length p.c1) ∧ X.cell? ⟨w.heap.size, 1, none⟩ = some (.slice p.a2 s.brks.length p.c2) ∧ X.cell? ⟨w.heap.size, 2, none⟩ = some (.slice p.a3 s.loops.length p.c3) ∧ X.cell? ⟨w.heap.size, 3, none⟩ = some (.slice p.a4 s.racks.length p.c4) ∧ X.cell? ⟨w.heap.size, 4, none⟩ = some (.int .i64 s.sw) ∧ X.cell? ⟨w.heap.size, 5, none⟩ = some (.slice p.a5 s.links.length p.c5) ∧ X.cell? ⟨w.heap.size, 6, none⟩ = some (.slice p.a6 s.hosts.length p.c6)))
  have m1 := h.feeds.1; have m2 := h.brks.1; have m3 := h.loops.1; have m4 := h.racks.1; have m5 := h.links.1; have m6 := h.hosts.1
  have n1 := h.feeds.2.1; have n2 := h.brks.2.1; have n3 := h.loops.2.1; have n4 := h.racks.2.1; have n5 := h.links.2.1; have n6 := h.hosts.2.1
  unfold maxLen at n1 n2 n3 n4 n5 n6
  have KW := Lib.hid (Below.refl W.heap.size W)
  have hlw : w.heap.size < W.heap.size := HX.out.lt
  have HR := Lib.hid hr
  clear B0 h hr
  obtain ⟨f0, f1, f2, f3, f4, f5, f6⟩ := HF.out W KW.out
  rw [hW] at f0 f1 f2 f3 f4 f5 f6
  go_enter Tryz.func98, Tryz.ntmps98
  go_wp2_with (fail)
  rw [← hW]
  clear hW f0 f1 f2 f3 f4 f5 f6
  go_at_call 127
  refine (HV.out W HA.out).mono ?_
  rintro e w1 ⟨bs, bt, rfl, hb1, ha1, hr1, b1⟩
  have K1 := Lib.hid b1
  have HB1 := Lib.hid hb1
  have HA1 := Lib.hid ha1
  have HR1 := Lib.hid hr1
  clear b1 hb1 ha1 hr1
  obtain ⟨f0, f1, f2, f3, f4, f5, f6⟩ := HF.out w1 K1.out
  obtain ⟨r1, h1⟩ : ∃ b, ixB host (s.hosts.length : Int) = b := ⟨_, rfl⟩
  have Q1 := Lib.hid h1
  clear h1
  go_wp2_with (fail)
  clear f0 f1 f2 f3 f4 f5 f6
  go_at_call 77
  refine (c_isIndex host (s.hosts.length : Int) r1 Q1.out w1).mono ?_
  rintro e w2 ⟨rfl, b2⟩
  have K2 := Lib.hid (below_join K1.out b2 K1.out.size)
  have KK := Lib.hid b2
  clear b2
  cases r1
  · obtain rfl : -1 = r := by rw [← HR.out]; unfold domD; rw [if_neg (by rw [Q1.out]; rintro ⟨-, -, h⟩; cases h)]
    go_wp2_with (fail)
    go_ret
    exact ⟨rfl, below_join HB0.out K2.out HB0.out.size⟩
  · have hix := ixB_iff.1 Q1.out
    obtain ⟨k, rfl⟩ : ∃ k : Nat, host = (k : Int) := ⟨host.toNat, by omega⟩
    have hk : k < s.hosts.length := by omega
    have HC := Lib.hid (fun (X : World) (hb : SiBox X bs p s) (ha : SiAt X p s) (hr : RkBox X bt bs) (hsok : SiteOk s) => (show Calls Tryz.prog 156 #[.int .i64 (k : Int), .pointer (some ⟨bt, 0, none⟩)] X fun e w' => e = .returned (.int .i64 (rkAt s k).loop) ∧ Below X.heap.size X w' from c_dom6 bs bt p s hsok k hk X hb ha hr))
    obtain rfl : (rkAt s k).loop = r := by rw [← HR.out]; unfold domD; rw [if_pos ⟨HOK.out, by decide, Q1.out⟩]; rfl
    clear hix
    go_wp2_with (fail)
    go_at_call 156
    refine (HC.out w2 (HB1.out.on KK.out (Nat.le_refl _)) (HA1.out.on KK.out (Nat.le_refl _)) (HR1.out.on KK.out (Nat.le_refl _)) HSOK.out).mono ?_
    rintro e w3 ⟨rfl, b3⟩
    have K3 := Lib.hid (below_join K2.out b3 K2.out.size)
    clear b3
    go_wp2_with (fail)
    go_ret
    exact ⟨rfl, below_join HB0.out K3.out HB0.out.size⟩
theorem c_DomainOf (p : SP) (s : SiteD) (d : Nat) (hd : d < 256) (host r : Int) (hr : domD s d host = r) (w : World) (h : SiAt w p s) :
    Calls Tryz.prog 98 #[siV p s, .int .u8 (d : Int), .int .i64 host] w fun e w' => e = .returned (.int .i64 r) ∧ Below w.heap.size w w' := by
  rcases hok : siteOk s with _ | _
  · obtain rfl : -1 = r := by rw [← hr]; unfold domD; rw [if_neg (by rw [hok]; rintro ⟨h, -⟩; cases h)]
    exact c_domOfNeg p s d host w h (fun X hX => c_domsNo p s d hd hok X hX)
  · by_cases hno : 1 ≤ d ∧ d ≤ 5
    · rcases (by omega : d = 1 ∨ d = 2 ∨ d = 3 ∨ d = 4 ∨ d = 5) with rfl | rfl | rfl | rfl | rfl
      · exact c_domOf1 p s hok host r hr w h
      · exact c_domOf2 p s hok host r hr w h
      · exact c_domOf3 p s hok host r hr w h
      · exact c_domOf4 p s hok host r hr w h
      · exact c_domOf5 p s hok host r hr w h
    · obtain rfl : -1 = r := by rw [← hr]; unfold domD; rw [if_neg (by rintro ⟨-, h, -⟩; exact hno h)]
      exact c_domOfNeg p s d host w h (fun X hX => c_domsNone p s d hd hno hok X hX)
end Go.Proofs.YtbbadnlaelgmlaaGreat

namespace Go.Proofs.YtbbadnlaelgmlaaGreat
open Go.RowKit
set_option maxRecDepth 100000
set_option linter.unusedVariables false
set_option linter.unusedSimpArgs false

theorem int_info : (Tryz.prog.info? 3).map (fun i => (i.zero, i.size, i.bytes)) = some (some (.int .i64 0), 1, 8) := by kernel_rfl
theorem info_parts {P : Program} {T : TypeId} {z : Value} {s b : Nat} (h : (P.info? T).map (fun i => (i.zero, i.size, i.bytes)) = some (some z, s, b)) : ∃ i, P.info? T = some i ∧ i.zero = some z ∧ i.size = s ∧ i.bytes = b := by
  cases hi : P.info? T with
  | none => rw [hi] at h; cases h
  | some i => rw [hi] at h; simp at h; exact ⟨i, rfl, h.1, h.2.1, h.2.2⟩
/-- Numbers as cells. -/
def ints (l : List Int) : List Value := l.map fun x => .int .i64 x
theorem ints_snoc (l : List Int) (x : Int) : ints (l ++ [x]) = ints l ++ [.int .i64 x] := by simp [ints]
def nats (l : List Nat) : List Int := List.map (fun k : Nat => (k : Int)) l
theorem nats_len (l : List Nat) : (nats l).length = l.length := by simp [nats]
theorem ownsRow_lt {X : World} {base : Nat} {e : TypeId} {size n : Nat} {v : Value} {xs : List Value} (h : X.ownsRow base e size v n xs) {g : Nat} (hg : v.ownBlock = some g) : base ≤ g ∧ g < X.heap.size := by
  obtain ⟨k1, ⟨rfl, -⟩ | ⟨g', cap, cur, rfl, k3, k4, k⟩⟩ := h
  · cases hg
  · have hg2 : some g' = some g := hg
    injection hg2 with hg2
    subst hg2
    exact ⟨k3, at_lt k4⟩
theorem own_shape {X : World} {base : Nat} {e : TypeId} {size n : Nat} {v : Value} {xs : List Value} (h : X.ownsRow base e size v n xs) : ∃ A c, v = .slice A n c := by
  obtain ⟨k1, ⟨rfl, h0⟩ | ⟨g, cap, cur, rfl, k⟩⟩ := h
  · subst h0; exact ⟨_, _, rfl⟩
  · exact ⟨_, _, rfl⟩
theorem own_mono {w : World} {base base' : Nat} {e : TypeId} {size : Nat} {v : Value} {n : Nat} {xs : List Value} (h : w.ownsRow base e size v n xs) (hb : base' ≤ base) : w.ownsRow base' e size v n xs := by
  obtain ⟨k1, h | ⟨g, cap, cur, rfl, k3, k4, k⟩⟩ := h
  · exact ⟨k1, .inl h⟩
  · exact ⟨k1, .inr ⟨g, cap, cur, rfl, Nat.le_trans hb k3, k4, k⟩⟩
theorem own_on {X Y : World} {base : Nat} {e : TypeId} {size n B : Nat} {v : Value} {xs : List Value} (h : X.ownsRow base e size v n xs) (hb : Below B X Y) (hB : X.heap.size ≤ B) : Y.ownsRow base e size v n xs := by
  obtain ⟨k1, h | ⟨g, cap, cur, rfl, k3, k4, k⟩⟩ := h
  · exact ⟨k1, .inl h⟩
  · exact ⟨k1, .inr ⟨g, cap, cur, rfl, k3, (hb.block _ (Nat.lt_of_lt_of_le (at_lt k4) hB)).trans k4, k⟩⟩
/-- A list that a walk has made is a list in memory. -/
theorem own_rw {w : World} {base : Nat} {v : Value} {l : List Int} (h : w.ownsRow base 3 1 v l.length (ints l)) : ∃ A c, v = .slice A l.length c ∧ Rw 1 inF w A c l := by
  have hc := h
  obtain ⟨k1, ⟨e, e2⟩ | ⟨g, cap, cur, e, k3, k4, k5, k6, k7, k8⟩⟩ := h
  · subst e
    obtain rfl : l = [] := List.eq_nil_of_length_eq_zero e2
    exact ⟨none, 0, rfl, Rw.nil _ _⟩
  · subst e
    refine ⟨some ⟨g, 0, none⟩, cap, rfl, k5, k6, fun _ => ⟨g, 0, rfl, at_lt k4, fun j x hj i hi => ?_⟩⟩
    obtain rfl : i = 0 := by omega
    have hj' := (List.getElem?_eq_some_iff.1 hj).1
    have := hc.cellAt j (by simp; omega)
    rw [show 0 + j * 1 + 0 = j by omega, this]
    simp [ints, hj, inF]
theorem range_filter {f : Nat → Bool} (k : Nat) : (List.range (k + 1)).filter f = (List.range k).filter f ++ if f k then [k] else [] := by
  rw [List.range_succ, List.filter_append]
  congr 1
  cases h : f k <;> simp [h]
end Go.Proofs.YtbbadnlaelgmlaaGreat

namespace Go.Proofs.YtbbadnlaelgmlaaGreat
open Go.RowKit
set_option linter.unusedVariables false

section
variable {P : Program} {ops : Array Oper} {Q : Exit → Act → World → Prop} {md : Region.Mode} {S : World → Prop}
theorem takeH {i : Nat} (d : Tmp) {oi : Oper} {v : Value} {fuel : Nat} {listed : Array Bool} {a : Act} {w : World} (hi : ops[i]? = some oi) (hd : oi.dst = some d)
    (hs : Region.noSelect ops = true) (hf : Region.free md ops listed i = true) (hr : (Region.ready md ops listed).contains i = true)
    (hQ : ∀ c a w, Q (.panic c) (a.put (some d) v) w → Q (.panic c) a w) (hw : Region.wanted oi (yielded ops a.tmps) = true) (hy : ∀ w, S w → (execOp a.eval oi).run P w = .ok (.value v) w) (hS : S w)
    (h : wpAnyH P md ops Q S fuel (listed.setIfInBounds i true) (a.put (some d) v) w) : wpAnyH P md ops Q S (fuel + 1) listed a w := by
  rw [← hd] at hQ h
  exact wpAnyH_take hi hs hf hr hQ (.inl ⟨hw, hy⟩) hS h
end
end Go.Proofs.YtbbadnlaelgmlaaGreat

namespace Go.Proofs.YtbbadnlaelgmlaaGreat
open Go.RowKit
set_option maxRecDepth 100000
set_option linter.unusedVariables false
set_option linter.unusedSimpArgs false

theorem set_else {W : World} {b k o : Nat} {v : Value} {ob : Obj} (h : W.heap[k]? = some ob) (hne : k ≠ b) : (W.setCell ⟨b, o, none⟩ v).heap[k]? = some ob := by
  rw [Below.heap_setCell _ ⟨b, o, none⟩ v k hne]; exact h
theorem old_heap {X : World} {b : Nat} {o : Obj} (o' : Obj) (h : X.heap[b]? = some o) : (X.alloc o').heap[b]? = some o := (Below.heap_alloc _ _ _ (at_lt h)).trans h
end Go.Proofs.YtbbadnlaelgmlaaGreat

namespace Go.Proofs.YtbbadnlaelgmlaaGreat
open Go.ChangeShapes Go.WideShapes Go.Deep Go.RowKit
set_option maxRecDepth 100000
set_option linter.unusedSimpArgs false
set_option linter.unusedVariables false

theorem cell_lt3 {w : World} {b o : Nat} {v : Value} (h : w.cell? ⟨b, o, none⟩ = some v) : b < w.heap.size := by
  unfold World.cell? at h
  cases hb : w.heap[b]? with
  | none => simp [hb] at h
  | some ob => exact (Array.getElem?_eq_some_iff.1 hb).1
theorem u8_wf {n : Int} (h : (Lit.int .u8 n).wf = true) : ∃ m : Nat, n = (m : Int) ∧ m < 256 := by
  have h2 : (decide ((0 : Int) ≤ n) && decide (n ≤ 255)) = true := h
  simp only [Bool.and_eq_true, decide_eq_true_eq] at h2
  exact ⟨n.toNat, by omega, by omega⟩
theorem plain_add (b o j : Nat) : (⟨b, o, none⟩ : Addr).add j = ⟨b, o + j, none⟩ := by unfold Addr.add; split <;> simp_all
theorem add_spot {w : World} {a : Addr} {v : Value} (h : w.cell? (a.add 0) = some v) : ∃ b o, a = ⟨b, o, none⟩ ∧ b < w.heap.size := by
  obtain ⟨b, off, spot⟩ := a
  have hsp : spot = none := by simpa [Addr.add] using World.cell?_spot h
  subst hsp
  rw [plain_add] at h
  exact ⟨b, off, rfl, cell_lt3 h⟩
theorem cells_it : Tryz.prog.cellsOf 3 = 1 := by kernel_rfl
theorem cells_site : Tryz.prog.cellsOf 29 = 7 := by kernel_rfl
section
variable {H : Type} {enc : TypeId × Value → H} {W : World} {base : Nat} {spare : Nat → Bool} {held : Bool} {r : Go.Reach} {b0 : Nat} {v : Value} {d : DataW H} {p : List MemPlace}
theorem open_one64 {fuel : Nat} {x : DataW H × List MemPlace} {u : Value} (hf : DataW.trod enc Tryz.prog W base spare held fuel 3 [u] = some x) : ∃ n : Int, u = .int .i64 n := by
  obtain ⟨n, g, -, -⟩ := DataW.trod_int Tryz.underlying3 hf
  simp at g
  exact ⟨n, g⟩
theorem cells_Feed : Tryz.prog.cellsOf 81 = 1 := by kernel_rfl
theorem cells_sFeed : Tryz.prog.cellsOf 22 = 1 := by kernel_rfl
theorem open_sFeed {fuel : Nat} {x : DataW H × List MemPlace} (hf : DataW.trod enc Tryz.prog W base spare held fuel 22 [v] = some x) : ∃ (A : Option Addr) (c : Nat) (l : List Int), v = .slice A l.length c ∧ Rw 1 inF W A c l := by
  rcases open_slice Tryz.underlying22 hf with ⟨h0, _⟩ | ⟨a, len, cap, m, n, D, Pl, hcs, hb, hl, hm, hmm, hx, hi⟩
  · simp at h0
    subst h0
    exact ⟨none, 0, [], rfl, Rw.nil _ _⟩
  · simp at hcs
    subst hcs
    have hel : ∀ i, i < len → ∃ y : Int, ∀ q, q < 1 → W.cell? (a.add (i * 1 + q)) = some (.int .i64 (inF y q)) := by
      intro i him
      obtain ⟨cs', hc, ht'⟩ := hi i (by rw [hmm]; split <;> omega)
      rw [cells_Feed] at hc
      obtain ⟨_, hcl, hat⟩ := World.cells?_some hc
      obtain ⟨xs, k, -, -, -, hxl, hg⟩ := DataW.trod_struct Tryz.underlying81 ht'
      have hxl' : xs.length = 1 := hxl
      have g0 : DataW.trod enc Tryz.prog W base spare held k 3 ((cs'.drop 0).take (Tryz.prog.cellsOf 3)) = xs[0]? := hg 0 _ rfl
      rw [List.getElem?_eq_getElem (by omega)] at g0
      rw [cells_it] at g0
      match cs', hcl with
      | [c0], _ =>
        obtain ⟨p0, rfl⟩ := open_one64 (u := c0) g0
        have e0 := hat 0 (by omega)
        rw [Go.Deep.add_add] at e0
        refine ⟨p0, fun q hq => ?_⟩
        obtain rfl : q = 0 := by omega
        simpa [inF] using e0
    have inh : Inhabited Int := ⟨0⟩
    obtain ⟨G, hG⟩ := choose_lt hel
    refine ⟨some a, cap, (List.range len).map G, by simp, by simpa using hl, hm, fun h0 => ?_⟩
    have h0' : 0 < len := by simpa using h0
    obtain ⟨b, off, rfl, hlt⟩ := add_spot (by simpa using hG 0 h0' 0 (by omega))
    refine ⟨b, off, rfl, hlt, fun j q hj i hi2 => ?_⟩
    have hjl : j < len := by have := (List.getElem?_eq_some_iff.1 hj).1; simpa using this
    rw [List.getElem?_map, List.getElem?_range hjl] at hj
    injection hj with hj
    subst hj
    have e := hG j hjl i hi2
    rw [plain_add] at e
    rw [Nat.add_assoc]
    exact e
theorem cells_Breaker : Tryz.prog.cellsOf 83 = 4 := by kernel_rfl
theorem cells_sBreaker : Tryz.prog.cellsOf 23 = 1 := by kernel_rfl
theorem open_sBreaker {fuel : Nat} {x : DataW H × List MemPlace} (hf : DataW.trod enc Tryz.prog W base spare held fuel 23 [v] = some x) : ∃ (A : Option Addr) (c : Nat) (l : List Brk), v = .slice A l.length c ∧ Rw 4 brkF W A c l := by
  rcases open_slice Tryz.underlying23 hf with ⟨h0, _⟩ | ⟨a, len, cap, m, n, D, Pl, hcs, hb, hl, hm, hmm, hx, hi⟩
  · simp at h0
    subst h0
    exact ⟨none, 0, [], rfl, Rw.nil _ _⟩
  · simp at hcs
    subst hcs
    have hel : ∀ i, i < len → ∃ y : Brk, ∀ q, q < 4 → W.cell? (a.add (i * 4 + q)) = some (.int .i64 (brkF y q)) := by
      intro i him
      obtain ⟨cs', hc, ht'⟩ := hi i (by rw [hmm]; split <;> omega)
      rw [cells_Breaker] at hc
      obtain ⟨_, hcl, hat⟩ := World.cells?_some hc
      obtain ⟨xs, k, -, -, -, hxl, hg⟩ := DataW.trod_struct Tryz.underlying83 ht'
      have hxl' : xs.length = 4 := hxl
      have g0 : DataW.trod enc Tryz.prog W base spare held k 3 ((cs'.drop 0).take (Tryz.prog.cellsOf 3)) = xs[0]? := hg 0 _ rfl
      have g1 : DataW.trod enc Tryz.prog W base spare held k 3 ((cs'.drop 1).take (Tryz.prog.cellsOf 3)) = xs[1]? := hg 1 _ rfl
      have g2 : DataW.trod enc Tryz.prog W base spare held k 3 ((cs'.drop 2).take (Tryz.prog.cellsOf 3)) = xs[2]? := hg 2 _ rfl
      have g3 : DataW.trod enc Tryz.prog W base spare held k 3 ((cs'.drop 3).take (Tryz.prog.cellsOf 3)) = xs[3]? := hg 3 _ rfl
      rw [List.getElem?_eq_getElem (by omega)] at g0 g1 g2 g3
      rw [cells_it] at g0 g1 g2 g3
      match cs', hcl with
      | [c0, c1, c2, c3], _ =>
        obtain ⟨p0, rfl⟩ := open_one64 (u := c0) g0
        obtain ⟨p1, rfl⟩ := open_one64 (u := c1) g1
        obtain ⟨p2, rfl⟩ := open_one64 (u := c2) g2
        obtain ⟨p3, rfl⟩ := open_one64 (u := c3) g3
        have e0 := hat 0 (by omega)
        have e1 := hat 1 (by omega)
        have e2 := hat 2 (by omega)
        have e3 := hat 3 (by omega)
        rw [Go.Deep.add_add] at e0 e1 e2 e3
        refine ⟨⟨p0, p1, p2, p3⟩, fun q hq => ?_⟩
        rcases (by omega : q = 0 ∨ q = 1 ∨ q = 2 ∨ q = 3) with rfl | rfl | rfl | rfl
        · simpa [brkF] using e0
        · simpa [brkF] using e1
        · simpa [brkF] using e2
        · simpa [brkF] using e3
    have inh : Inhabited Brk := ⟨⟨0, 0, 0, 0⟩⟩
    obtain ⟨G, hG⟩ := choose_lt hel
    refine ⟨some a, cap, (List.range len).map G, by simp, by simpa using hl, hm, fun h0 => ?_⟩
    have h0' : 0 < len := by simpa using h0
    obtain ⟨b, off, rfl, hlt⟩ := add_spot (by simpa using hG 0 h0' 0 (by omega))
    refine ⟨b, off, rfl, hlt, fun j q hj i hi2 => ?_⟩
    have hjl : j < len := by have := (List.getElem?_eq_some_iff.1 hj).1; simpa using this
    rw [List.getElem?_map, List.getElem?_range hjl] at hj
    injection hj with hj
    subst hj
    have e := hG j hjl i hi2
    rw [plain_add] at e
    rw [Nat.add_assoc]
    exact e
theorem cells_Loop : Tryz.prog.cellsOf 85 = 2 := by kernel_rfl
theorem cells_sLoop : Tryz.prog.cellsOf 24 = 1 := by kernel_rfl
theorem open_sLoop {fuel : Nat} {x : DataW H × List MemPlace} (hf : DataW.trod enc Tryz.prog W base spare held fuel 24 [v] = some x) : ∃ (A : Option Addr) (c : Nat) (l : List Lp), v = .slice A l.length c ∧ Rw 2 lpF W A c l := by
  rcases open_slice Tryz.underlying24 hf with ⟨h0, _⟩ | ⟨a, len, cap, m, n, D, Pl, hcs, hb, hl, hm, hmm, hx, hi⟩
  · simp at h0
    subst h0
    exact ⟨none, 0, [], rfl, Rw.nil _ _⟩
  · simp at hcs
    subst hcs
    have hel : ∀ i, i < len → ∃ y : Lp, ∀ q, q < 2 → W.cell? (a.add (i * 2 + q)) = some (.int .i64 (lpF y q)) := by
      intro i him
      obtain ⟨cs', hc, ht'⟩ := hi i (by rw [hmm]; split <;> omega)
      rw [cells_Loop] at hc
      obtain ⟨_, hcl, hat⟩ := World.cells?_some hc
      obtain ⟨xs, k, -, -, -, hxl, hg⟩ := DataW.trod_struct Tryz.underlying85 ht'
      have hxl' : xs.length = 2 := hxl
      have g0 : DataW.trod enc Tryz.prog W base spare held k 3 ((cs'.drop 0).take (Tryz.prog.cellsOf 3)) = xs[0]? := hg 0 _ rfl
      have g1 : DataW.trod enc Tryz.prog W base spare held k 3 ((cs'.drop 1).take (Tryz.prog.cellsOf 3)) = xs[1]? := hg 1 _ rfl
      rw [List.getElem?_eq_getElem (by omega)] at g0 g1
      rw [cells_it] at g0 g1
      match cs', hcl with
      | [c0, c1], _ =>
        obtain ⟨p0, rfl⟩ := open_one64 (u := c0) g0
        obtain ⟨p1, rfl⟩ := open_one64 (u := c1) g1
        have e0 := hat 0 (by omega)
        have e1 := hat 1 (by omega)
        rw [Go.Deep.add_add] at e0 e1
        refine ⟨⟨p0, p1⟩, fun q hq => ?_⟩
        rcases (by omega : q = 0 ∨ q = 1) with rfl | rfl
        · simpa [lpF] using e0
        · simpa [lpF] using e1
    have inh : Inhabited Lp := ⟨⟨0, 0⟩⟩
    obtain ⟨G, hG⟩ := choose_lt hel
    refine ⟨some a, cap, (List.range len).map G, by simp, by simpa using hl, hm, fun h0 => ?_⟩
    have h0' : 0 < len := by simpa using h0
    obtain ⟨b, off, rfl, hlt⟩ := add_spot (by simpa using hG 0 h0' 0 (by omega))
    refine ⟨b, off, rfl, hlt, fun j q hj i hi2 => ?_⟩
    have hjl : j < len := by have := (List.getElem?_eq_some_iff.1 hj).1; simpa using this
    rw [List.getElem?_map, List.getElem?_range hjl] at hj
    injection hj with hj
    subst hj
    have e := hG j hjl i hi2
    rw [plain_add] at e
    rw [Nat.add_assoc]
    exact e
theorem cells_Rack : Tryz.prog.cellsOf 87 = 4 := by kernel_rfl
theorem cells_sRack : Tryz.prog.cellsOf 25 = 1 := by kernel_rfl
theorem open_sRack {fuel : Nat} {x : DataW H × List MemPlace} (hf : DataW.trod enc Tryz.prog W base spare held fuel 25 [v] = some x) : ∃ (A : Option Addr) (c : Nat) (l : List Rk), v = .slice A l.length c ∧ Rw 4 rkF W A c l := by
  rcases open_slice Tryz.underlying25 hf with ⟨h0, _⟩ | ⟨a, len, cap, m, n, D, Pl, hcs, hb, hl, hm, hmm, hx, hi⟩
  · simp at h0
    subst h0
    exact ⟨none, 0, [], rfl, Rw.nil _ _⟩
  · simp at hcs
    subst hcs
    have hel : ∀ i, i < len → ∃ y : Rk, ∀ q, q < 4 → W.cell? (a.add (i * 4 + q)) = some (.int .i64 (rkF y q)) := by
      intro i him
      obtain ⟨cs', hc, ht'⟩ := hi i (by rw [hmm]; split <;> omega)
      rw [cells_Rack] at hc
      obtain ⟨_, hcl, hat⟩ := World.cells?_some hc
      obtain ⟨xs, k, -, -, -, hxl, hg⟩ := DataW.trod_struct Tryz.underlying87 ht'
      have hxl' : xs.length = 4 := hxl
      have g0 : DataW.trod enc Tryz.prog W base spare held k 3 ((cs'.drop 0).take (Tryz.prog.cellsOf 3)) = xs[0]? := hg 0 _ rfl
      have g1 : DataW.trod enc Tryz.prog W base spare held k 3 ((cs'.drop 1).take (Tryz.prog.cellsOf 3)) = xs[1]? := hg 1 _ rfl
      have g2 : DataW.trod enc Tryz.prog W base spare held k 3 ((cs'.drop 2).take (Tryz.prog.cellsOf 3)) = xs[2]? := hg 2 _ rfl
      have g3 : DataW.trod enc Tryz.prog W base spare held k 3 ((cs'.drop 3).take (Tryz.prog.cellsOf 3)) = xs[3]? := hg 3 _ rfl
      rw [List.getElem?_eq_getElem (by omega)] at g0 g1 g2 g3
      rw [cells_it] at g0 g1 g2 g3
      match cs', hcl with
      | [c0, c1, c2, c3], _ =>
        obtain ⟨p0, rfl⟩ := open_one64 (u := c0) g0
        obtain ⟨p1, rfl⟩ := open_one64 (u := c1) g1
        obtain ⟨p2, rfl⟩ := open_one64 (u := c2) g2
        obtain ⟨p3, rfl⟩ := open_one64 (u := c3) g3
        have e0 := hat 0 (by omega)
        have e1 := hat 1 (by omega)
        have e2 := hat 2 (by omega)
        have e3 := hat 3 (by omega)
        rw [Go.Deep.add_add] at e0 e1 e2 e3
        refine ⟨⟨p0, p1, p2, p3⟩, fun q hq => ?_⟩
        rcases (by omega : q = 0 ∨ q = 1 ∨ q = 2 ∨ q = 3) with rfl | rfl | rfl | rfl
        · simpa [rkF] using e0
        · simpa [rkF] using e1
        · simpa [rkF] using e2
        · simpa [rkF] using e3
    have inh : Inhabited Rk := ⟨⟨0, 0, 0, 0⟩⟩
    obtain ⟨G, hG⟩ := choose_lt hel
    refine ⟨some a, cap, (List.range len).map G, by simp, by simpa using hl, hm, fun h0 => ?_⟩
    have h0' : 0 < len := by simpa using h0
    obtain ⟨b, off, rfl, hlt⟩ := add_spot (by simpa using hG 0 h0' 0 (by omega))
    refine ⟨b, off, rfl, hlt, fun j q hj i hi2 => ?_⟩
    have hjl : j < len := by have := (List.getElem?_eq_some_iff.1 hj).1; simpa using this
    rw [List.getElem?_map, List.getElem?_range hjl] at hj
    injection hj with hj
    subst hj
    have e := hG j hjl i hi2
    rw [plain_add] at e
    rw [Nat.add_assoc]
    exact e
theorem cells_Link : Tryz.prog.cellsOf 119 = 3 := by kernel_rfl
theorem cells_sLink : Tryz.prog.cellsOf 26 = 1 := by kernel_rfl
theorem open_sLink {fuel : Nat} {x : DataW H × List MemPlace} (hf : DataW.trod enc Tryz.prog W base spare held fuel 26 [v] = some x) : ∃ (A : Option Addr) (c : Nat) (l : List Lk), v = .slice A l.length c ∧ Rw 3 lkF W A c l := by
  rcases open_slice Tryz.underlying26 hf with ⟨h0, _⟩ | ⟨a, len, cap, m, n, D, Pl, hcs, hb, hl, hm, hmm, hx, hi⟩
  · simp at h0
    subst h0
    exact ⟨none, 0, [], rfl, Rw.nil _ _⟩
  · simp at hcs
    subst hcs
    have hel : ∀ i, i < len → ∃ y : Lk, ∀ q, q < 3 → W.cell? (a.add (i * 3 + q)) = some (.int .i64 (lkF y q)) := by
      intro i him
      obtain ⟨cs', hc, ht'⟩ := hi i (by rw [hmm]; split <;> omega)
      rw [cells_Link] at hc
      obtain ⟨_, hcl, hat⟩ := World.cells?_some hc
      obtain ⟨xs, k, -, -, -, hxl, hg⟩ := DataW.trod_struct Tryz.underlying119 ht'
      have hxl' : xs.length = 3 := hxl
      have g0 : DataW.trod enc Tryz.prog W base spare held k 3 ((cs'.drop 0).take (Tryz.prog.cellsOf 3)) = xs[0]? := hg 0 _ rfl
      have g1 : DataW.trod enc Tryz.prog W base spare held k 3 ((cs'.drop 1).take (Tryz.prog.cellsOf 3)) = xs[1]? := hg 1 _ rfl
      have g2 : DataW.trod enc Tryz.prog W base spare held k 3 ((cs'.drop 2).take (Tryz.prog.cellsOf 3)) = xs[2]? := hg 2 _ rfl
      rw [List.getElem?_eq_getElem (by omega)] at g0 g1 g2
      rw [cells_it] at g0 g1 g2
      match cs', hcl with
      | [c0, c1, c2], _ =>
        obtain ⟨p0, rfl⟩ := open_one64 (u := c0) g0
        obtain ⟨p1, rfl⟩ := open_one64 (u := c1) g1
        obtain ⟨p2, rfl⟩ := open_one64 (u := c2) g2
        have e0 := hat 0 (by omega)
        have e1 := hat 1 (by omega)
        have e2 := hat 2 (by omega)
        rw [Go.Deep.add_add] at e0 e1 e2
        refine ⟨⟨p0, p1, p2⟩, fun q hq => ?_⟩
        rcases (by omega : q = 0 ∨ q = 1 ∨ q = 2) with rfl | rfl | rfl
        · simpa [lkF] using e0
        · simpa [lkF] using e1
        · simpa [lkF] using e2
    have inh : Inhabited Lk := ⟨⟨0, 0, 0⟩⟩
    obtain ⟨G, hG⟩ := choose_lt hel
    refine ⟨some a, cap, (List.range len).map G, by simp, by simpa using hl, hm, fun h0 => ?_⟩
    have h0' : 0 < len := by simpa using h0
    obtain ⟨b, off, rfl, hlt⟩ := add_spot (by simpa using hG 0 h0' 0 (by omega))
    refine ⟨b, off, rfl, hlt, fun j q hj i hi2 => ?_⟩
    have hjl : j < len := by have := (List.getElem?_eq_some_iff.1 hj).1; simpa using this
    rw [List.getElem?_map, List.getElem?_range hjl] at hj
    injection hj with hj
    subst hj
    have e := hG j hjl i hi2
    rw [plain_add] at e
    rw [Nat.add_assoc]
    exact e
theorem cells_Host : Tryz.prog.cellsOf 89 = 4 := by kernel_rfl
theorem cells_sHost : Tryz.prog.cellsOf 27 = 1 := by kernel_rfl
theorem open_sHost {fuel : Nat} {x : DataW H × List MemPlace} (hf : DataW.trod enc Tryz.prog W base spare held fuel 27 [v] = some x) : ∃ (A : Option Addr) (c : Nat) (l : List Hs), v = .slice A l.length c ∧ Rw 4 hsF W A c l := by
  rcases open_slice Tryz.underlying27 hf with ⟨h0, _⟩ | ⟨a, len, cap, m, n, D, Pl, hcs, hb, hl, hm, hmm, hx, hi⟩
  · simp at h0
    subst h0
    exact ⟨none, 0, [], rfl, Rw.nil _ _⟩
  · simp at hcs
    subst hcs
    have hel : ∀ i, i < len → ∃ y : Hs, ∀ q, q < 4 → W.cell? (a.add (i * 4 + q)) = some (.int .i64 (hsF y q)) := by
      intro i him
      obtain ⟨cs', hc, ht'⟩ := hi i (by rw [hmm]; split <;> omega)
      rw [cells_Host] at hc
      obtain ⟨_, hcl, hat⟩ := World.cells?_some hc
      obtain ⟨xs, k, -, -, -, hxl, hg⟩ := DataW.trod_struct Tryz.underlying89 ht'
      have hxl' : xs.length = 4 := hxl
      have g0 : DataW.trod enc Tryz.prog W base spare held k 3 ((cs'.drop 0).take (Tryz.prog.cellsOf 3)) = xs[0]? := hg 0 _ rfl
      have g1 : DataW.trod enc Tryz.prog W base spare held k 3 ((cs'.drop 1).take (Tryz.prog.cellsOf 3)) = xs[1]? := hg 1 _ rfl
      have g2 : DataW.trod enc Tryz.prog W base spare held k 3 ((cs'.drop 2).take (Tryz.prog.cellsOf 3)) = xs[2]? := hg 2 _ rfl
      have g3 : DataW.trod enc Tryz.prog W base spare held k 3 ((cs'.drop 3).take (Tryz.prog.cellsOf 3)) = xs[3]? := hg 3 _ rfl
      rw [List.getElem?_eq_getElem (by omega)] at g0 g1 g2 g3
      rw [cells_it] at g0 g1 g2 g3
      match cs', hcl with
      | [c0, c1, c2, c3], _ =>
        obtain ⟨p0, rfl⟩ := open_one64 (u := c0) g0
        obtain ⟨p1, rfl⟩ := open_one64 (u := c1) g1
        obtain ⟨p2, rfl⟩ := open_one64 (u := c2) g2
        obtain ⟨p3, rfl⟩ := open_one64 (u := c3) g3
        have e0 := hat 0 (by omega)
        have e1 := hat 1 (by omega)
        have e2 := hat 2 (by omega)
        have e3 := hat 3 (by omega)
        rw [Go.Deep.add_add] at e0 e1 e2 e3
        refine ⟨⟨p0, p1, p2, p3⟩, fun q hq => ?_⟩
        rcases (by omega : q = 0 ∨ q = 1 ∨ q = 2 ∨ q = 3) with rfl | rfl | rfl | rfl
        · simpa [hsF] using e0
        · simpa [hsF] using e1
        · simpa [hsF] using e2
        · simpa [hsF] using e3
    have inh : Inhabited Hs := ⟨⟨0, 0, 0, 0⟩⟩
    obtain ⟨G, hG⟩ := choose_lt hel
    refine ⟨some a, cap, (List.range len).map G, by simp, by simpa using hl, hm, fun h0 => ?_⟩
    have h0' : 0 < len := by simpa using h0
    obtain ⟨b, off, rfl, hlt⟩ := add_spot (by simpa using hG 0 h0' 0 (by omega))
    refine ⟨b, off, rfl, hlt, fun j q hj i hi2 => ?_⟩
    have hjl : j < len := by have := (List.getElem?_eq_some_iff.1 hj).1; simpa using this
    rw [List.getElem?_map, List.getElem?_range hjl] at hj
    injection hj with hj
    subst hj
    have e := hG j hjl i hi2
    rw [plain_add] at e
    rw [Nat.add_assoc]
    exact e
theorem open_site (h : DataW.Trod enc Tryz.prog W base spare held 29 v d p) (hv : Value.okWide Tryz.prog W r b0 29 v) : ∃ (q : SP) (s : SiteD), v = siV q s ∧ SiAt W q s := by
  obtain ⟨⟨l⟩, rfl, hsz⟩ := okWide_struct Tryz.underlying29 hv
  obtain ⟨fuel, hf⟩ := h
  obtain ⟨xs, k, -, -, -, hl, hg⟩ := DataW.trod_struct Tryz.underlying29 hf
  have hlen : l.length = 7 := hsz.trans cells_site
  have hxl : xs.length = 7 := hl
  have g0 : DataW.trod enc Tryz.prog W base spare held k 22 ((l.drop 0).take (Tryz.prog.cellsOf 22)) = xs[0]? := hg 0 _ rfl
  have g1 : DataW.trod enc Tryz.prog W base spare held k 23 ((l.drop 1).take (Tryz.prog.cellsOf 23)) = xs[1]? := hg 1 _ rfl
  have g2 : DataW.trod enc Tryz.prog W base spare held k 24 ((l.drop 2).take (Tryz.prog.cellsOf 24)) = xs[2]? := hg 2 _ rfl
  have g3 : DataW.trod enc Tryz.prog W base spare held k 25 ((l.drop 3).take (Tryz.prog.cellsOf 25)) = xs[3]? := hg 3 _ rfl
  have g4 : DataW.trod enc Tryz.prog W base spare held k 3 ((l.drop 4).take (Tryz.prog.cellsOf 3)) = xs[4]? := hg 4 _ rfl
  have g5 : DataW.trod enc Tryz.prog W base spare held k 26 ((l.drop 5).take (Tryz.prog.cellsOf 26)) = xs[5]? := hg 5 _ rfl
  have g6 : DataW.trod enc Tryz.prog W base spare held k 27 ((l.drop 6).take (Tryz.prog.cellsOf 27)) = xs[6]? := hg 6 _ rfl
  rw [List.getElem?_eq_getElem (by omega)] at g0 g1 g2 g3 g4 g5 g6
  rw [cells_sFeed] at g0
  rw [cells_sBreaker] at g1
  rw [cells_sLoop] at g2
  rw [cells_sRack] at g3
  rw [cells_it] at g4
  rw [cells_sLink] at g5
  rw [cells_sHost] at g6
  match l, hlen with
  | [c0, c1, c2, c3, c4, c5, c6], _ =>
    obtain ⟨A1, k1, l1, rfl, h1⟩ := open_sFeed (v := c0) g0
    obtain ⟨A2, k2, l2, rfl, h2⟩ := open_sBreaker (v := c1) g1
    obtain ⟨A3, k3, l3, rfl, h3⟩ := open_sLoop (v := c2) g2
    obtain ⟨A4, k4, l4, rfl, h4⟩ := open_sRack (v := c3) g3
    obtain ⟨n, rfl⟩ := open_one64 (u := c4) g4
    obtain ⟨A5, k5, l5, rfl, h5⟩ := open_sLink (v := c5) g5
    obtain ⟨A6, k6, l6, rfl, h6⟩ := open_sHost (v := c6) g6
    exact ⟨⟨A1, k1, A2, k2, A3, k3, A4, k4, A5, k5, A6, k6⟩, ⟨l1, l2, l3, l4, n, l5, l6⟩, rfl, h1, h2, h3, h4, h5, h6⟩
end
end Go.Proofs.YtbbadnlaelgmlaaGreat

namespace Go.Proofs.YtbbadnlaelgmlaaGreat
set_option linter.unusedVariables false
set_option linter.unusedSimpArgs false

structure Hst where
  phase : Nat
  fw : Int
  deriving DecidableEq
structure Rep where
  svc : Int
  host : Int
  deriving DecidableEq
structure Nr where
  svc : Int
  lat : Int
structure Svc where
  cores : Int
  reps : Int
  least : Int
  dom : Nat
  spread : Int
  apart : List Int
  near : List Nr
  fw : Int
structure WorldD where
  hosts : List Hst
  reps : List Rep
/-- The elements of a list name other services, strictly ascending. -/
def othGo (own many : Int) : Int → List Int → Bool
  | _, [] => true
  | last, x :: l => if x ≤ last ∨ many ≤ x ∨ x = own then false else othGo own many x l
def othB (own many : Int) (l : List Int) : Bool := othGo own many (-1) l
theorem othGo_cons_ok {own many last x : Int} {l : List Int} (h : ¬ (x ≤ last ∨ many ≤ x ∨ x = own)) : othGo own many last (x :: l) = othGo own many x l := by
  rw [othGo, if_neg h]
theorem othGo_cons_no {own many last x : Int} {l : List Int} (h : x ≤ last ∨ many ≤ x ∨ x = own) : othGo own many last (x :: l) = false := by
  rw [othGo, if_pos h]
def nearBad (n : Nr) : Bool := !inB n.lat 0 1000000
def keepB (s : Svc) : Bool :=
  inB s.cores 1 1000 && (inB s.reps 0 24 && (inB s.least 0 s.reps && (inB s.fw 0 1000000 && (decide (s.dom ≤ 5) && (inB s.spread (if s.dom = 0 then 0 else 1) (if s.dom = 0 then 0 else 24) && !s.near.any nearBad)))))
def nameB (s : Svc) (own many : Int) : Bool := othB own many s.apart && othB own many (s.near.map (·.svc))
def svcB (s : Svc) (own many : Int) : Bool := keepB s && nameB s own many
def sumR (l : List Svc) : Int := (l.map (·.reps)).sum
/-- What a valid wish is. -/
def WishOk (l : List Svc) : Prop := l.length ≤ 8 ∧ (∀ (i : Nat) s, l[i]? = some s → svcB s i l.length = true) ∧ sumR l ≤ 24
theorem keepB_iff {s : Svc} : keepB s = true ↔ (1 ≤ s.cores ∧ s.cores ≤ 1000) ∧ (0 ≤ s.reps ∧ s.reps ≤ 24) ∧ (0 ≤ s.least ∧ s.least ≤ s.reps) ∧ (0 ≤ s.fw ∧ s.fw ≤ 1000000) ∧ s.dom ≤ 5 ∧ ((if s.dom = 0 then 0 else 1) ≤ s.spread ∧ s.spread ≤ (if s.dom = 0 then 0 else 24)) ∧ ∀ n ∈ s.near, 0 ≤ n.lat ∧ n.lat ≤ 1000000 := by
  unfold keepB
  simp only [Bool.and_eq_true, inB_iff, decide_eq_true_eq, Bool.not_eq_true', List.any_eq_false, nearBad]
  simp [inB_iff]
/-- The replicas are in order. -/
def lessR (a b : Rep) : Bool := decide (a.svc < b.svc) || (a.svc == b.svc && decide (a.host < b.host))
theorem lessR_iff {a b : Rep} : lessR a b = true ↔ a.svc < b.svc ∨ a.svc = b.svc ∧ a.host < b.host := by simp [lessR]
def ascB : List Rep → Bool
  | a :: b :: l => lessR a b && ascB (b :: l)
  | _ => true
theorem ascB_iff {l : List Rep} : ascB l = true ↔ ∀ (i : Nat) a b, l[i]? = some a → l[i + 1]? = some b → lessR a b = true := by
  induction l with
  | nil => simp [ascB]
  | cons x l ih =>
    cases l with
    | nil => simp [ascB]
    | cons y l =>
      rw [ascB, Bool.and_eq_true, ih]
      constructor
      · rintro ⟨h0, h⟩ i a b ha hb
        cases i with
        | zero => simp at ha hb; subst ha hb; exact h0
        | succ i => exact h i a b (by simpa using ha) (by simpa using hb)
      · intro h
        exact ⟨h 0 x y rfl rfl, fun i a b ha hb => h (i + 1) a b (by simpa using ha) (by simpa using hb)⟩
/-- The hosts of a service. -/
def whereD (l : List Rep) (s : Int) : List Int := (l.filter (fun r => r.svc == s)).map (·.host)
theorem where_snoc (l : List Rep) (r : Rep) (s : Int) : whereD (l ++ [r]) s = whereD l s ++ if r.svc == s then [r.host] else [] := by
  unfold whereD
  rw [List.filter_append, List.map_append]
  congr 1
  cases h : (r.svc == s) <;> simp [List.filter_cons, h]
def coresAt (ss : List Svc) (k : Int) : Int := ((ss[k.toNat]?).map (·.cores)).getD 0
/-- The cores in use: sums wrap around. -/
def usedStep (ss : List Svc) (host : Int) (acc : Int) (r : Rep) : Int := if (r.host == host && ixB r.svc ss.length) = true then IntKind.i64.wrap (acc + coresAt ss r.svc) else acc
def usedD (ss : List Svc) (l : List Rep) (host : Int) : Int := l.foldl (usedStep ss host) 0
theorem used_snoc (ss : List Svc) (l : List Rep) (r : Rep) (host : Int) : usedD ss (l ++ [r]) host = usedStep ss host (usedD ss l host) r := by
  unfold usedD; rw [List.foldl_append]; rfl
def hasB (l : List Rep) (r : Rep) : Bool := decide (r ∈ l)
/-- A valid world. -/
def hstOk (h : Hst) : Bool := decide (h.phase ≤ 4) && inB h.fw 0 1000000
def repOk (ns nh : Int) (r : Rep) : Bool := ixB r.svc ns && ixB r.host nh
def WorldOk (s : SiteD) (ss : List Svc) (w : WorldD) : Prop :=
  siteOk s = true ∧ WishOk ss ∧ w.hosts.length = s.hosts.length ∧ (∀ h ∈ w.hosts, hstOk h = true) ∧ w.reps.length ≤ 24 ∧ (∀ r ∈ w.reps, repOk ss.length s.hosts.length r = true) ∧ ascB w.reps = true
end Go.Proofs.YtbbadnlaelgmlaaGreat

namespace Go.Proofs.YtbbadnlaelgmlaaGreat
set_option linter.unusedVariables false
set_option linter.unusedSimpArgs false

def sumN (f : Nat → Int) : Nat → Int
  | 0 => 0
  | n + 1 => sumN f n + f n
theorem sumN_ext {f g : Nat → Int} : ∀ {n : Nat}, (∀ i, i < n → f i = g i) → sumN f n = sumN g n := by
  intro n
  induction n with
  | zero => intro _; rfl
  | succ n ih => intro h; rw [sumN, sumN, ih fun i hi => h i (by omega), h n (by omega)]
theorem sumN_add (f g : Nat → Int) (n : Nat) : sumN (fun i => f i + g i) n = sumN f n + sumN g n := by
  induction n with
  | zero => rfl
  | succ n ih => simp only [sumN, ih]; omega
theorem sumN_zero (n : Nat) : sumN (fun _ => 0) n = 0 := by
  induction n with
  | zero => rfl
  | succ n ih => simp only [sumN, ih]; omega
theorem sumN_one (a : Nat) (c : Int) (n : Nat) : sumN (fun i => if a = i then c else 0) n = if a < n then c else 0 := by
  induction n with
  | zero => simp [sumN]
  | succ n ih =>
    rw [sumN, ih]
    by_cases h : a = n
    · subst h; simp
    · rw [if_neg h]
      by_cases h2 : a < n
      · rw [if_pos h2, if_pos (by omega)]; omega
      · rw [if_neg h2, if_neg (by omega)]; omega
theorem sumN_bound {f : Nat → Int} {m : Int} : ∀ {n : Nat}, (∀ i, i < n → 0 ≤ f i ∧ f i ≤ m) → 0 ≤ sumN f n ∧ sumN f n ≤ m * n := by
  intro n
  induction n with
  | zero => intro _; simp [sumN]
  | succ n ih =>
    intro h
    have h1 := ih fun i hi => h i (by omega)
    have h2 := h n (by omega)
    rw [sumN, show ((n + 1 : Nat) : Int) = n + 1 by omega, Int.mul_add]
    omega
/-- How much the replicas weigh, service by service. -/
theorem sum_weights (c : Nat → Int) (n : Nat) : ∀ {l : List Rep}, (∀ r ∈ l, 0 ≤ r.svc ∧ r.svc < n) → sumN (fun i => (((whereD l i).length : Nat) : Int) * c i) n = (l.map fun r => c r.svc.toNat).sum := by
  intro l
  induction l with
  | nil => intro _; simp [whereD, sumN_zero]
  | cons r l ih =>
    intro h
    have h0 := h r (by simp)
    obtain ⟨a, ha⟩ : ∃ a : Nat, r.svc = a := ⟨r.svc.toNat, by omega⟩
    rw [List.map_cons, List.sum_cons, ← ih fun x hx => h x (by simp [hx])]
    have e : ∀ i, i < n → (((whereD (r :: l) i).length : Nat) : Int) * c i = (if a = i then c a else 0) + (((whereD l i).length : Nat) : Int) * c i := by
      intro i hi
      unfold whereD
      rw [List.filter_cons]
      by_cases e : a = i
      · subst e
        rw [if_pos (by rw [ha]; simp), if_pos rfl, List.map_cons, List.length_cons, Int.natCast_add, Int.add_mul]
        simp; omega
      · rw [if_neg (by rw [ha]; simp; omega), if_neg e]; omega
    rw [sumN_ext e, sumN_add, sumN_one, if_pos (by omega), ha]
    simp
theorem sum_runs (n : Nat) {l : List Rep} (h : ∀ r ∈ l, 0 ≤ r.svc ∧ r.svc < n) : sumN (fun i => (((whereD l i).length : Nat) : Int)) n = l.length := by
  have := sum_weights (fun _ => 1) n h
  simp only [Int.mul_one] at this
  rw [this]
  clear this h
  induction l with
  | nil => rfl
  | cons x l ih => rw [List.map_cons, List.sum_cons, ih, List.length_cons]; omega
/-- The cores in use where no sum wraps around. -/
def usedN (ss : List Svc) (l : List Rep) (host : Int) : Int := (l.map fun r => if r.host = host then coresAt ss r.svc else 0).sum
theorem used_eq {ss : List Svc} {host : Int} (hc : ∀ s ∈ ss, 1 ≤ s.cores ∧ s.cores ≤ 1000) : ∀ {l : List Rep}, (∀ r ∈ l, 0 ≤ r.svc ∧ r.svc < ss.length) → l.length ≤ 100 → ∀ acc : Int, 0 ≤ acc → acc ≤ 1000 * (100 - l.length) → l.foldl (usedStep ss host) acc = acc + usedN ss l host ∧ 0 ≤ usedN ss l host ∧ usedN ss l host ≤ 1000 * l.length := by
  intro l
  induction l with
  | nil => intro _ _ acc _ _; simp [usedN]
  | cons r l ih =>
    intro h hl acc h0 h1
    rw [List.length_cons] at hl h1
    have hr := h r (by simp)
    have hcr : 1 ≤ coresAt ss r.svc ∧ coresAt ss r.svc ≤ 1000 := by
      have hlt : r.svc.toNat < ss.length := by omega
      unfold coresAt
      rw [List.getElem?_eq_getElem hlt]
      exact hc _ (List.getElem_mem hlt)
    have hix : ixB r.svc ss.length = true := ixB_iff.2 hr
    rw [List.foldl_cons]
    have hN : usedN ss (r :: l) host = (if r.host = host then coresAt ss r.svc else 0) + usedN ss l host := by simp [usedN]
    have hstep : usedStep ss host acc r = acc + if r.host = host then coresAt ss r.svc else 0 := by
      unfold usedStep
      rw [hix, Bool.and_true]
      by_cases e : r.host = host
      · rw [if_pos (by simp [e]), if_pos e]
        unfold IntKind.wrap
        simp [IntKind.signed, IntKind.bits]
        omega
      · rw [if_neg (by simp [e]), if_neg e]; simp
    have key := ih (fun x hx => h x (by simp [hx])) (by omega) (usedStep ss host acc r) (by rw [hstep]; split <;> omega) (by rw [hstep]; split <;> omega)
    rw [key.1, hN, hstep, List.length_cons]
    refine ⟨by omega, ?_, ?_⟩
    · split <;> omega
    · split <;> omega
theorem sum_used {ss : List Svc} (nh : Nat) : ∀ {l : List Rep}, (∀ r ∈ l, 0 ≤ r.host ∧ r.host < nh) → sumN (fun i => usedN ss l i) nh = (l.map fun r => coresAt ss r.svc).sum := by
  intro l
  induction l with
  | nil => intro _; simp [usedN, sumN_zero]
  | cons r l ih =>
    intro h
    have h0 := h r (by simp)
    obtain ⟨a, ha⟩ : ∃ a : Nat, r.host = a := ⟨r.host.toNat, by omega⟩
    rw [List.map_cons, List.sum_cons, ← ih fun x hx => h x (by simp [hx])]
    have e : ∀ i, i < nh → usedN ss (r :: l) i = (if a = i then coresAt ss r.svc else 0) + usedN ss l i := by
      intro i hi
      unfold usedN
      rw [List.map_cons, List.sum_cons, ha]
      congr 1
      by_cases e : a = i
      · rw [if_pos e, if_pos (by omega)]
      · rw [if_neg e, if_neg (by omega)]
    rw [sumN_ext e, sumN_add, sumN_one, if_pos (by omega)]
theorem where_len (l : List Rep) (s : Int) : (whereD l s).length ≤ l.length := by
  unfold whereD; rw [List.length_map]; exact List.length_filter_le _ _
theorem where_host {l : List Rep} {s x : Int} (h : x ∈ whereD l s) : ∃ r ∈ l, r.host = x := by
  unfold whereD at h
  obtain ⟨r, hr, e⟩ := List.mem_map.1 h
  exact ⟨r, (List.mem_filter.1 hr).1, e⟩
/-- What the law of sums adds up. -/
theorem sums_ok {s : SiteD} {ss : List Svc} {w : WorldD} (h : WorldOk s ss w) :
    sumN (fun i => (((whereD w.reps i).length : Nat) : Int)) ss.length = w.reps.length ∧
    sumN (fun i => (((whereD w.reps i).length : Nat) : Int) * coresAt ss i) ss.length = sumN (fun i => usedD ss w.reps i) s.hosts.length ∧
    (∀ i : Int, 0 ≤ usedD ss w.reps i ∧ usedD ss w.reps i ≤ 24000) ∧ (∀ i : Nat, i < ss.length → 1 ≤ coresAt ss i ∧ coresAt ss i ≤ 1000) := by
  obtain ⟨h1, ⟨h2, h3, h4⟩, h5, h6, h7, h8, h9⟩ := h
  have hsv : ∀ r ∈ w.reps, 0 ≤ r.svc ∧ r.svc < ss.length := fun r hr => by
    have := h8 r hr
    unfold repOk at this
    rw [Bool.and_eq_true, ixB_iff, ixB_iff] at this
    exact this.1
  have hho : ∀ r ∈ w.reps, 0 ≤ r.host ∧ r.host < s.hosts.length := fun r hr => by
    have := h8 r hr
    unfold repOk at this
    rw [Bool.and_eq_true, ixB_iff, ixB_iff] at this
    exact this.2
  have hco : ∀ x ∈ ss, 1 ≤ x.cores ∧ x.cores ≤ 1000 := fun x hx => by
    obtain ⟨i, hi⟩ := List.getElem?_of_mem hx
    have := h3 i x hi
    unfold svcB at this
    rw [Bool.and_eq_true, keepB_iff] at this
    exact this.1.1
  have hu : ∀ i : Int, usedD ss w.reps i = usedN ss w.reps i ∧ 0 ≤ usedN ss w.reps i ∧ usedN ss w.reps i ≤ 1000 * w.reps.length := fun i => by
    have := used_eq (host := i) hco hsv (by omega) 0 (by omega) (by omega)
    unfold usedD
    rw [this.1]
    exact ⟨by omega, this.2⟩
  refine ⟨sum_runs _ hsv, ?_, fun i => ?_, fun i hi => ?_⟩
  · rw [sum_weights (fun i => coresAt ss i) _ hsv, sumN_ext (fun i _ => (hu i).1), sum_used _ hho]
    rfl
  · have := hu i; omega
  · unfold coresAt
    rw [show ((i : Nat) : Int).toNat = i by omega, List.getElem?_eq_getElem hi]
    exact hco _ (List.getElem_mem hi)
end Go.Proofs.YtbbadnlaelgmlaaGreat

namespace Go.Proofs.YtbbadnlaelgmlaaGreat
open Go.RowKit
attribute [local go_sem] Oper.semAt_some
set_option maxRecDepth 100000
set_option linter.unusedVariables false
set_option linter.unusedSimpArgs false

theorem wrap_in {x : Int} (h : -9223372036854775808 ≤ x) (h2 : x ≤ 9223372036854775807) : IntKind.i64.wrap x = x := by
  unfold IntKind.wrap
  simp [IntKind.signed, IntKind.bits]
  omega
/-- Rows of k cells, as a slice's address and capacity. -/
def Rv {α : Type} (k : Nat) (F : α → Nat → Value) (w : World) (A : Option Addr) (c : Nat) (l : List α) : Prop :=
  l.length ≤ c ∧ c ≤ maxLen ∧ (A = none → c = 0) ∧ (0 < l.length → ∃ b o, A = some ⟨b, o, none⟩ ∧ b < w.heap.size ∧ ∀ (j : Nat) (x : α), l[j]? = some x → ∀ i, i < k → w.cell? ⟨b, o + j * k + i, none⟩ = some (F x i))
section
variable {α : Type} {k : Nat} {F : α → Nat → Value} {w w' : World} {A : Option Addr} {c : Nat} {l : List α}
theorem Rv.on {B : Nat} (h : Rv k F w A c l) (hb : Below B w w') (hB : w.heap.size ≤ B) : Rv k F w' A c l := by
  obtain ⟨h1, h2, h3, h4⟩ := h
  refine ⟨h1, h2, h3, fun h0 => ?_⟩
  obtain ⟨b, o, e, hlt, hc⟩ := h4 h0
  exact ⟨b, o, e, Nat.lt_of_lt_of_le hlt hb.size, fun j x hj i hi => (hb.cell (p := ⟨b, o + j * k + i, none⟩) (by show b < B; omega)).trans (hc j x hj i hi)⟩
theorem Rv.at_ (h : Rv k F w A c l) {j : Nat} {x : α} (hj : l[j]? = some x) : ∃ b o, A = some ⟨b, o, none⟩ ∧ b < w.heap.size ∧ ∀ i, i < k → w.cell? ⟨b, o + j * k + i, none⟩ = some (F x i) := by
  obtain ⟨h1, h2, -, h4⟩ := h
  obtain ⟨b, o, e, hlt, hc⟩ := h4 (by have := (List.getElem?_eq_some_iff.1 hj).1; omega)
  exact ⟨b, o, e, hlt, fun i hi => hc j x hj i hi⟩
theorem Rv.nil (w : World) : Rv k F w none 0 ([] : List α) := ⟨Nat.le_refl _, Nat.zero_le _, fun _ => rfl, fun h => absurd h (Nat.lt_irrefl _)⟩
theorem Rv.none_nil (h : Rv k F w none c l) : l = [] ∧ c = 0 := by
  have := h.2.2.1 rfl
  exact ⟨List.eq_nil_of_length_eq_zero (by have := h.1; omega), this⟩
theorem Rv.take (h : Rv k F w A c l) (m : Nat) (hm : m ≤ l.length) : Rv k F w A c (l.take m) := by
  obtain ⟨h1, h2, h3, h4⟩ := h
  have hl : (l.take m).length = m := by rw [List.length_take]; omega
  refine ⟨by omega, h2, h3, fun h0 => ?_⟩
  obtain ⟨b, o, e, hlt, hc⟩ := h4 (by omega)
  refine ⟨b, o, e, hlt, fun j x hj => hc j x ?_⟩
  rw [List.getElem?_take] at hj
  split at hj
  · exact hj
  · cases hj
theorem Rv.drop {b o : Nat} (h : Rv k F w (some ⟨b, o, none⟩) c l) (m : Nat) (hm : m ≤ l.length) : Rv k F w (some ⟨b, o + m * k, none⟩) (c - m) (l.drop m) := by
  obtain ⟨h1, h2, h3, h4⟩ := h
  refine ⟨by simp; omega, by omega, (by intro h; cases h), fun h0 => ?_⟩
  obtain ⟨b', o', e, hlt, hc⟩ := h4 (by simp at h0; omega)
  injection e with e
  injection e with e1 e2
  subst e1 e2
  refine ⟨b, o + m * k, rfl, hlt, fun j x hj i hi => ?_⟩
  rw [List.getElem?_drop] at hj
  have := hc (m + j) x hj i hi
  rwa [show o + (m + j) * k + i = o + m * k + j * k + i by rw [Nat.add_mul]; omega] at this
end
/-- Rows as cells. -/
def cellsV {α : Type} (k : Nat) (F : α → Nat → Value) (l : List α) : List Value := l.flatMap fun x => (List.range k).map fun i => F x i
section
variable {α : Type} {k : Nat} {F : α → Nat → Value}
theorem cellsV_at : ∀ {l : List α} {j : Nat} {x : α}, l[j]? = some x → ∀ i, i < k → (cellsV k F l)[j * k + i]? = some (F x i) := by
  intro l
  induction l with
  | nil => intro j x h; simp at h
  | cons y l ih =>
    intro j x h i hi
    have e : cellsV k F (y :: l) = ((List.range k).map fun i => F y i) ++ cellsV k F l := rfl
    rw [e]
    cases j with
    | zero =>
      simp at h
      subst h
      rw [Nat.zero_mul, Nat.zero_add, List.getElem?_append_left (by simp; omega)]
      simp [hi]
    | succ j =>
      rw [List.getElem?_append_right (by simp; rw [Nat.succ_mul]; omega)]
      have := ih (j := j) (x := x) (by simpa using h) i hi
      rw [show (j + 1) * k + i - (List.map (fun i => F y i) (List.range k)).length = j * k + i by simp [Nat.succ_mul]; omega]
      exact this
theorem cellsV_len (l : List α) : (cellsV k F l).length = l.length * k := by
  induction l with
  | nil => simp [cellsV]
  | cons y l ih =>
    have e : cellsV k F (y :: l) = ((List.range k).map fun i => F y i) ++ cellsV k F l := rfl
    rw [e, List.length_append, ih, List.length_cons, Nat.succ_mul]
    simp; omega
theorem cellsV_append (l m : List α) : cellsV k F (l ++ m) = cellsV k F l ++ cellsV k F m := by simp [cellsV]
theorem cellsV_one (h1 : ∀ x i, (F x i).oneCell' = true) (l : List α) : ∀ u ∈ cellsV k F l, u.oneCell' = true := by
  intro u hu
  obtain ⟨x, -, hx⟩ := List.mem_flatMap.1 hu
  obtain ⟨i, -, rfl⟩ := List.mem_map.1 hx
  exact h1 x i
/-- What lies in the cells behind a slice's address. -/
theorem Rv.cells {w : World} {A : Option Addr} {c : Nat} {l : List α} (h : Rv k F w A c l) (hk : 0 < k) : ∀ ad, A = some ad → ∀ j u, (cellsV k F l)[j]? = some u → w.cell? (ad.add j) = some u := by
  intro ad hA j u hj
  have hjl := (List.getElem?_eq_some_iff.1 hj).1
  rw [cellsV_len] at hjl
  have hq : j / k < l.length := Nat.div_lt_of_lt_mul (by rw [Nat.mul_comm]; exact hjl)
  obtain ⟨x, hx⟩ : ∃ x, l[j / k]? = some x := ⟨_, List.getElem?_eq_getElem hq⟩
  obtain ⟨b, o, e, -, hc⟩ := h.at_ hx
  rw [hA] at e
  injection e with e
  subst e
  have hr : j % k < k := Nat.mod_lt _ hk
  have hd : j / k * k + j % k = j := by rw [Nat.mul_comm]; exact Nat.div_add_mod j k
  have h1 := cellsV_at (F := F) hx (j % k) hr
  rw [hd, hj] at h1
  injection h1 with h1
  have h2 := hc (j % k) hr
  rw [show o + j / k * k + j % k = o + j by omega] at h2
  rw [h1]
  have e : (⟨b, o, none⟩ : Addr).add j = ⟨b, o + j, none⟩ := by unfold Addr.add; split <;> simp_all
  rw [e]; exact h2
/-- A block of rows is a list in memory. -/
theorem rv_block {l : List α} {w : World} {b : Nat} {T : TypeId} (h : w.heap[b]? = some (.cells (cellsV k F l).toArray T (0, 0))) (hl : l.length ≤ maxLen) : Rv k F w (some ⟨b, 0, none⟩) l.length l := by
  refine ⟨Nat.le_refl _, hl, (by intro h; cases h), fun _ => ⟨b, 0, rfl, at_lt h, fun j x hj i hi => ?_⟩⟩
  rw [Nat.zero_add]
  refine cell_of h ?_
  have := cellsV_at (F := F) hj i hi
  simpa using this
/-- A list that a walk has made is a list in memory. -/
theorem own_rv {w : World} {base : Nat} {T : TypeId} {v : Value} {l : List α} (h : w.ownsRow base T k v l.length (cellsV k F l)) : ∃ A c, v = .slice A l.length c ∧ Rv k F w A c l := by
  have hc := h
  obtain ⟨k1, ⟨e, e2⟩ | ⟨g, cap, cur, e, k3, k4, k5, k6, k7, k8⟩⟩ := h
  · subst e
    obtain rfl : l = [] := List.eq_nil_of_length_eq_zero e2
    exact ⟨none, 0, rfl, Rv.nil _⟩
  · subst e
    refine ⟨some ⟨g, 0, none⟩, cap, rfl, k5, k6, (by intro h; cases h), fun _ => ⟨g, 0, rfl, at_lt k4, fun j x hj i hi => ?_⟩⟩
    have h1 := cellsV_at (F := F) hj i hi
    have h2 := (List.getElem?_eq_some_iff.1 h1).1
    have := hc.cellAt (j * k + i) (by rwa [cellsV_len] at h2)
    rw [show 0 + j * k + i = j * k + i by omega, this, h1]
end
theorem rv_int {α : Type} {k : Nat} {G : α → Nat → Int} {w : World} {A : Option Addr} {c : Nat} {l : List α} (h : Rv k (fun x i => .int .i64 (G x i)) w A c l) : Rw k G w A c l := ⟨h.1, h.2.1, h.2.2.2⟩
def hstV (x : Hst) : Nat → Value
  | 0 => .int .u8 (x.phase : Int)
  | _ => .int .i64 x.fw
def repV (x : Rep) : Nat → Value
  | 0 => .int .i64 x.svc
  | _ => .int .i64 x.host
def nrV (x : Nr) : Nat → Value
  | 0 => .int .i64 x.svc
  | _ => .int .i64 x.lat
def inV (x : Int) (_ : Nat) : Value := .int .i64 x
/-- Where a service's lists lie. -/
structure SvA where
  a1 : Option Addr
  c1 : Nat
  a2 : Option Addr
  c2 : Nat
def svV (x : Svc × SvA) : Nat → Value
  | 0 => .int .i64 x.1.cores
  | 1 => .int .i64 x.1.reps
  | 2 => .int .i64 x.1.least
  | 3 => .int .u8 (x.1.dom : Int)
  | 4 => .int .i64 x.1.spread
  | 5 => .slice x.2.a1 x.1.apart.length x.2.c1
  | 6 => .slice x.2.a2 x.1.near.length x.2.c2
  | _ => .int .i64 x.1.fw
def svA (x : Svc × SvA) : Array Value := #[.int .i64 x.1.cores, .int .i64 x.1.reps, .int .i64 x.1.least, .int .u8 (x.1.dom : Int), .int .i64 x.1.spread, .slice x.2.a1 x.1.apart.length x.2.c1, .slice x.2.a2 x.1.near.length x.2.c2, .int .i64 x.1.fw]
/-- A service's lists. -/
structure SvAt (w : World) (x : Svc × SvA) : Prop where
  apart : Rv 1 inV w x.2.a1 x.2.c1 x.1.apart
  near : Rv 2 nrV w x.2.a2 x.2.c2 x.1.near
  dom : x.1.dom < 256
theorem SvAt.on {w w' : World} {x : Svc × SvA} {B : Nat} (h : SvAt w x) (hb : Below B w w') (hB : w.heap.size ≤ B) : SvAt w' x := ⟨h.apart.on hb hB, h.near.on hb hB, h.dom⟩
/-- A wish's services in memory. -/
structure WiAt (w : World) (A : Option Addr) (c : Nat) (xs : List (Svc × SvA)) : Prop where
  row : Rv 8 svV w A c xs
  each : ∀ x ∈ xs, SvAt w x
theorem WiAt.on {w w' : World} {A : Option Addr} {c : Nat} {xs : List (Svc × SvA)} {B : Nat} (h : WiAt w A c xs) (hb : Below B w w') (hB : w.heap.size ≤ B) : WiAt w' A c xs := ⟨h.row.on hb hB, fun x hx => (h.each x hx).on hb hB⟩
def svs (xs : List (Svc × SvA)) : List Svc := xs.map (·.1)
theorem svs_len (xs : List (Svc × SvA)) : (svs xs).length = xs.length := by simp [svs]
theorem svs_at {xs : List (Svc × SvA)} {i : Nat} {x : Svc × SvA} (h : xs[i]? = some x) : (svs xs)[i]? = some x.1 := by simp [svs, h]
/-- Where a world's lists lie. -/
structure WP where
  a1 : Option Addr
  c1 : Nat
  a2 : Option Addr
  c2 : Nat
def woA (p : WP) (d : WorldD) : Array Value := #[.slice p.a1 d.hosts.length p.c1, .slice p.a2 d.reps.length p.c2]
structure WoAt (w : World) (p : WP) (d : WorldD) : Prop where
  hosts : Rv 2 hstV w p.a1 p.c1 d.hosts
  reps : Rv 2 repV w p.a2 p.c2 d.reps
  phase : ∀ h ∈ d.hosts, h.phase < 256
theorem WoAt.on {w w' : World} {p : WP} {d : WorldD} {B : Nat} (h : WoAt w p d) (hb : Below B w w') (hB : w.heap.size ≤ B) : WoAt w' p d := ⟨h.hosts.on hb hB, h.reps.on hb hB, h.phase⟩
def WoBox (w : World) (b : Nat) (p : WP) (d : WorldD) : Prop := w.heap[b]? = some (.cells (woA p d) 36 (0, 0))
theorem WoBox.on {w w' : World} {b : Nat} {p : WP} {d : WorldD} {B : Nat} (h : WoBox w b p d) (hb : Below B w w') (hB : w.heap.size ≤ B) : WoBox w' b p d := (hb.block _ (Nat.lt_of_lt_of_le (at_lt h) hB)).trans h
theorem WoBox.c0 {w : World} {b : Nat} {p : WP} {d : WorldD} (h : WoBox w b p d) : w.cell? ⟨b, 0, none⟩ = some (.slice p.a1 d.hosts.length p.c1) := cell_of h rfl
theorem WoBox.c1 {w : World} {b : Nat} {p : WP} {d : WorldD} (h : WoBox w b p d) : w.cell? ⟨b, 1, none⟩ = some (.slice p.a2 d.reps.length p.c2) := cell_of h rfl
def WiBox (w : World) (b : Nat) (A : Option Addr) (n c : Nat) : Prop := w.heap[b]? = some (.cells #[.slice A n c] 32 (0, 0))
theorem WiBox.on {w w' : World} {b : Nat} {A : Option Addr} {n c B : Nat} (h : WiBox w b A n c) (hb : Below B w w') (hB : w.heap.size ≤ B) : WiBox w' b A n c := (hb.block _ (Nat.lt_of_lt_of_le (at_lt h) hB)).trans h
theorem WiBox.c0 {w : World} {b : Nat} {A : Option Addr} {n c : Nat} (h : WiBox w b A n c) : w.cell? ⟨b, 0, none⟩ = some (.slice A n c) := cell_of h rfl
theorem box_new (w : World) (cs : Array Value) (T : TypeId) : (w.alloc (.cells cs T)).heap[w.heap.size]? = some (.cells cs T (0, 0)) := heap_alloc_new _ _
theorem box_on {w w' : World} {b : Nat} {o : Obj} {B : Nat} (h : w.heap[b]? = some o) (hb : Below B w w') (hB : w.heap.size ≤ B) : w'.heap[b]? = some o := (hb.block _ (Nat.lt_of_lt_of_le (at_lt h) hB)).trans h
theorem rep_at {w : World} {b o c : Nat} {l : List Rep} (h : Rv 2 repV w (some ⟨b, o, none⟩) c l) {j : Nat} {x : Rep} (hj : l[j]? = some x) : w.cell? ⟨b, o + j * 2, none⟩ = some (.int .i64 x.svc) ∧ w.cell? ⟨b, o + j * 2 + 1, none⟩ = some (.int .i64 x.host) := by
  obtain ⟨b', o', e, -, h0⟩ := h.at_ hj
  injection e with e
  injection e with e1 e2
  subst e1 e2
  exact ⟨h0 0 (by omega), h0 1 (by omega)⟩
theorem hst_at {w : World} {b o c : Nat} {l : List Hst} (h : Rv 2 hstV w (some ⟨b, o, none⟩) c l) {j : Nat} {x : Hst} (hj : l[j]? = some x) : w.cell? ⟨b, o + j * 2, none⟩ = some (.int .u8 (x.phase : Int)) ∧ w.cell? ⟨b, o + j * 2 + 1, none⟩ = some (.int .i64 x.fw) := by
  obtain ⟨b', o', e, -, h0⟩ := h.at_ hj
  injection e with e
  injection e with e1 e2
  subst e1 e2
  exact ⟨h0 0 (by omega), h0 1 (by omega)⟩
theorem near_at {w : World} {b o c : Nat} {l : List Nr} (h : Rv 2 nrV w (some ⟨b, o, none⟩) c l) {j : Nat} {x : Nr} (hj : l[j]? = some x) : w.cell? ⟨b, o + j * 2, none⟩ = some (.int .i64 x.svc) ∧ w.cell? ⟨b, o + j * 2 + 1, none⟩ = some (.int .i64 x.lat) := by
  obtain ⟨b', o', e, -, h0⟩ := h.at_ hj
  injection e with e
  injection e with e1 e2
  subst e1 e2
  exact ⟨h0 0 (by omega), h0 1 (by omega)⟩
theorem int_at {w : World} {b o c : Nat} {l : List Int} (h : Rv 1 inV w (some ⟨b, o, none⟩) c l) {j : Nat} {x : Int} (hj : l[j]? = some x) : w.cell? ⟨b, o + j, none⟩ = some (.int .i64 x) := by
  obtain ⟨b', o', e, -, h0⟩ := h.at_ hj
  injection e with e
  injection e with e1 e2
  subst e1 e2
  have := h0 0 (by omega)
  rwa [Nat.mul_one, Nat.add_zero] at this
theorem sv_at {w : World} {b o c : Nat} {l : List (Svc × SvA)} (h : Rv 8 svV w (some ⟨b, o, none⟩) c l) {j : Nat} {x : Svc × SvA} (hj : l[j]? = some x) :
    w.cell? ⟨b, o + j * 8, none⟩ = some (.int .i64 x.1.cores) ∧ w.cell? ⟨b, o + j * 8 + 1, none⟩ = some (.int .i64 x.1.reps) ∧ w.cell? ⟨b, o + j * 8 + 2, none⟩ = some (.int .i64 x.1.least) ∧ w.cell? ⟨b, o + j * 8 + 3, none⟩ = some (.int .u8 (x.1.dom : Int)) ∧ w.cell? ⟨b, o + j * 8 + 4, none⟩ = some (.int .i64 x.1.spread) ∧ w.cell? ⟨b, o + j * 8 + 5, none⟩ = some (.slice x.2.a1 x.1.apart.length x.2.c1) ∧ w.cell? ⟨b, o + j * 8 + 6, none⟩ = some (.slice x.2.a2 x.1.near.length x.2.c2) ∧ w.cell? ⟨b, o + j * 8 + 7, none⟩ = some (.int .i64 x.1.fw) := by
  obtain ⟨b', o', e, -, h0⟩ := h.at_ hj
  injection e with e
  injection e with e1 e2
  subst e1 e2
  exact ⟨h0 0 (by omega), h0 1 (by omega), h0 2 (by omega), h0 3 (by omega), h0 4 (by omega), h0 5 (by omega), h0 6 (by omega), h0 7 (by omega)⟩
end Go.Proofs.YtbbadnlaelgmlaaGreat
