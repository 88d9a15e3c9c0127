/-
  DERIVED. the law SiteDomains (written by gen/site_CC.py).
-/
import Derived.Test.YtoknombajocjlaaCI
namespace Go.Proofs.Ytoknombajocjlaa
open Go.RowKit
set_option maxRecDepth 100000
set_option linter.unusedVariables false
set_option linter.unusedSimpArgs false

set_option maxHeartbeats 16000000 in
theorem row_SiteDomains (w : World) (p : SP) (s : SiteD) (h : SiAt w p s) (d : Nat) (hd : d < 256) (host n : Int) :
    Calls Try.prog 4 #[siV p s, .int .u8 (d : Int), .int .i64 host, .int .i64 n] w fun e w' => e = .returned (.bool true) ∧ Below w.heap.size w w' := by
  obtain ⟨x, hx⟩ : ∃ n, domD s d host = n := ⟨_, rfl⟩
  obtain ⟨l, hl⟩ : ∃ l, memD s d n = l := ⟨_, rfl⟩
  obtain ⟨fw, hfw⟩ : ∃ b, fewB s = b := ⟨_, rfl⟩
  have HW := Lib.hid (fun (X : World) (hX : SiAt X p s) => c_few p s fw hfw X hX)
  have HL := Lib.hid (fun (X : World) => c_live X)
  have HD := Lib.hid (fun (X : World) (hX : SiAt X p s) => c_DomainOf p s d hd host x hx X hX)
  have HR := Lib.hid (fun (X : World) (hX : SiAt X p s) => c_rDom p s d hd host x hx X hX)
  have HM := Lib.hid (fun (X : World) (hX : SiAt X p s) => c_Members p s d hd n X hX)
  have HN := Lib.hid (fun (h40 : s.hosts.length ≤ 40) (X : World) (hX : SiAt X p s) => c_rMembers p s d hd n h40 X hX)
  have HFW := Lib.hid hfw
  rw [hl] at HM HN
  clear hx hl hfw
  unfold siV at HW HD HR HM HN
  unfold siV
  obtain ⟨W, hW⟩ : ∃ W, W = w.alloc (.cells #[.slice p.a1 s.feeds.length p.c1, .slice p.a2 s.brks.length p.c2, .slice p.a3 s.loops.length p.c3, .slice p.a4 s.racks.length p.c4, .int .i64 s.sw, .slice p.a5 s.links.length p.c5, .slice p.a6 s.hosts.length p.c6] 29) := ⟨_, rfl⟩
  have B0 : Below w.heap.size w W := by subst hW; exact (Below.refl _ _).alloc (Nat.le_refl _) _
  have HB0 := Lib.hid B0
  have HX := Lib.hid (show SiBox W w.heap.size p s by subst hW; exact siBox_new _ _ _)
  have HA := Lib.hid (h.on B0 (Nat.le_refl _))
  have HF := Lib.hid (fun (X : World) (hX : Below W.heap.size W X) => (let z := HX.out.on hX (Nat.le_refl _); ⟨z.c0, z.c1, z.c2, z.c3, z.c4, z.c5, z.c6⟩ : X.cell? ⟨w.heap.size, 0, none⟩ = some (.slice p.a1 s.feeds.length p.c1) ∧ X.cell? ⟨w.heap.size, 1, none⟩ = some (.slice p.a2 s.brks.length p.c2) ∧ X.cell? ⟨w.heap.size, 2, none⟩ = some (.slice p.a3 s.loops.length p.c3) ∧ X.cell? ⟨w.heap.size, 3, none⟩ = some (.slice p.a4 s.racks.length p.c4) ∧ X.cell? ⟨w.heap.size, 4, none⟩ = some (.int .i64 s.sw) ∧ X.cell? ⟨w.heap.size, 5, none⟩ = some (.slice p.a5 s.links.length p.c5) ∧ X.cell? ⟨w.heap.size, 6, none⟩ = some (.slice p.a6 s.hosts.length p.c6)))
  have m1 := h.feeds.1; have m2 := h.brks.1; have m3 := h.loops.1; have m4 := h.racks.1; have m5 := h.links.1; have m6 := h.hosts.1
  have n1 := h.feeds.2.1; have n2 := h.brks.2.1; have n3 := h.loops.2.1; have n4 := h.racks.2.1; have n5 := h.links.2.1; have n6 := h.hosts.2.1
  unfold maxLen at n1 n2 n3 n4 n5 n6
  have KW := Lib.hid (Below.refl W.heap.size W)
  have hlw : w.heap.size < W.heap.size := HX.out.lt
  clear B0 h
  obtain ⟨f0, f1, f2, f3, f4, f5, f6⟩ := HF.out W KW.out
  rw [hW] at f0 f1 f2 f3 f4 f5 f6
  go_enter Try.func4, Try.ntmps4
  go_wp2_with (fail)
  rw [← hW]
  clear hW f0 f1 f2 f3 f4 f5 f6
  go_at_call 8
  refine (HW.out W HA.out).mono ?_
  rintro e w1 ⟨rfl, b1⟩
  have K1 := Lib.hid b1
  clear b1
  cases fw
  · go_wp2_with (fail)
    go_at_call 9
    refine (HL.out w1).mono ?_
    rintro e w2 ⟨rfl, b2⟩
    have K2 := Lib.hid (below_join K1.out b2 K1.out.size)
    clear b2
    go_wp2_with (fail)
    go_ret
    exact ⟨rfl, below_join HB0.out K2.out HB0.out.size⟩
  have hnn : (x == x) = true := by rw [beq_iff_eq]
  have H40 := Lib.hid (show s.hosts.length ≤ 40 by
    have h := HFW.out
    unfold fewB at h
    simp only [Bool.and_eq_true, decide_eq_true_eq] at h
    omega)
  obtain ⟨f0, f1, f2, f3, f4, f5, f6⟩ := HF.out w1 K1.out
  go_wp2_with (fail)
  go_region_held3 (fun X => X.cell? ⟨w.heap.size, 0, none⟩ = some (.slice p.a1 s.feeds.length p.c1) ∧ X.cell? ⟨w.heap.size, 1, none⟩ = some (.slice p.a2 s.brks.length p.c2) ∧ X.cell? ⟨w.heap.size, 2, none⟩ = some (.slice p.a3 s.loops.length p.c3) ∧ X.cell? ⟨w.heap.size, 3, none⟩ = some (.slice p.a4 s.racks.length p.c4) ∧ X.cell? ⟨w.heap.size, 4, none⟩ = some (.int .i64 s.sw) ∧ X.cell? ⟨w.heap.size, 5, none⟩ = some (.slice p.a5 s.links.length p.c5) ∧ X.cell? ⟨w.heap.size, 6, none⟩ = some (.slice p.a6 s.hosts.length p.c6))
    (first | exact HF.out w7 K7.out | exact HF.out w6 K6.out | exact HF.out w5 K5.out | exact HF.out w4 K4.out | exact HF.out w3 K3.out | exact HF.out w2 K2.out | exact HF.out w1 K1.out)
    (first
      | (go_at_call 14; (with_reducible refine (HD.out w1.drew (HA.out.on K1.out.drew (Nat.le_refl _))).mono ?_); rintro e w2 ⟨rfl, bb⟩; have K2 := Lib.hid (below_join K1.out.drew bb K1.out.size); clear bb)
      | (go_at_call 15; (with_reducible refine (HR.out w2 (HA.out.on K2.out (Nat.le_refl _))).mono ?_); rintro e w3 ⟨rfl, bb⟩; have K3 := Lib.hid (below_join K2.out bb K2.out.size); clear bb)
      | (go_at_call 17; (with_reducible refine (HM.out w3 (HA.out.on K3.out (Nat.le_refl _))).mono ?_); rintro e w4 ⟨v4, rfl, ho, bb⟩; obtain ⟨A4, c4, rfl, hrw⟩ := own_rw ho; have R4 := Lib.hid hrw; have K4 := Lib.hid (below_join K3.out bb K3.out.size); clear bb ho hrw)
      | (go_at_call 18; (with_reducible refine (HN.out H40.out w4 (HA.out.on K4.out (Nat.le_refl _))).mono ?_); rintro e w5 ⟨v5, rfl, ho, bb⟩; obtain ⟨A5, c5, rfl, hrw⟩ := own_rw ho; have R5 := Lib.hid hrw; have R4B := Lib.hid (R4.out.on bb (Nat.le_refl _)); have K5 := Lib.hid (below_join K4.out bb K4.out.size); clear bb ho hrw)
      | (go_at_call 16; (with_reducible refine (c_Ints A4 A5 c4 c5 l l w5 R4B.out R5.out true (decide_eq_true rfl)).mono ?_); rintro e w6 ⟨rfl, bb⟩; have K6 := Lib.hid (below_join K5.out bb K5.out.size); clear bb)
      | (go_at_call 9; (with_reducible refine (HL.out w6).mono ?_); rintro e w7 ⟨rfl, bb⟩; have K7 := Lib.hid (below_join K6.out bb K6.out.size); clear bb)
      | fail)
  go_wp2_with (fail)
  go_ret
  exact ⟨rfl, below_join HB0.out K7.out HB0.out.size⟩
end Go.Proofs.Ytoknombajocjlaa
