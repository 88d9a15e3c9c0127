/-
  DERIVED. the law SiteRacks (written by gen/site_CC.py).
-/
import Derived.Test.YtoknombajocjlaaBF
namespace Go.Proofs.Ytoknombajocjlaa
open Go.RowKit
set_option maxRecDepth 100000
set_option linter.unusedVariables false
set_option linter.unusedSimpArgs false

theorem racks_same {s : SiteD} {a b : Int} {d : Nat} (h : ¬ domD s 2 a < 0) (e : domD s 2 a = domD s 2 b) (hd : 3 ≤ d ∧ d ≤ 5) : domD s d a = domD s d b ∧ 0 ≤ domD s d a := by
  have ha : siteOk s = true ∧ ixB a s.hosts.length = true := by
    unfold domD at h
    split at h
    · rename_i h1; exact ⟨h1.1, h1.2.2⟩
    · exact absurd (by decide : (-1 : Int) < 0) h
  have hb : ixB b s.hosts.length = true := by
    rw [e] at h
    unfold domD at h
    split at h
    · rename_i h1; exact h1.2.2
    · exact absurd (by decide : (-1 : Int) < 0) h
  have e2 : rackAt s a.toNat = rackAt s b.toNat := by
    unfold domD at e
    rw [if_pos ⟨ha.1, by decide, ha.2⟩, if_pos ⟨ha.1, by decide, hb⟩] at e
    exact e
  have e3 : rkAt s a.toNat = rkAt s b.toNat := by unfold rkAt; rw [e2]
  have e4 : feedAt s a.toNat = feedAt s b.toNat := by unfold feedAt; rw [e3]
  have hlt : a.toNat < s.hosts.length := by have := ixB_iff.1 ha.2; omega
  unfold domD
  rw [if_pos ⟨ha.1, by omega, ha.2⟩, if_pos ⟨ha.1, by omega, hb⟩]
  refine ⟨?_, (dom_in (siteOk_iff.1 ha.1) hlt (by omega)).1⟩
  rcases (by omega : d = 3 ∨ d = 4 ∨ d = 5) with rfl | rfl | rfl
  · show (rkAt s a.toNat).row = (rkAt s b.toNat).row
    rw [e3]
  · exact e4
  · show (rkAt s a.toNat).loop = (rkAt s b.toNat).loop
    rw [e3]
set_option maxHeartbeats 32000000 in
theorem row_SiteRacks (w : World) (p : SP) (s : SiteD) (h : SiAt w p s) (a b : Int) :
    Calls Try.prog 6 #[siV p s, .int .i64 a, .int .i64 b] w fun e w' => e = .returned (.bool true) ∧ Below w.heap.size w w' := by
  obtain ⟨xa, hxa⟩ : ∃ n, domD s 2 a = n := ⟨_, rfl⟩
  obtain ⟨xb, hxb⟩ : ∃ n, domD s 2 b = n := ⟨_, rfl⟩
  obtain ⟨fw, hfw⟩ : ∃ b, fewB s = b := ⟨_, rfl⟩
  have HW := Lib.hid (fun (X : World) (hX : SiAt X p s) => c_few p s fw hfw X hX)
  have HL := Lib.hid (fun (X : World) => c_live X)
  have H2A := Lib.hid (show ∀ (X : World), SiAt X p s → Calls Try.prog 14 #[siV p s, .int .u8 2, .int .i64 a] X fun e w' => e = .returned (.int .i64 xa) ∧ Below X.heap.size X w' from fun X hX => c_DomainOf p s 2 (by decide) a xa hxa X hX)
  have H2B := Lib.hid (show ∀ (X : World), SiAt X p s → Calls Try.prog 14 #[siV p s, .int .u8 2, .int .i64 b] X fun e w' => e = .returned (.int .i64 xb) ∧ Below X.heap.size X w' from fun X hX => c_DomainOf p s 2 (by decide) b xb hxb X hX)
  have HDD := Lib.hid (fun (d : Nat) (hd : d < 256) (host r : Int) (hr : domD s d host = r) (X : World) (hX : SiAt X p s) => c_DomainOf p s d hd host r hr X hX)
  have HXA := Lib.hid hxa
  have HXB := Lib.hid hxb
  clear hxa hxb hfw
  unfold siV at HW H2A H2B HDD
  unfold siV
  obtain ⟨W, hW⟩ : ∃ W, W = w.alloc (.cells #[.slice p.a1 s.feeds.length p.c1, .slice p.a2 s.brks.length p.c2, .slice p.a3 s.loops.length p.c3, .slice p.a4 s.racks.length p.c4, .int .i64 s.sw, .slice p.a5 s.links.length p.c5, .slice p.a6 s.hosts.length p.c6] 29) := ⟨_, rfl⟩
  have B0 : Below w.heap.size w W := by subst hW; exact (Below.refl _ _).alloc (Nat.le_refl _) _
  have HB0 := Lib.hid B0
  have HX := Lib.hid (show SiBox W w.heap.size p s by subst hW; exact siBox_new _ _ _)
  have HA := Lib.hid (h.on B0 (Nat.le_refl _))
  have HF := Lib.hid (fun (X : World) (hX : Below W.heap.size W X) => (let z := HX.out.on hX (Nat.le_refl _); ⟨z.c0, z.c1, z.c2, z.c3, z.c4, z.c5, z.c6⟩ : X.cell? ⟨w.heap.size, 0, none⟩ = some (.slice p.a1 s.feeds.length p.c1) ∧ X.cell? ⟨w.heap.size, 1, none⟩ = some (.slice p.a2 s.brks.length p.c2) ∧ X.cell? ⟨w.heap.size, 2, none⟩ = some (.slice p.a3 s.loops.length p.c3) ∧ X.cell? ⟨w.heap.size, 3, none⟩ = some (.slice p.a4 s.racks.length p.c4) ∧ X.cell? ⟨w.heap.size, 4, none⟩ = some (.int .i64 s.sw) ∧ X.cell? ⟨w.heap.size, 5, none⟩ = some (.slice p.a5 s.links.length p.c5) ∧ X.cell? ⟨w.heap.size, 6, none⟩ = some (.slice p.a6 s.hosts.length p.c6)))
  have m1 := h.feeds.1; have m2 := h.brks.1; have m3 := h.loops.1; have m4 := h.racks.1; have m5 := h.links.1; have m6 := h.hosts.1
  have n1 := h.feeds.2.1; have n2 := h.brks.2.1; have n3 := h.loops.2.1; have n4 := h.racks.2.1; have n5 := h.links.2.1; have n6 := h.hosts.2.1
  unfold maxLen at n1 n2 n3 n4 n5 n6
  have KW := Lib.hid (Below.refl W.heap.size W)
  have hlw : w.heap.size < W.heap.size := HX.out.lt
  clear B0 h
  obtain ⟨f0, f1, f2, f3, f4, f5, f6⟩ := HF.out W KW.out
  rw [hW] at f0 f1 f2 f3 f4 f5 f6
  go_enter Try.func6, Try.ntmps6
  go_wp2_with (fail)
  rw [← hW] at f0 f1 f2 f3 f4 f5 f6 ⊢
  clear hW
  cases fw
  · -- too long
    refine wp_region_held_drew (S := fun X => X.cell? ⟨w.heap.size, 0, none⟩ = some (.slice p.a1 s.feeds.length p.c1) ∧ X.cell? ⟨w.heap.size, 1, none⟩ = some (.slice p.a2 s.brks.length p.c2) ∧ X.cell? ⟨w.heap.size, 2, none⟩ = some (.slice p.a3 s.loops.length p.c3) ∧ X.cell? ⟨w.heap.size, 3, none⟩ = some (.slice p.a4 s.racks.length p.c4) ∧ X.cell? ⟨w.heap.size, 4, none⟩ = some (.int .i64 s.sw) ∧ X.cell? ⟨w.heap.size, 5, none⟩ = some (.slice p.a5 s.links.length p.c5) ∧ X.cell? ⟨w.heap.size, 6, none⟩ = some (.slice p.a6 s.hosts.length p.c6)) (by kernel_rfl) (HF.out W KW.out) (fun hHeld => ?_)
    refine takeH (i := 0) 9 (v := ?_) rfl rfl (by kernel_rfl) (by kernel_rfl) (by kernel_rfl) (fun _ _ _ h => h) (by rfl) ?_ hHeld ?_
    rotate_left
    · intro X hX; (try dsimp only at hX); (first | (go_simp; done) | (go_simp; with_reducible rfl))
    try simp only [Act.put, List.setIfInBounds_toArray, List.set_cons_zero, List.set_cons_succ]
    refine wpAnyH_ready (rs := [1]) (by kernel_rfl) (by simp) ?_
    refine AllReadyH.cons rfl (fun K hK => ?_) AllReadyH.nil
    go_simp
    go_at_call 8; (with_reducible refine (HW.out W.drew (HA.out.on KW.out.drew (Nat.le_refl _))).mono ?_); rintro e w1 ⟨rfl, bb⟩; have K1 := Lib.hid (below_join KW.out.drew bb KW.out.size); clear bb
    try dsimp only
    refine hK.out _ _ (HF.out w1 K1.out) (fun hHeld2 => ?_)
    clear hK K hHeld
    have hHeld := hHeld2
    clear hHeld2
    try simp only [Act.put, List.setIfInBounds_toArray, List.set_cons_zero, List.set_cons_succ]
    refine takeH (i := 2) 11 (v := ?_) rfl rfl (by kernel_rfl) (by kernel_rfl) (by kernel_rfl) (fun _ _ _ h => h) (by rfl) ?_ hHeld ?_
    rotate_left
    · intro X hX; (try dsimp only at hX); (first | (go_simp; done) | (go_simp; with_reducible rfl))
    try simp only [Act.put, List.setIfInBounds_toArray, List.set_cons_zero, List.set_cons_succ]
    refine takeH (i := 3) 12 (v := ?_) rfl rfl (by kernel_rfl) (by kernel_rfl) (by kernel_rfl) (fun _ _ _ h => h) (by rfl) ?_ hHeld ?_
    rotate_left
    · intro X hX; (try dsimp only at hX); (first | (go_simp; done) | (go_simp; with_reducible rfl))
    try simp only [Act.put, List.setIfInBounds_toArray, List.set_cons_zero, List.set_cons_succ]
    refine skipH (i := 4) 13 rfl rfl (by kernel_rfl) (by kernel_rfl) (by kernel_rfl) (fun _ _ _ h => h) (by rfl) hHeld ?_
    try simp only [Act.put, List.setIfInBounds_toArray, List.set_cons_zero, List.set_cons_succ]
    refine skipH (i := 5) 14 rfl rfl (by kernel_rfl) (by kernel_rfl) (by kernel_rfl) (fun _ _ _ h => h) (by rfl) hHeld ?_
    try simp only [Act.put, List.setIfInBounds_toArray, List.set_cons_zero, List.set_cons_succ]
    refine skipH (i := 6) 15 rfl rfl (by kernel_rfl) (by kernel_rfl) (by kernel_rfl) (fun _ _ _ h => h) (by rfl) hHeld ?_
    try simp only [Act.put, List.setIfInBounds_toArray, List.set_cons_zero, List.set_cons_succ]
    refine skipH (i := 7) 16 rfl rfl (by kernel_rfl) (by kernel_rfl) (by kernel_rfl) (fun _ _ _ h => h) (by rfl) hHeld ?_
    try simp only [Act.put, List.setIfInBounds_toArray, List.set_cons_zero, List.set_cons_succ]
    refine takeH (i := 8) 17 (v := ?_) rfl rfl (by kernel_rfl) (by kernel_rfl) (by kernel_rfl) (fun _ _ _ h => h) (by rfl) ?_ hHeld ?_
    rotate_left
    · intro X hX; (try dsimp only at hX); (first | (go_simp; done) | (go_simp; with_reducible rfl))
    try simp only [Act.put, List.setIfInBounds_toArray, List.set_cons_zero, List.set_cons_succ]
    refine takeH (i := 9) 18 (v := ?_) rfl rfl (by kernel_rfl) (by kernel_rfl) (by kernel_rfl) (fun _ _ _ h => h) (by rfl) ?_ hHeld ?_
    rotate_left
    · intro X hX; (try dsimp only at hX); (first | (go_simp; done) | (go_simp; with_reducible rfl))
    try simp only [Act.put, List.setIfInBounds_toArray, List.set_cons_zero, List.set_cons_succ]
    refine skipH (i := 10) 19 rfl rfl (by kernel_rfl) (by kernel_rfl) (by kernel_rfl) (fun _ _ _ h => h) (by rfl) hHeld ?_
    try simp only [Act.put, List.setIfInBounds_toArray, List.set_cons_zero, List.set_cons_succ]
    refine skipH (i := 11) 20 rfl rfl (by kernel_rfl) (by kernel_rfl) (by kernel_rfl) (fun _ _ _ h => h) (by rfl) hHeld ?_
    try simp only [Act.put, List.setIfInBounds_toArray, List.set_cons_zero, List.set_cons_succ]
    refine skipH (i := 12) 21 rfl rfl (by kernel_rfl) (by kernel_rfl) (by kernel_rfl) (fun _ _ _ h => h) (by rfl) hHeld ?_
    try simp only [Act.put, List.setIfInBounds_toArray, List.set_cons_zero, List.set_cons_succ]
    refine skipH (i := 13) 22 rfl rfl (by kernel_rfl) (by kernel_rfl) (by kernel_rfl) (fun _ _ _ h => h) (by rfl) hHeld ?_
    try simp only [Act.put, List.setIfInBounds_toArray, List.set_cons_zero, List.set_cons_succ]
    refine skipH (i := 14) 23 rfl rfl (by kernel_rfl) (by kernel_rfl) (by kernel_rfl) (fun _ _ _ h => h) (by rfl) hHeld ?_
    try simp only [Act.put, List.setIfInBounds_toArray, List.set_cons_zero, List.set_cons_succ]
    refine skipH (i := 15) 24 rfl rfl (by kernel_rfl) (by kernel_rfl) (by kernel_rfl) (fun _ _ _ h => h) (by rfl) hHeld ?_
    try simp only [Act.put, List.setIfInBounds_toArray, List.set_cons_zero, List.set_cons_succ]
    refine skipH (i := 16) 25 rfl rfl (by kernel_rfl) (by kernel_rfl) (by kernel_rfl) (fun _ _ _ h => h) (by rfl) hHeld ?_
    try simp only [Act.put, List.setIfInBounds_toArray, List.set_cons_zero, List.set_cons_succ]
    refine takeH (i := 17) 26 (v := ?_) rfl rfl (by kernel_rfl) (by kernel_rfl) (by kernel_rfl) (fun _ _ _ h => h) (by rfl) ?_ hHeld ?_
    rotate_left
    · intro X hX; (try dsimp only at hX); (first | (go_simp; done) | (go_simp; with_reducible rfl))
    try simp only [Act.put, List.setIfInBounds_toArray, List.set_cons_zero, List.set_cons_succ]
    refine wpAnyH_done (by kernel_rfl) ?_ _
    go_wp2_with (fail)
    go_at_call 9
    refine (HL.out w1).mono ?_
    rintro e wz ⟨rfl, bz⟩
    have KZ := Lib.hid (below_join K1.out bz K1.out.size)
    clear bz
    go_wp2_with (fail)
    go_ret
    exact ⟨rfl, below_join HB0.out KZ.out HB0.out.size⟩
  rcases g1 : decide (xa < 0) with _ | _
  rotate_left
  · -- no rack
    refine wp_region_held_drew (S := fun X => X.cell? ⟨w.heap.size, 0, none⟩ = some (.slice p.a1 s.feeds.length p.c1) ∧ X.cell? ⟨w.heap.size, 1, none⟩ = some (.slice p.a2 s.brks.length p.c2) ∧ X.cell? ⟨w.heap.size, 2, none⟩ = some (.slice p.a3 s.loops.length p.c3) ∧ X.cell? ⟨w.heap.size, 3, none⟩ = some (.slice p.a4 s.racks.length p.c4) ∧ X.cell? ⟨w.heap.size, 4, none⟩ = some (.int .i64 s.sw) ∧ X.cell? ⟨w.heap.size, 5, none⟩ = some (.slice p.a5 s.links.length p.c5) ∧ X.cell? ⟨w.heap.size, 6, none⟩ = some (.slice p.a6 s.hosts.length p.c6)) (by kernel_rfl) (HF.out W KW.out) (fun hHeld => ?_)
    refine takeH (i := 0) 9 (v := ?_) rfl rfl (by kernel_rfl) (by kernel_rfl) (by kernel_rfl) (fun _ _ _ h => h) (by rfl) ?_ hHeld ?_
    rotate_left
    · intro X hX; (try dsimp only at hX); (first | (go_simp; done) | (go_simp; with_reducible rfl))
    try simp only [Act.put, List.setIfInBounds_toArray, List.set_cons_zero, List.set_cons_succ]
    refine wpAnyH_ready (rs := [1]) (by kernel_rfl) (by simp) ?_
    refine AllReadyH.cons rfl (fun K hK => ?_) AllReadyH.nil
    go_simp
    go_at_call 8; (with_reducible refine (HW.out W.drew (HA.out.on KW.out.drew (Nat.le_refl _))).mono ?_); rintro e w1 ⟨rfl, bb⟩; have K1 := Lib.hid (below_join KW.out.drew bb KW.out.size); clear bb
    try dsimp only
    refine hK.out _ _ (HF.out w1 K1.out) (fun hHeld2 => ?_)
    clear hK K hHeld
    have hHeld := hHeld2
    clear hHeld2
    try simp only [Act.put, List.setIfInBounds_toArray, List.set_cons_zero, List.set_cons_succ]
    refine takeH (i := 2) 11 (v := ?_) rfl rfl (by kernel_rfl) (by kernel_rfl) (by kernel_rfl) (fun _ _ _ h => h) (by rfl) ?_ hHeld ?_
    rotate_left
    · intro X hX; (try dsimp only at hX); (first | (go_simp; done) | (go_simp; with_reducible rfl))
    try simp only [Act.put, List.setIfInBounds_toArray, List.set_cons_zero, List.set_cons_succ]
    refine takeH (i := 3) 12 (v := ?_) rfl rfl (by kernel_rfl) (by kernel_rfl) (by kernel_rfl) (fun _ _ _ h => h) (by rfl) ?_ hHeld ?_
    rotate_left
    · intro X hX; (try dsimp only at hX); (first | (go_simp; done) | (go_simp; with_reducible rfl))
    try simp only [Act.put, List.setIfInBounds_toArray, List.set_cons_zero, List.set_cons_succ]
    refine takeH (i := 4) 13 (v := ?_) rfl rfl (by kernel_rfl) (by kernel_rfl) (by kernel_rfl) (fun _ _ _ h => h) (by rfl) ?_ hHeld ?_
    rotate_left
    · intro X hX; (try dsimp only at hX); (first | (go_simp; done) | (go_simp; with_reducible rfl))
    try simp only [Act.put, List.setIfInBounds_toArray, List.set_cons_zero, List.set_cons_succ]
    refine takeH (i := 5) 14 (v := ?_) rfl rfl (by kernel_rfl) (by kernel_rfl) (by kernel_rfl) (fun _ _ _ h => h) (by rfl) ?_ hHeld ?_
    rotate_left
    · intro X hX; (try dsimp only at hX); (first | (go_simp; done) | (go_simp; with_reducible rfl))
    try simp only [Act.put, List.setIfInBounds_toArray, List.set_cons_zero, List.set_cons_succ]
    refine wpAnyH_ready (rs := [6]) (by kernel_rfl) (by simp) ?_
    refine AllReadyH.cons rfl (fun K hK => ?_) AllReadyH.nil
    go_simp
    go_at_call 14; (with_reducible refine (H2A.out w1 (HA.out.on K1.out (Nat.le_refl _))).mono ?_); rintro e w2 ⟨rfl, bb⟩; have K2 := Lib.hid (below_join K1.out bb K1.out.size); clear bb
    try dsimp only
    refine hK.out _ _ (HF.out w2 K2.out) (fun hHeld2 => ?_)
    clear hK K hHeld
    have hHeld := hHeld2
    clear hHeld2
    try simp only [Act.put, List.setIfInBounds_toArray, List.set_cons_zero, List.set_cons_succ]
    refine takeH (i := 7) 16 (v := ?_) rfl rfl (by kernel_rfl) (by kernel_rfl) (by kernel_rfl) (fun _ _ _ h => h) (by rfl) ?_ hHeld ?_
    rotate_left
    · intro X hX; (try dsimp only at hX); (first | (go_simp; done) | (go_simp; with_reducible rfl))
    try simp only [Act.put, List.setIfInBounds_toArray, List.set_cons_zero, List.set_cons_succ]
    refine takeH (i := 8) 17 (v := ?_) rfl rfl (by kernel_rfl) (by kernel_rfl) (by kernel_rfl) (fun _ _ _ h => h) (by rfl) ?_ hHeld ?_
    rotate_left
    · intro X hX; (try dsimp only at hX); (first | (go_simp; done) | (go_simp; with_reducible rfl))
    try simp only [Act.put, List.setIfInBounds_toArray, List.set_cons_zero, List.set_cons_succ]
    refine takeH (i := 9) 18 (v := ?_) rfl rfl (by kernel_rfl) (by kernel_rfl) (by kernel_rfl) (fun _ _ _ h => h) (by rfl) ?_ hHeld ?_
    rotate_left
    · intro X hX; (try dsimp only at hX); (first | (go_simp; done) | (go_simp; with_reducible rfl))
    try simp only [Act.put, List.setIfInBounds_toArray, List.set_cons_zero, List.set_cons_succ]
    refine skipH (i := 10) 19 rfl rfl (by kernel_rfl) (by kernel_rfl) (by kernel_rfl) (fun _ _ _ h => h) (by rfl) hHeld ?_
    try simp only [Act.put, List.setIfInBounds_toArray, List.set_cons_zero, List.set_cons_succ]
    refine skipH (i := 11) 20 rfl rfl (by kernel_rfl) (by kernel_rfl) (by kernel_rfl) (fun _ _ _ h => h) (by rfl) hHeld ?_
    try simp only [Act.put, List.setIfInBounds_toArray, List.set_cons_zero, List.set_cons_succ]
    refine skipH (i := 12) 21 rfl rfl (by kernel_rfl) (by kernel_rfl) (by kernel_rfl) (fun _ _ _ h => h) (by rfl) hHeld ?_
    try simp only [Act.put, List.setIfInBounds_toArray, List.set_cons_zero, List.set_cons_succ]
    refine skipH (i := 13) 22 rfl rfl (by kernel_rfl) (by kernel_rfl) (by kernel_rfl) (fun _ _ _ h => h) (by rfl) hHeld ?_
    try simp only [Act.put, List.setIfInBounds_toArray, List.set_cons_zero, List.set_cons_succ]
    refine skipH (i := 14) 23 rfl rfl (by kernel_rfl) (by kernel_rfl) (by kernel_rfl) (fun _ _ _ h => h) (by rfl) hHeld ?_
    try simp only [Act.put, List.setIfInBounds_toArray, List.set_cons_zero, List.set_cons_succ]
    refine skipH (i := 15) 24 rfl rfl (by kernel_rfl) (by kernel_rfl) (by kernel_rfl) (fun _ _ _ h => h) (by rfl) hHeld ?_
    try simp only [Act.put, List.setIfInBounds_toArray, List.set_cons_zero, List.set_cons_succ]
    refine skipH (i := 16) 25 rfl rfl (by kernel_rfl) (by kernel_rfl) (by kernel_rfl) (fun _ _ _ h => h) (by rfl) hHeld ?_
    try simp only [Act.put, List.setIfInBounds_toArray, List.set_cons_zero, List.set_cons_succ]
    refine takeH (i := 17) 26 (v := ?_) rfl rfl (by kernel_rfl) (by kernel_rfl) (by kernel_rfl) (fun _ _ _ h => h) (by rfl) ?_ hHeld ?_
    rotate_left
    · intro X hX; (try dsimp only at hX); (first | (go_simp; done) | (go_simp; with_reducible rfl))
    try simp only [Act.put, List.setIfInBounds_toArray, List.set_cons_zero, List.set_cons_succ]
    refine wpAnyH_done (by kernel_rfl) ?_ _
    go_wp2_with (fail)
    go_at_call 9
    refine (HL.out w2).mono ?_
    rintro e wz ⟨rfl, bz⟩
    have KZ := Lib.hid (below_join K2.out bz K2.out.size)
    clear bz
    go_wp2_with (fail)
    go_ret
    exact ⟨rfl, below_join HB0.out KZ.out HB0.out.size⟩
  rcases g2 : (xa != xb) with _ | _
  rotate_left
  · -- other racks
    go_region_held3 (fun X => X.cell? ⟨w.heap.size, 0, none⟩ = some (.slice p.a1 s.feeds.length p.c1) ∧ X.cell? ⟨w.heap.size, 1, none⟩ = some (.slice p.a2 s.brks.length p.c2) ∧ X.cell? ⟨w.heap.size, 2, none⟩ = some (.slice p.a3 s.loops.length p.c3) ∧ X.cell? ⟨w.heap.size, 3, none⟩ = some (.slice p.a4 s.racks.length p.c4) ∧ X.cell? ⟨w.heap.size, 4, none⟩ = some (.int .i64 s.sw) ∧ X.cell? ⟨w.heap.size, 5, none⟩ = some (.slice p.a5 s.links.length p.c5) ∧ X.cell? ⟨w.heap.size, 6, none⟩ = some (.slice p.a6 s.hosts.length p.c6))
      (first | exact HF.out w4 K4.out | exact HF.out w3 K3.out | exact HF.out w2 K2.out | exact HF.out w1 K1.out | exact HF.out W KW.out)
      (first
        | (go_at_call 8; (with_reducible refine (HW.out W.drew (HA.out.on KW.out.drew (Nat.le_refl _))).mono ?_); rintro e w1 ⟨rfl, bb⟩; have K1 := Lib.hid (below_join KW.out.drew bb KW.out.size); clear bb)
        | (go_at_call 14; (with_reducible refine (H2B.out w3 (HA.out.on K3.out (Nat.le_refl _))).mono ?_); rintro e w4 ⟨rfl, bb⟩; have K4 := Lib.hid (below_join K3.out bb K3.out.size); clear bb)
        | (go_at_call 14; (with_reducible refine (H2A.out w2 (HA.out.on K2.out (Nat.le_refl _))).mono ?_); rintro e w3 ⟨rfl, bb⟩; have K3 := Lib.hid (below_join K2.out bb K2.out.size); clear bb)
        | (go_at_call 14; (with_reducible refine (H2A.out w1 (HA.out.on K1.out (Nat.le_refl _))).mono ?_); rintro e w2 ⟨rfl, bb⟩; have K2 := Lib.hid (below_join K1.out bb K1.out.size); clear bb)
        | fail)
    go_wp2_with (fail)
    go_at_call 9
    refine (HL.out w4).mono ?_
    rintro e wz ⟨rfl, bz⟩
    have KZ := Lib.hid (below_join K4.out bz K4.out.size)
    clear bz
    go_wp2_with (fail)
    go_ret
    exact ⟨rfl, below_join HB0.out KZ.out HB0.out.size⟩
  have HSAME := Lib.hid (fun (d : Nat) (hd : 3 ≤ d ∧ d ≤ 5) => racks_same (s := s) (a := a) (b := b) (d := d) (by rw [HXA.out]; exact of_decide_eq_false g1) (by rw [HXA.out, HXB.out]; exact bne_eq_false_iff_eq.1 g2) hd)
  go_region_held3 (fun X => X.cell? ⟨w.heap.size, 0, none⟩ = some (.slice p.a1 s.feeds.length p.c1) ∧ X.cell? ⟨w.heap.size, 1, none⟩ = some (.slice p.a2 s.brks.length p.c2) ∧ X.cell? ⟨w.heap.size, 2, none⟩ = some (.slice p.a3 s.loops.length p.c3) ∧ X.cell? ⟨w.heap.size, 3, none⟩ = some (.slice p.a4 s.racks.length p.c4) ∧ X.cell? ⟨w.heap.size, 4, none⟩ = some (.int .i64 s.sw) ∧ X.cell? ⟨w.heap.size, 5, none⟩ = some (.slice p.a5 s.links.length p.c5) ∧ X.cell? ⟨w.heap.size, 6, none⟩ = some (.slice p.a6 s.hosts.length p.c6))
    (first | exact HF.out w4 K4.out | exact HF.out w3 K3.out | exact HF.out w2 K2.out | exact HF.out w1 K1.out | exact HF.out W KW.out)
    (first
        | (go_at_call 8; (with_reducible refine (HW.out W.drew (HA.out.on KW.out.drew (Nat.le_refl _))).mono ?_); rintro e w1 ⟨rfl, bb⟩; have K1 := Lib.hid (below_join KW.out.drew bb KW.out.size); clear bb)
        | (go_at_call 14; (with_reducible refine (H2B.out w3 (HA.out.on K3.out (Nat.le_refl _))).mono ?_); rintro e w4 ⟨rfl, bb⟩; have K4 := Lib.hid (below_join K3.out bb K3.out.size); clear bb)
        | (go_at_call 14; (with_reducible refine (H2A.out w2 (HA.out.on K2.out (Nat.le_refl _))).mono ?_); rintro e w3 ⟨rfl, bb⟩; have K3 := Lib.hid (below_join K2.out bb K2.out.size); clear bb)
        | (go_at_call 14; (with_reducible refine (H2A.out w1 (HA.out.on K1.out (Nat.le_refl _))).mono ?_); rintro e w2 ⟨rfl, bb⟩; have K2 := Lib.hid (below_join K1.out bb K1.out.size); clear bb)
        | fail)
  go_wp2_with (fail)
  clear f0 f1 f2 f3 f4 f5 f6 g1 g2
  go_loopw [7, 8] (fun v i wr => ∃ k : Nat, (3 ≤ k ∧ k ≤ 6) ∧ i = .int .u8 (k : Int) ∧ v = .bool true ∧ Hid (Below W.heap.size W wr)) (fun _ i _ => 6 - (intOf i).toNat)
  case atStart => exact ⟨3, by omega, rfl, rfl, K4⟩
  case round =>
    obtain ⟨k, hk, rfl, rfl, hB⟩ := hrel
    have hki : ((k : Nat) : Int).toNat = k := by omega
    obtain ⟨f0, f1, f2, f3, f4, f5, f6⟩ := HF.out wr hB.out
    by_cases hlt : k ≤ 5
    · obtain ⟨ya, hya⟩ : ∃ n, domD s k a = n := ⟨_, rfl⟩
      obtain ⟨yb, hyb⟩ : ∃ n, domD s k b = n := ⟨_, rfl⟩
      have hs := HSAME.out k ⟨hk.1, hlt⟩
      rw [hya, hyb] at hs
      have hle : (k : Int) ≤ 5 := by omega
      have s1 : (ya == yb) = true := by rw [beq_iff_eq]; exact hs.1
      have s2 : decide (0 ≤ ya) = true := decide_eq_true hs.2
      have HYA := Lib.hid (fun (X : World) (hX : SiAt X p s) => HDD.out k (by omega) a ya hya X hX)
      have HYB := Lib.hid (fun (X : World) (hX : SiAt X p s) => HDD.out k (by omega) b yb hyb X hX)
      have HK3 := Lib.hid hk.1
      clear hya hyb hs
      go_wp2_with (fail)
      go_region_held3 (fun X => X.cell? ⟨w.heap.size, 0, none⟩ = some (.slice p.a1 s.feeds.length p.c1) ∧ X.cell? ⟨w.heap.size, 1, none⟩ = some (.slice p.a2 s.brks.length p.c2) ∧ X.cell? ⟨w.heap.size, 2, none⟩ = some (.slice p.a3 s.loops.length p.c3) ∧ X.cell? ⟨w.heap.size, 3, none⟩ = some (.slice p.a4 s.racks.length p.c4) ∧ X.cell? ⟨w.heap.size, 4, none⟩ = some (.int .i64 s.sw) ∧ X.cell? ⟨w.heap.size, 5, none⟩ = some (.slice p.a5 s.links.length p.c5) ∧ X.cell? ⟨w.heap.size, 6, none⟩ = some (.slice p.a6 s.hosts.length p.c6))
        (first | exact HF.out w9 K9.out | exact HF.out w8 K8.out | exact HF.out w7 K7.out | exact HF.out wr hB.out)
        (first
          | (go_at_call 14; (with_reducible refine (HYA.out w8 (HA.out.on K8.out (Nat.le_refl _))).mono ?_); rintro e w9 ⟨rfl, bb⟩; have K9 := Lib.hid (below_join K8.out bb K8.out.size); clear bb)
          | (go_at_call 14; (with_reducible refine (HYB.out w7 (HA.out.on K7.out (Nat.le_refl _))).mono ?_); rintro e w8 ⟨rfl, bb⟩; have K8 := Lib.hid (below_join K7.out bb K7.out.size); clear bb)
          | (go_at_call 14; (with_reducible refine (HYA.out wr.drew (HA.out.on hB.out.drew (Nat.le_refl _))).mono ?_); rintro e w7 ⟨rfl, bb⟩; have K7 := Lib.hid (below_join hB.out.drew bb hB.out.size); clear bb)
          | fail)
      go_wp2_with (fail)
      go_roundw
      case rel => exact ⟨k + 1, by omega, by go_num, rfl, K9⟩
      case measure => simp only [intOf]; omega
    · obtain rfl : k = 6 := by omega
      go_wp2_with (fail)
      go_at_call 9
      refine (HL.out wr).mono ?_
      rintro e wz ⟨rfl, bz⟩
      have KZ := Lib.hid (below_join hB.out bz hB.out.size)
      clear bz
      go_wp2_with (fail)
      go_ret
      exact ⟨rfl, below_join HB0.out KZ.out HB0.out.size⟩
end Go.Proofs.Ytoknombajocjlaa
