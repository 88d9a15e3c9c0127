/-
  DERIVED. The law WorldKnown (written by gen/world_EY.py).
-/
import Derived.Test.YtplncglgolhfaaaEV
namespace Go.Proofs.Ytplncglgolhfaaa
open Go.RowKit
set_option maxRecDepth 100000
set_option linter.unusedVariables false
set_option linter.unusedSimpArgs false

def dK : WorldD := ⟨[⟨0, 0⟩, ⟨0, 0⟩, ⟨4, 7⟩], [⟨0, 0⟩, ⟨0, 2⟩, ⟨1, 0⟩]⟩
def bxs : List (Svc × SvA) := [(⟨1, 0, 0, 0, 1, [], [], 0⟩, ⟨none, 0, none, 0⟩)]
theorem bxs_at {X : World} {b : Nat} (h : Bx X b (cellsV 8 svV bxs).toArray 64) : WiAt X (some ⟨b, 0, none⟩) 1 bxs := by
  refine ⟨rv_block (l := bxs) h (by simp [bxs, maxLen]), fun x hx => ?_⟩
  rcases List.mem_cons.1 hx with rfl | hx
  · exact ⟨Rv.nil _, Rv.nil _, by decide⟩
  · cases hx
theorem k1 : startP exW ⟨1, 0⟩ = (zeroD, 6) := by kernel_rfl
theorem k2 : stopP exW ⟨1, 1⟩ = (zeroD, 7) := by kernel_rfl
theorem k3 : setP exW 3 ⟨0, 0⟩ = (zeroD, 1) := by kernel_rfl
theorem k4 : setP exW 2 ⟨4, 7⟩ = (dK, 0) := by kernel_rfl
theorem bad_no : ¬ WishOk (svs bxs) := fun h => by
  have := h.2.1 0 _ rfl
  exact absurd this (by decide +kernel)
theorem nil_ok : WishOk [] := ⟨by decide, fun i s h => by simp at h, by decide⟩
theorem dK_at {w : World} {p : WP} (h : WoAt w p dK) : ∃ b o, p.a1 = some ⟨b, o, none⟩ ∧ w.cell? ⟨b, o + 2 * 2 + 1, none⟩ = some (.int .i64 7) := by
  obtain ⟨b, o, e, -, h0⟩ := h.hosts.at_ (j := 2) (x := ⟨4, 7⟩) rfl
  exact ⟨b, o, e, h0 1 (by omega)⟩
def KTo (w : World) (e : Ending) (w' : World) : Prop := ∃ p, e = .returned (.tuple #[.agg #[.slice p.a1 3 p.c1, .slice p.a2 3 p.c2], .int .i64 0]) ∧ OwnW w.heap.size w' p dK ∧ Below w.heap.size w w'
theorem c_k4 (p : WP) (w : World) (h : WoAt w p exW) : Calls Try.prog 32 #[.agg #[.slice p.a1 exW.hosts.length p.c1, .slice p.a2 exW.reps.length p.c2], .int .i64 2, .agg #[.int .u8 4, .int .i64 7]] w (KTo w) := (c_setTo p exW 2 ⟨4, 7⟩ dK 0 k4 (by decide) (by decide) w h).mono fun e w' h => h
theorem c_kbad (b : Nat) (w : World) (h : Bx w b (cellsV 8 svV bxs).toArray 64) : Calls Try.prog 12 #[.agg #[.slice (some ⟨b, 0, none⟩) 1 1]] w fun e w' => e = .returned (.bool false) ∧ Below w.heap.size w w' := c_ValidWish _ 1 bxs false ⟨(fun h => by cases h), fun h => absurd h bad_no⟩ w (bxs_at h)
theorem c_knil (w : World) : Calls Try.prog 12 #[.agg #[.slice none 0 0]] w fun e w' => e = .returned (.bool true) ∧ Below w.heap.size w w' := c_ValidWish none 0 [] true ⟨fun _ => nil_ok, fun _ => rfl⟩ w (noWi w)
theorem c_kzero (w : World) : Calls Try.prog 14 #[.agg #[.slice none 0 0, .slice none 0 0, .slice none 0 0, .slice none 0 0, .int .i64 0, .slice none 0 0, .slice none 0 0], .agg #[.slice none 0 0], .agg #[.slice none 0 0, .slice none 0 0]] w fun e w' => e = .returned (.bool false) ∧ Below w.heap.size w w' := c_woValid zeroSP zeroS none 0 [] zeroP zeroD false ⟨(fun h => by cases h), fun h => absurd h.1 (by decide +kernel)⟩ w (zeroS_at w) (noWi w) ((ownW_zero 0 w).wo zeroD_phase)
set_option maxHeartbeats 32000000 in
theorem row_WorldKnown (w : World) : Calls Try.prog 9 #[] w fun e w' => e = .returned (.bool true) ∧ Below w.heap.size w w' := by
  have HBw := Lib.hid (Below.refl w.heap.size w)
  have HEX := Lib.hid (fun (X : World) => c_exTo X)
  have HWI := Lib.hid (fun (X : World) => c_wishTo X)
  have HLV := Lib.hid (fun (X : World) => c_live X)
  go_enter Try.func9, Try.ntmps9
  go_wp2_with (fail)
  go_at_call 34
  refine (HEX.out w).mono ?_
  rintro e v1 ⟨p1, rfl, o1, bb⟩
  have HBv1 := Lib.hid (below_join HBw.out bb HBw.out.size)
  have E1v1 := Lib.hid (o1.wo (by simp [exW])); clear o1
  clear bb
  go_wp2_with (fail)
  go_at_call 26
  refine (c_startTo p1 exW ⟨1, 0⟩ zeroD 6 k1 (by decide) (by decide) v1 E1v1.out).mono ?_
  rintro e v2 ⟨q1, rfl, o, bb⟩
  have HBv2 := Lib.hid (below_join HBv1.out bb HBv1.out.size)
  have E1v2 := Lib.hid (E1v1.out.on bb (Nat.le_refl _))
  clear o
  clear bb
  obtain ⟨X3, hX3⟩ : ∃ X, X = v2.alloc (.cells #[.slice q1.a1 zeroD.hosts.length q1.c1, .slice q1.a2 zeroD.reps.length q1.c2] 36) := ⟨_, rfl⟩
  have b3 : Below v2.heap.size v2 X3 := by subst hX3; exact (Below.refl _ _).alloc (Nat.le_refl _) _
  have HBX3 := Lib.hid (below_join HBv2.out b3 HBv2.out.size)
  have B1X3 := Lib.hid (show Bx X3 v2.heap.size (woA q1 zeroD) 36 by subst hX3; exact bx_new _ _ _)
  clear b3
  go_wp2_with (fail)
  rw [← hX3]
  clear hX3
  go_at_call 34
  refine (HEX.out X3).mono ?_
  rintro e v4 ⟨p2, rfl, o2, bb⟩
  have HBv4 := Lib.hid (below_join HBX3.out bb HBX3.out.size)
  have E2v4 := Lib.hid (o2.wo (by simp [exW])); clear o2
  clear bb
  go_wp2_with (fail)
  go_at_call 29
  refine (c_stopTo p2 exW ⟨1, 1⟩ zeroD 7 k2 (by decide) (by decide) v4 E2v4.out).mono ?_
  rintro e v5 ⟨q2, rfl, o, bb⟩
  have HBv5 := Lib.hid (below_join HBv4.out bb HBv4.out.size)
  have E2v5 := Lib.hid (E2v4.out.on bb (Nat.le_refl _))
  clear o
  clear bb
  obtain ⟨X6, hX6⟩ : ∃ X, X = v5.alloc (.cells #[.slice q2.a1 zeroD.hosts.length q2.c1, .slice q2.a2 zeroD.reps.length q2.c2] 36) := ⟨_, rfl⟩
  have b6 : Below v5.heap.size v5 X6 := by subst hX6; exact (Below.refl _ _).alloc (Nat.le_refl _) _
  have HBX6 := Lib.hid (below_join HBv5.out b6 HBv5.out.size)
  have B1X6 := Lib.hid (show Bx X6 v5.heap.size (woA q2 zeroD) 36 by subst hX6; exact bx_new _ _ _)
  clear b6
  go_wp2_with (fail)
  rw [← hX6]
  clear hX6
  go_at_call 34
  refine (HEX.out X6).mono ?_
  rintro e v7 ⟨p3, rfl, o3, bb⟩
  have HBv7 := Lib.hid (below_join HBX6.out bb HBX6.out.size)
  have E3v7 := Lib.hid (o3.wo (by simp [exW])); clear o3
  clear bb
  go_wp2_with (fail)
  go_at_call 32
  refine (c_setTo p3 exW 3 ⟨0, 0⟩ zeroD 1 k3 (by decide) (by decide) v7 E3v7.out).mono ?_
  rintro e v8 ⟨q3, rfl, o, bb⟩
  have HBv8 := Lib.hid (below_join HBv7.out bb HBv7.out.size)
  have E3v8 := Lib.hid (E3v7.out.on bb (Nat.le_refl _))
  clear o
  clear bb
  obtain ⟨X9, hX9⟩ : ∃ X, X = v8.alloc (.cells #[.slice q3.a1 zeroD.hosts.length q3.c1, .slice q3.a2 zeroD.reps.length q3.c2] 36) := ⟨_, rfl⟩
  have b9 : Below v8.heap.size v8 X9 := by subst hX9; exact (Below.refl _ _).alloc (Nat.le_refl _) _
  have HBX9 := Lib.hid (below_join HBv8.out b9 HBv8.out.size)
  have B1X9 := Lib.hid (show Bx X9 v8.heap.size (woA q3 zeroD) 36 by subst hX9; exact bx_new _ _ _)
  clear b9
  go_wp2_with (fail)
  rw [← hX9]
  clear hX9
  go_at_call 34
  refine (HEX.out X9).mono ?_
  rintro e v10 ⟨p4, rfl, o4, bb⟩
  have HBv10 := Lib.hid (below_join HBX9.out bb HBX9.out.size)
  have E4v10 := Lib.hid (o4.wo (by simp [exW])); clear o4
  clear bb
  go_wp2_with (fail)
  go_at_call 32
  refine (c_k4 p4 v10 E4v10.out).mono ?_
  rintro e v11 ⟨q4, rfl, o, bb⟩
  have HBv11 := Lib.hid (below_join HBv10.out bb HBv10.out.size)
  have E4v11 := Lib.hid (E4v10.out.on bb (Nat.le_refl _))
  have K4v11 := Lib.hid (o.wo (by simp [dK])); clear o
  clear bb
  obtain ⟨X12, hX12⟩ : ∃ X, X = v11.alloc (.cells #[.slice q4.a1 3 q4.c1, .slice q4.a2 3 q4.c2] 36) := ⟨_, rfl⟩
  have b12 : Below v11.heap.size v11 X12 := by subst hX12; exact (Below.refl _ _).alloc (Nat.le_refl _) _
  have HBX12 := Lib.hid (below_join HBv11.out b12 HBv11.out.size)
  have K4X12 := Lib.hid (K4v11.out.on b12 (Nat.le_refl _))
  have B7X12 := Lib.hid (show Bx X12 v11.heap.size (woA q4 dK) 36 by subst hX12; exact bx_new _ _ _)
  clear b12
  obtain ⟨X13, hX13⟩ : ∃ X, X = X12.alloc (.cells #[.int .i64 1, .int .i64 0, .int .i64 0, .int .u8 0, .int .i64 1, .slice none 0 0, .slice none 0 0, .int .i64 0] 64) := ⟨_, rfl⟩
  have b13 : Below X12.heap.size X12 X13 := by subst hX13; exact (Below.refl _ _).alloc (Nat.le_refl _) _
  have HBX13 := Lib.hid (below_join HBX12.out b13 HBX12.out.size)
  have K4X13 := Lib.hid (K4X12.out.on b13 (Nat.le_refl _))
  have B7X13 := Lib.hid (B7X12.out.on b13 (Nat.le_refl _))
  have BSX13 := Lib.hid (show Bx X13 X12.heap.size (cellsV 8 svV bxs).toArray 64 by subst hX13; exact bx_new _ _ _)
  clear b13
  have HN := Lib.hid (show X12.heap.size = v11.heap.size + 1 by rw [hX12, World.size_alloc])
  obtain ⟨X14, hX14⟩ : ∃ X, X = X13.alloc (.cells #[.slice (some ⟨X12.heap.size, 0, none⟩) 1 1] 32) := ⟨_, rfl⟩
  have b14 : Below X13.heap.size X13 X14 := by subst hX14; exact (Below.refl _ _).alloc (Nat.le_refl _) _
  have HBX14 := Lib.hid (below_join HBX13.out b14 HBX13.out.size)
  have K4X14 := Lib.hid (K4X13.out.on b14 (Nat.le_refl _))
  have B7X14 := Lib.hid (B7X13.out.on b14 (Nat.le_refl _))
  have BSX14 := Lib.hid (BSX13.out.on b14 (Nat.le_refl _))
  have BVX14 := Lib.hid (show Bx X14 X13.heap.size #[.slice (some ⟨X12.heap.size, 0, none⟩) 1 1] 32 by subst hX14; exact bx_new _ _ _)
  clear b14
  have HN2 := Lib.hid (show X13.heap.size = v11.heap.size + 1 + 1 by rw [hX13, World.size_alloc, HN.out])
  rw [HN.out] at BSX14 BVX14 hX14
  rw [HN2.out] at BVX14
  obtain ⟨gb, go, hga, gc⟩ := dK_at K4X14.out
  have b0 : X14.cell? ⟨v11.heap.size, 0, none⟩ = some (.slice (some ⟨gb, go, none⟩) 3 q4.c1) := by have := B7X14.out.wo.1; rw [hga] at this; exact this
  rw [hga] at hX12
  rw [hX14, hX13, hX12] at gc b0
  rw [hga]
  go_wp2_with (fail)
  rw [← hX12, ← hX13, ← hX14]
  clear hX12 hX13 hX14 gc b0
  go_at_call 34
  refine (HEX.out X14).mono ?_
  rintro e v15 ⟨p5, rfl, o5, bb⟩
  have HBv15 := Lib.hid (below_join HBX14.out bb HBX14.out.size)
  have BSv15 := Lib.hid (BSX14.out.on bb (Nat.le_refl _))
  have BVv15 := Lib.hid (BVX14.out.on bb (Nat.le_refl _))
  have E5v15 := Lib.hid (o5.wo (by simp [exW])); clear o5
  clear bb
  go_wp2_with (fail)
  go_at_call 16
  refine (c_runsTo p5 exW 0 2 (by decide +kernel) (by decide) v15 E5v15.out).mono ?_
  rintro e v16 ⟨rfl, bb⟩
  have HBv16 := Lib.hid (below_join HBv15.out bb HBv15.out.size)
  have BSv16 := Lib.hid (BSv15.out.on bb (Nat.le_refl _))
  have BVv16 := Lib.hid (BVv15.out.on bb (Nat.le_refl _))
  have E5v16 := Lib.hid (E5v15.out.on bb (Nat.le_refl _))
  clear bb
  go_wp2_with (fail)
  go_at_call 35
  refine (HWI.out v16).mono ?_
  rintro e v17 ⟨Ax, cx, rfl, ow, bb⟩
  have HBv17 := Lib.hid (below_join HBv16.out bb HBv16.out.size)
  have BSv17 := Lib.hid (BSv16.out.on bb (Nat.le_refl _))
  have BVv17 := Lib.hid (BVv16.out.on bb (Nat.le_refl _))
  have W8v17 := Lib.hid ow; clear ow
  clear bb
  go_wp2_with (fail)
  go_at_call 34
  refine (HEX.out v17).mono ?_
  rintro e v18 ⟨p9, rfl, o9, bb⟩
  have HBv18 := Lib.hid (below_join HBv17.out bb HBv17.out.size)
  have BSv18 := Lib.hid (BSv17.out.on bb (Nat.le_refl _))
  have BVv18 := Lib.hid (BVv17.out.on bb (Nat.le_refl _))
  have W8v18 := Lib.hid (W8v17.out.on bb (Nat.le_refl _))
  have E9v18 := Lib.hid (o9.wo (by simp [exW])); clear o9
  clear bb
  go_wp2_with (fail)
  go_at_call 23
  refine (c_usedTo Ax cx wxs p9 exW 1 0 (by decide +kernel) v18 W8v18.out E9v18.out).mono ?_
  rintro e v19 ⟨rfl, bb⟩
  have HBv19 := Lib.hid (below_join HBv18.out bb HBv18.out.size)
  have BSv19 := Lib.hid (BSv18.out.on bb (Nat.le_refl _))
  have BVv19 := Lib.hid (BVv18.out.on bb (Nat.le_refl _))
  have W8v19 := Lib.hid (W8v18.out.on bb (Nat.le_refl _))
  have E9v19 := Lib.hid (E9v18.out.on bb (Nat.le_refl _))
  clear bb
  have x0 : v19.cell? ⟨v11.heap.size + 1 + 1, 0, none⟩ = some (.slice (some ⟨v11.heap.size + 1, 0, none⟩) 1 1) := cell_of BVv19.out rfl
  go_wp2_with (fail)
  clear x0
  go_at_call 12
  refine (c_kbad (v11.heap.size + 1) v19 BSv19.out).mono ?_
  rintro e v20 ⟨rfl, bb⟩
  have HBv20 := Lib.hid (below_join HBv19.out bb HBv19.out.size)
  have BSv20 := Lib.hid (BSv19.out.on bb (Nat.le_refl _))
  have BVv20 := Lib.hid (BVv19.out.on bb (Nat.le_refl _))
  clear bb
  go_wp2_with (fail)
  go_at_call 12
  refine (c_knil v20).mono ?_
  rintro e v21 ⟨rfl, bb⟩
  have HBv21 := Lib.hid (below_join HBv20.out bb HBv20.out.size)
  clear bb
  go_wp2_with (fail)
  go_at_call 14
  refine (c_kzero v21).mono ?_
  rintro e v22 ⟨rfl, bb⟩
  have HBv22 := Lib.hid (below_join HBv21.out bb HBv21.out.size)
  clear bb
  go_wp2_with (fail)
  go_at_call 11
  refine (HLV.out v22).mono ?_
  rintro e v23 ⟨rfl, bb⟩
  have HBv23 := Lib.hid (below_join HBv22.out bb HBv22.out.size)
  clear bb
  go_wp2_with (fail)
  go_ret
  exact ⟨rfl, HBv23.out⟩
end Go.Proofs.Ytplncglgolhfaaa
