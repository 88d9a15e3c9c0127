/-
  DERIVED. Several texts in one.
-/
import Derived.Test.YtbbadnlaelgmlaaGreatPYO3
import Derived.Test.YtbbadnlaelgmlaaGreatPYA2
set_option linter.unusedVariables false
set_option linter.unusedSimpArgs false

namespace Go.Proofs.YtbbadnlaelgmlaaGreat
open Go.RowKit
set_option maxRecDepth 100000
set_option linter.unusedVariables false
set_option linter.unusedSimpArgs false

theorem c_worldN (A : Option Addr) (c : Nat) (l : List Rep) (n : Nat) (hn : l.length = n) (w : World) (h : Rv 2 repV w A c l) : Calls Tryz.prog 24 #[.slice A n c] w fun e w' => ∃ q, e = .returned (.agg #[.slice q.a1 3 q.c1, .slice q.a2 n q.c2]) ∧ WoAt w' q ⟨hz3, l⟩ ∧ Below w.heap.size w w' := by
  subst hn; exact c_world A c l w h
set_option maxHeartbeats 64000000 in
theorem c_live (w : World) : Calls Tryz.prog 11 #[] w fun e w' => e = .returned (.bool true) ∧ Below w.heap.size w w' := by
  obtain ⟨E1, h1⟩ : ∃ X, X = w.alloc (.cells #[.int .i64 0, .int .i64 0, .int .i64 0, .int .i64 1, .int .i64 1, .int .i64 0] 53) := ⟨_, rfl⟩
  have B1 : Below w.heap.size w E1 := by rw [h1]; exact (Below.refl _ _).alloc (Nat.le_refl _) _
  have RV1 := Lib.hid (rv_block (k := 2) (F := repV) (l := W2.reps) (w := E1) (b := w.heap.size) (T := 53) (by rw [h1]; exact box_new _ _ _) (by simp [W2, maxLen]))
  have HB1 := Lib.hid B1
  clear B1
  go_enter Tryz.func11, Tryz.ntmps11
  go_wp2_with (fail)
  rw [← h1]
  clear h1
  go_at_call 24
  refine (c_worldN (some ⟨w.heap.size, 0, none⟩) 3 W2.reps 3 rfl E1 RV1.out).mono ?_
  rintro e v1 ⟨q2, rfl, hw2, bb⟩
  have HBv := Lib.hid (below_join HB1.out bb HB1.out.size)
  obtain ⟨V, hV⟩ : ∃ X, X = v1.alloc (.cells #[.slice q2.a1 3 q2.c1, .slice q2.a2 3 q2.c2] 36) := ⟨_, rfl⟩
  have bV : Below v1.heap.size v1 V := by rw [hV]; exact (Below.refl _ _).alloc (Nat.le_refl _) _
  have HB := Lib.hid (below_join HBv.out bV HBv.out.size)
  have HW0 := hw2.on bV (Nat.le_refl _)
  have hbx : V.heap[v1.heap.size]? = some (.cells #[.slice q2.a1 3 q2.c1, .slice q2.a2 3 q2.c2] 36 (0, 0)) := by rw [hV]; exact box_new _ _ _
  have HW := Lib.hid (fun (X : World) (hX : Below V.heap.size V X) => (HW0.on hX (Nat.le_refl _) : WoAt X q2 W2))
  have HS := Lib.hid (fun (X : World) (hX : Below V.heap.size V X) => (⟨cell_of (box_on hbx hX (Nat.le_refl _)) rfl, cell_of (box_on hbx hX (Nat.le_refl _)) rfl⟩ : X.cell? ⟨v1.heap.size, 0, none⟩ = some (.slice q2.a1 3 q2.c1) ∧ X.cell? ⟨v1.heap.size, 1, none⟩ = some (.slice q2.a2 3 q2.c2)))
  clear bb hw2 bV HW0 hbx HB1 HBv RV1
  go_wp2_with (fail)
  rw [← hV]
  clear hV
  generalize hgb : v1.heap.size = gb at *
  clear hgb
  refine wp_region_held_drew (S := fun X => X.cell? ⟨gb, 0, none⟩ = some (.slice q2.a1 3 q2.c1) ∧ X.cell? ⟨gb, 1, none⟩ = some (.slice q2.a2 3 q2.c2)) (by kernel_rfl) (HS.out _ (Below.refl _ _).drew) (fun hHeld => ?_)
  have HKX0 := Lib.hid (show Below V.heap.size V V.drew from (Below.refl _ _).drew)
  generalize hX0 : V.drew = X0 at *
  clear hX0
  refine takeH (i := 2) 9 (v := ?_) rfl rfl (by kernel_rfl) (by kernel_rfl) (by kernel_rfl) (fun _ _ _ h => h) (by rfl) ?_ hHeld ?_
  rotate_left
  · intro X hX; first | (go_simp; done) | (go_simp; with_reducible rfl)
  try simp only [Act.put, List.setIfInBounds_toArray, List.set_cons_zero, List.set_cons_succ]
  refine takeH (i := 3) 10 (v := ?_) rfl rfl (by kernel_rfl) (by kernel_rfl) (by kernel_rfl) (fun _ _ _ h => h) (by rfl) ?_ hHeld ?_
  rotate_left
  · intro X hX; first | (go_simp; done) | (go_simp; with_reducible rfl)
  try simp only [Act.put, List.setIfInBounds_toArray, List.set_cons_zero, List.set_cons_succ]
  refine wpAnyH_ready (rs := [0, 4]) (by kernel_rfl) (by simp) ?_
  refine AllReadyH.cons rfl (fun K hK => ?_) (AllReadyH.cons rfl (fun K hK => ?_) (AllReadyH.nil))
  · go_simp
    go_at_call 25
    refine (c_siteTo X0).mono ?_
    rintro e X1 ⟨p, rfl, h1, bb⟩
    have HKX1 := Lib.hid (below_join HKX0.out bb HKX0.out.size)
    have S1X1 := Lib.hid h1
    clear h1
    clear bb
    try dsimp only
    clear hHeld
    refine hK.out _ _ (HS.out _ HKX1.out) (fun hHeld => ?_)
    clear hK K
    try simp only [Act.put, List.setIfInBounds_toArray, List.set_cons_zero, List.set_cons_succ]
    refine wpAnyH_ready (rs := [1, 4]) (by kernel_rfl) (by simp) ?_
    refine AllReadyH.cons rfl (fun K hK => ?_) (AllReadyH.cons rfl (fun K hK => ?_) (AllReadyH.nil))
    · go_simp
      go_at_call 26
      refine (c_wishTo X1).mono ?_
      rintro e X2 ⟨A, c, b, rfl, h1, bb⟩
      have HKX2 := Lib.hid (below_join HKX1.out bb HKX1.out.size)
      have S1X2 := Lib.hid (S1X1.out.on bb (Nat.le_refl _))
      have S2X2 := Lib.hid h1
      clear h1
      clear bb
      try dsimp only
      clear hHeld
      refine hK.out _ _ (HS.out _ HKX2.out) (fun hHeld => ?_)
      clear hK K
      try simp only [Act.put, List.setIfInBounds_toArray, List.set_cons_zero, List.set_cons_succ]
      refine wpAnyH_ready (rs := [4]) (by kernel_rfl) (by simp) ?_
      refine AllReadyH.cons rfl (fun K hK => ?_) (AllReadyH.nil)
      go_simp
      obtain ⟨X3, hX3⟩ : ∃ Y, Y = X2.alloc (.cells #[.int .i64 0, .int .i64 0, .int .i64 0, .int .i64 2] 53) := ⟨_, rfl⟩
      have bb : Below X2.heap.size X2 X3 := by rw [hX3]; exact (Below.refl _ _).alloc (Nat.le_refl _) _
      have HKX3 := Lib.hid (below_join HKX2.out bb HKX2.out.size)
      have S1X3 := Lib.hid (S1X2.out.on bb (Nat.le_refl _))
      have S2X3 := Lib.hid (S2X2.out.on bb (Nat.le_refl _))
      have hbx : X3.heap[X2.heap.size]? = some (.cells #[.int .i64 0, .int .i64 0, .int .i64 0, .int .i64 2] 53 (0, 0)) := by rw [hX3]; exact box_new _ _ _
      have RVX3 := Lib.hid (rv_block (k := 2) (F := repV) (l := W1.reps) hbx (by simp [W1, maxLen]))
      obtain ⟨gs, hgs⟩ : ∃ gs, X2.heap.size = gs := ⟨_, rfl⟩
      rw [hgs] at RVX3 ⊢
      clear hgs
      rw [← hX3]
      clear bb hX3 hbx
      try dsimp only
      clear hHeld
      refine hK.out _ _ (HS.out _ HKX3.out) (fun hHeld => ?_)
      clear hK K
      try simp only [Act.put, List.setIfInBounds_toArray, List.set_cons_zero, List.set_cons_succ]
      refine wpAnyH_ready (rs := [5]) (by kernel_rfl) (by simp) ?_
      refine AllReadyH.cons rfl (fun K hK => ?_) (AllReadyH.nil)
      go_simp
      go_at_call 24
      refine (c_worldN (some ⟨gs, 0, none⟩) 2 W1.reps 2 rfl X3 RVX3.out).mono ?_
      rintro e X4 ⟨q, rfl, h1, bb⟩
      have HKX4 := Lib.hid (below_join HKX3.out bb HKX3.out.size)
      have S1X4 := Lib.hid (S1X3.out.on bb (Nat.le_refl _))
      have S2X4 := Lib.hid (S2X3.out.on bb (Nat.le_refl _))
      have RVX4 := Lib.hid (RVX3.out.on bb (Nat.le_refl _))
      have WQX4 := Lib.hid h1
      clear h1
      clear bb
      try dsimp only
      clear hHeld
      refine hK.out _ _ (HS.out _ HKX4.out) (fun hHeld => ?_)
      clear hK K
      try simp only [Act.put, List.setIfInBounds_toArray, List.set_cons_zero, List.set_cons_succ]
      refine wpAnyH_ready (rs := [6]) (by kernel_rfl) (by simp) ?_
      refine AllReadyH.cons rfl (fun K hK => ?_) (AllReadyH.nil)
      go_simp
      go_at_call 15
      refine (c_ivHolds ⟨p, exD, A, c, wxs b, q, W1⟩ true ⟨fun _ => ok1, fun _ => rfl⟩ [] br1 true rfl X4 ⟨S1X4.out, S2X4.out, WQX4.out⟩).mono ?_
      rintro e X5 ⟨rfl, bb⟩
      have HKX5 := Lib.hid (below_join HKX4.out bb HKX4.out.size)
      clear bb
      try dsimp only
      clear hHeld
      refine hK.out _ _ (HS.out _ HKX5.out) (fun hHeld => ?_)
      clear hK K
      try simp only [Act.put, List.setIfInBounds_toArray, List.set_cons_zero, List.set_cons_succ]
      refine takeH (i := 7) 14 (v := ?_) rfl rfl (by kernel_rfl) (by kernel_rfl) (by kernel_rfl) (fun _ _ _ h => h) (by rfl) ?_ hHeld ?_
      rotate_left
      · intro X hX; first | (go_simp; done) | (go_simp; with_reducible rfl)
      try simp only [Act.put, List.setIfInBounds_toArray, List.set_cons_zero, List.set_cons_succ]
      refine takeH (i := 10) 17 (v := ?_) rfl rfl (by kernel_rfl) (by kernel_rfl) (by kernel_rfl) (fun _ _ _ h => h) (by rfl) ?_ hHeld ?_
      rotate_left
      · intro X hX; obtain ⟨hq0, hq1⟩ := hX; first | (go_simp; done) | (go_simp; with_reducible rfl)
      try simp only [Act.put, List.setIfInBounds_toArray, List.set_cons_zero, List.set_cons_succ]
      refine takeH (i := 12) 19 (v := ?_) rfl rfl (by kernel_rfl) (by kernel_rfl) (by kernel_rfl) (fun _ _ _ h => h) (by rfl) ?_ hHeld ?_
      rotate_left
      · intro X hX; first | (go_simp; done) | (go_simp; with_reducible rfl)
      try simp only [Act.put, List.setIfInBounds_toArray, List.set_cons_zero, List.set_cons_succ]
      refine takeH (i := 13) 20 (v := ?_) rfl rfl (by kernel_rfl) (by kernel_rfl) (by kernel_rfl) (fun _ _ _ h => h) (by rfl) ?_ hHeld ?_
      rotate_left
      · intro X hX; first | (go_simp; done) | (go_simp; with_reducible rfl)
      try simp only [Act.put, List.setIfInBounds_toArray, List.set_cons_zero, List.set_cons_succ]
      refine takeH (i := 14) 21 (v := ?_) rfl rfl (by kernel_rfl) (by kernel_rfl) (by kernel_rfl) (fun _ _ _ h => h) (by rfl) ?_ hHeld ?_
      rotate_left
      · intro X hX; first | (go_simp; done) | (go_simp; with_reducible rfl)
      try simp only [Act.put, List.setIfInBounds_toArray, List.set_cons_zero, List.set_cons_succ]
      refine wpAnyH_ready (rs := [8, 15]) (by kernel_rfl) (by simp) ?_
      refine AllReadyH.cons rfl (fun K hK => ?_) (AllReadyH.cons rfl (fun K hK => ?_) (AllReadyH.nil))
      · go_simp
        go_at_call 25
        refine (c_siteTo X5).mono ?_
        rintro e X6 ⟨p2, rfl, h1, bb⟩
        have HKX6 := Lib.hid (below_join HKX5.out bb HKX5.out.size)
        have T1X6 := Lib.hid h1
        clear h1
        clear bb
        try dsimp only
        clear hHeld
        refine hK.out _ _ (HS.out _ HKX6.out) (fun hHeld => ?_)
        clear hK K
        try simp only [Act.put, List.setIfInBounds_toArray, List.set_cons_zero, List.set_cons_succ]
        refine wpAnyH_ready (rs := [9, 15]) (by kernel_rfl) (by simp) ?_
        refine AllReadyH.cons rfl (fun K hK => ?_) (AllReadyH.cons rfl (fun K hK => ?_) (AllReadyH.nil))
        · go_simp
          go_at_call 26
          refine (c_wishTo X6).mono ?_
          rintro e X7 ⟨A2, c2, b2, rfl, h1, bb⟩
          have HKX7 := Lib.hid (below_join HKX6.out bb HKX6.out.size)
          have T1X7 := Lib.hid (T1X6.out.on bb (Nat.le_refl _))
          have T2X7 := Lib.hid h1
          clear h1
          clear bb
          try dsimp only
          clear hHeld
          refine hK.out _ _ (HS.out _ HKX7.out) (fun hHeld => ?_)
          clear hK K
          try simp only [Act.put, List.setIfInBounds_toArray, List.set_cons_zero, List.set_cons_succ]
          refine wpAnyH_ready (rs := [11, 15]) (by kernel_rfl) (by simp) ?_
          refine AllReadyH.cons rfl (fun K hK => ?_) (AllReadyH.cons rfl (fun K hK => ?_) (AllReadyH.nil))
          · go_simp
            go_at_call 13
            refine (c_Broken ⟨p2, exD, A2, c2, wxs b2, q2, W2⟩ true ⟨fun _ => ok2, fun _ => rfl⟩ [⟨1, 0, 0⟩, ⟨4, 0, 0⟩, ⟨5, 1, 0⟩] br2 X7 ⟨T1X7.out, T2X7.out, HW.out _ HKX7.out⟩).mono ?_
            rintro e X8 ⟨A9, c9, rfl, h1, bb⟩
            have HKX8 := Lib.hid (below_join HKX7.out bb HKX7.out.size)
            have R8X8 := Lib.hid h1
            clear h1
            clear bb
            try dsimp only
            clear hHeld
            refine hK.out _ _ (HS.out _ HKX8.out) (fun hHeld => ?_)
            clear hK K
            try simp only [Act.put, List.setIfInBounds_toArray, List.set_cons_zero, List.set_cons_succ]
            refine wpAnyH_ready (rs := [15]) (by kernel_rfl) (by simp) ?_
            refine AllReadyH.cons rfl (fun K hK => ?_) (AllReadyH.nil)
            go_simp
            obtain ⟨X9, hX9⟩ : ∃ Y, Y = X8.alloc (.cells #[.int .u8 1, .int .i64 0, .int .i64 0, .int .u8 4, .int .i64 0, .int .i64 0, .int .u8 5, .int .i64 1, .int .i64 0] 44) := ⟨_, rfl⟩
            have bb : Below X8.heap.size X8 X9 := by rw [hX9]; exact (Below.refl _ _).alloc (Nat.le_refl _) _
            have HKX9 := Lib.hid (below_join HKX8.out bb HKX8.out.size)
            have R8X9 := Lib.hid (R8X8.out.on bb (Nat.le_refl _))
            have hbx : X9.heap[X8.heap.size]? = some (.cells #[.int .u8 1, .int .i64 0, .int .i64 0, .int .u8 4, .int .i64 0, .int .i64 0, .int .u8 5, .int .i64 1, .int .i64 0] 44 (0, 0)) := by rw [hX9]; exact box_new _ _ _
            have RTX9 := Lib.hid (rv_block (k := 3) (F := bnF) (l := [⟨1, 0, 0⟩, ⟨4, 0, 0⟩, ⟨5, 1, 0⟩]) hbx (by simp [maxLen]))
            obtain ⟨gt, hgt⟩ : ∃ gt, X8.heap.size = gt := ⟨_, rfl⟩
            rw [hgt] at RTX9 ⊢
            clear hgt
            rw [← hX9]
            clear bb hX9 hbx
            try dsimp only
            clear hHeld
            refine hK.out _ _ (HS.out _ HKX9.out) (fun hHeld => ?_)
            clear hK K
            try simp only [Act.put, List.setIfInBounds_toArray, List.set_cons_zero, List.set_cons_succ]
            refine wpAnyH_ready (rs := [16]) (by kernel_rfl) (by simp) ?_
            refine AllReadyH.cons rfl (fun K hK => ?_) (AllReadyH.nil)
            go_simp
            go_at_call 12
            refine (c_irSame A9 c9 [⟨1, 0, 0⟩, ⟨4, 0, 0⟩, ⟨5, 1, 0⟩] (some ⟨gt, 0, none⟩) 3 [⟨1, 0, 0⟩, ⟨4, 0, 0⟩, ⟨5, 1, 0⟩] true (by decide) X9 R8X9.out RTX9.out).mono ?_
            rintro e X10 ⟨rfl, bb⟩
            have HKX10 := Lib.hid (below_join HKX9.out bb HKX9.out.size)
            clear bb
            try dsimp only
            clear hHeld
            refine hK.out _ _ (HS.out _ HKX10.out) (fun hHeld => ?_)
            clear hK K
            try simp only [Act.put, List.setIfInBounds_toArray, List.set_cons_zero, List.set_cons_succ]
            refine takeH (i := 17) 24 (v := ?_) rfl rfl (by kernel_rfl) (by kernel_rfl) (by kernel_rfl) (fun _ _ _ h => h) (by rfl) ?_ hHeld ?_
            rotate_left
            · intro X hX; first | (go_simp; done) | (go_simp; with_reducible rfl)
            try simp only [Act.put, List.setIfInBounds_toArray, List.set_cons_zero, List.set_cons_succ]
            refine takeH (i := 18) 0 (v := ?_) rfl rfl (by kernel_rfl) (by kernel_rfl) (by kernel_rfl) (fun _ _ _ h => h) (by rfl) ?_ hHeld ?_
            rotate_left
            · intro X hX; first | (go_simp; done) | (go_simp; with_reducible rfl)
            try simp only [Act.put, List.setIfInBounds_toArray, List.set_cons_zero, List.set_cons_succ]
            refine wpAnyH_done (by kernel_rfl) ?_ _
            go_wp2_with (fail)
            go_ret
            exact ⟨rfl, below_join HB.out HKX10.out HB.out.size⟩
          · go_simp
            obtain ⟨X11, hX11⟩ : ∃ Y, Y = X7.alloc (.cells #[.int .u8 1, .int .i64 0, .int .i64 0, .int .u8 4, .int .i64 0, .int .i64 0, .int .u8 5, .int .i64 1, .int .i64 0] 44) := ⟨_, rfl⟩
            have bb : Below X7.heap.size X7 X11 := by rw [hX11]; exact (Below.refl _ _).alloc (Nat.le_refl _) _
            have HKX11 := Lib.hid (below_join HKX7.out bb HKX7.out.size)
            have T1X11 := Lib.hid (T1X7.out.on bb (Nat.le_refl _))
            have T2X11 := Lib.hid (T2X7.out.on bb (Nat.le_refl _))
            have hbx : X11.heap[X7.heap.size]? = some (.cells #[.int .u8 1, .int .i64 0, .int .i64 0, .int .u8 4, .int .i64 0, .int .i64 0, .int .u8 5, .int .i64 1, .int .i64 0] 44 (0, 0)) := by rw [hX11]; exact box_new _ _ _
            have RTX11 := Lib.hid (rv_block (k := 3) (F := bnF) (l := [⟨1, 0, 0⟩, ⟨4, 0, 0⟩, ⟨5, 1, 0⟩]) hbx (by simp [maxLen]))
            obtain ⟨gt, hgt⟩ : ∃ gt, X7.heap.size = gt := ⟨_, rfl⟩
            rw [hgt] at RTX11 ⊢
            clear hgt
            rw [← hX11]
            clear bb hX11 hbx
            try dsimp only
            clear hHeld
            refine hK.out _ _ (HS.out _ HKX11.out) (fun hHeld => ?_)
            clear hK K
            try simp only [Act.put, List.setIfInBounds_toArray, List.set_cons_zero, List.set_cons_succ]
            refine wpAnyH_ready (rs := [11]) (by kernel_rfl) (by simp) ?_
            refine AllReadyH.cons rfl (fun K hK => ?_) (AllReadyH.nil)
            go_simp
            go_at_call 13
            refine (c_Broken ⟨p2, exD, A2, c2, wxs b2, q2, W2⟩ true ⟨fun _ => ok2, fun _ => rfl⟩ [⟨1, 0, 0⟩, ⟨4, 0, 0⟩, ⟨5, 1, 0⟩] br2 X11 ⟨T1X11.out, T2X11.out, HW.out _ HKX11.out⟩).mono ?_
            rintro e X12 ⟨A9, c9, rfl, h1, bb⟩
            have HKX12 := Lib.hid (below_join HKX11.out bb HKX11.out.size)
            have RTX12 := Lib.hid (RTX11.out.on bb (Nat.le_refl _))
            have R8X12 := Lib.hid h1
            clear h1
            clear bb
            try dsimp only
            clear hHeld
            refine hK.out _ _ (HS.out _ HKX12.out) (fun hHeld => ?_)
            clear hK K
            try simp only [Act.put, List.setIfInBounds_toArray, List.set_cons_zero, List.set_cons_succ]
            refine wpAnyH_ready (rs := [16]) (by kernel_rfl) (by simp) ?_
            refine AllReadyH.cons rfl (fun K hK => ?_) (AllReadyH.nil)
            go_simp
            go_at_call 12
            refine (c_irSame A9 c9 [⟨1, 0, 0⟩, ⟨4, 0, 0⟩, ⟨5, 1, 0⟩] (some ⟨gt, 0, none⟩) 3 [⟨1, 0, 0⟩, ⟨4, 0, 0⟩, ⟨5, 1, 0⟩] true (by decide) X12 R8X12.out RTX12.out).mono ?_
            rintro e X13 ⟨rfl, bb⟩
            have HKX13 := Lib.hid (below_join HKX12.out bb HKX12.out.size)
            clear bb
            try dsimp only
            clear hHeld
            refine hK.out _ _ (HS.out _ HKX13.out) (fun hHeld => ?_)
            clear hK K
            try simp only [Act.put, List.setIfInBounds_toArray, List.set_cons_zero, List.set_cons_succ]
            refine takeH (i := 17) 24 (v := ?_) rfl rfl (by kernel_rfl) (by kernel_rfl) (by kernel_rfl) (fun _ _ _ h => h) (by rfl) ?_ hHeld ?_
            rotate_left
            · intro X hX; first | (go_simp; done) | (go_simp; with_reducible rfl)
            try simp only [Act.put, List.setIfInBounds_toArray, List.set_cons_zero, List.set_cons_succ]
            refine takeH (i := 18) 0 (v := ?_) rfl rfl (by kernel_rfl) (by kernel_rfl) (by kernel_rfl) (fun _ _ _ h => h) (by rfl) ?_ hHeld ?_
            rotate_left
            · intro X hX; first | (go_simp; done) | (go_simp; with_reducible rfl)
            try simp only [Act.put, List.setIfInBounds_toArray, List.set_cons_zero, List.set_cons_succ]
            refine wpAnyH_done (by kernel_rfl) ?_ _
            go_wp2_with (fail)
            go_ret
            exact ⟨rfl, below_join HB.out HKX13.out HB.out.size⟩
        · go_simp
          obtain ⟨X14, hX14⟩ : ∃ Y, Y = X6.alloc (.cells #[.int .u8 1, .int .i64 0, .int .i64 0, .int .u8 4, .int .i64 0, .int .i64 0, .int .u8 5, .int .i64 1, .int .i64 0] 44) := ⟨_, rfl⟩
          have bb : Below X6.heap.size X6 X14 := by rw [hX14]; exact (Below.refl _ _).alloc (Nat.le_refl _) _
          have HKX14 := Lib.hid (below_join HKX6.out bb HKX6.out.size)
          have T1X14 := Lib.hid (T1X6.out.on bb (Nat.le_refl _))
          have hbx : X14.heap[X6.heap.size]? = some (.cells #[.int .u8 1, .int .i64 0, .int .i64 0, .int .u8 4, .int .i64 0, .int .i64 0, .int .u8 5, .int .i64 1, .int .i64 0] 44 (0, 0)) := by rw [hX14]; exact box_new _ _ _
          have RTX14 := Lib.hid (rv_block (k := 3) (F := bnF) (l := [⟨1, 0, 0⟩, ⟨4, 0, 0⟩, ⟨5, 1, 0⟩]) hbx (by simp [maxLen]))
          obtain ⟨gt, hgt⟩ : ∃ gt, X6.heap.size = gt := ⟨_, rfl⟩
          rw [hgt] at RTX14 ⊢
          clear hgt
          rw [← hX14]
          clear bb hX14 hbx
          try dsimp only
          clear hHeld
          refine hK.out _ _ (HS.out _ HKX14.out) (fun hHeld => ?_)
          clear hK K
          try simp only [Act.put, List.setIfInBounds_toArray, List.set_cons_zero, List.set_cons_succ]
          refine wpAnyH_ready (rs := [9]) (by kernel_rfl) (by simp) ?_
          refine AllReadyH.cons rfl (fun K hK => ?_) (AllReadyH.nil)
          go_simp
          go_at_call 26
          refine (c_wishTo X14).mono ?_
          rintro e X15 ⟨A2, c2, b2, rfl, h1, bb⟩
          have HKX15 := Lib.hid (below_join HKX14.out bb HKX14.out.size)
          have T1X15 := Lib.hid (T1X14.out.on bb (Nat.le_refl _))
          have RTX15 := Lib.hid (RTX14.out.on bb (Nat.le_refl _))
          have T2X15 := Lib.hid h1
          clear h1
          clear bb
          try dsimp only
          clear hHeld
          refine hK.out _ _ (HS.out _ HKX15.out) (fun hHeld => ?_)
          clear hK K
          try simp only [Act.put, List.setIfInBounds_toArray, List.set_cons_zero, List.set_cons_succ]
          refine wpAnyH_ready (rs := [11]) (by kernel_rfl) (by simp) ?_
          refine AllReadyH.cons rfl (fun K hK => ?_) (AllReadyH.nil)
          go_simp
          go_at_call 13
          refine (c_Broken ⟨p2, exD, A2, c2, wxs b2, q2, W2⟩ true ⟨fun _ => ok2, fun _ => rfl⟩ [⟨1, 0, 0⟩, ⟨4, 0, 0⟩, ⟨5, 1, 0⟩] br2 X15 ⟨T1X15.out, T2X15.out, HW.out _ HKX15.out⟩).mono ?_
          rintro e X16 ⟨A9, c9, rfl, h1, bb⟩
          have HKX16 := Lib.hid (below_join HKX15.out bb HKX15.out.size)
          have RTX16 := Lib.hid (RTX15.out.on bb (Nat.le_refl _))
          have R8X16 := Lib.hid h1
          clear h1
          clear bb
          try dsimp only
          clear hHeld
          refine hK.out _ _ (HS.out _ HKX16.out) (fun hHeld => ?_)
          clear hK K
          try simp only [Act.put, List.setIfInBounds_toArray, List.set_cons_zero, List.set_cons_succ]
          refine wpAnyH_ready (rs := [16]) (by kernel_rfl) (by simp) ?_
          refine AllReadyH.cons rfl (fun K hK => ?_) (AllReadyH.nil)
          go_simp
          go_at_call 12
          refine (c_irSame A9 c9 [⟨1, 0, 0⟩, ⟨4, 0, 0⟩, ⟨5, 1, 0⟩] (some ⟨gt, 0, none⟩) 3 [⟨1, 0, 0⟩, ⟨4, 0, 0⟩, ⟨5, 1, 0⟩] true (by decide) X16 R8X16.out RTX16.out).mono ?_
          rintro e X17 ⟨rfl, bb⟩
          have HKX17 := Lib.hid (below_join HKX16.out bb HKX16.out.size)
          clear bb
          try dsimp only
          clear hHeld
          refine hK.out _ _ (HS.out _ HKX17.out) (fun hHeld => ?_)
          clear hK K
          try simp only [Act.put, List.setIfInBounds_toArray, List.set_cons_zero, List.set_cons_succ]
          refine takeH (i := 17) 24 (v := ?_) rfl rfl (by kernel_rfl) (by kernel_rfl) (by kernel_rfl) (fun _ _ _ h => h) (by rfl) ?_ hHeld ?_
          rotate_left
          · intro X hX; first | (go_simp; done) | (go_simp; with_reducible rfl)
          try simp only [Act.put, List.setIfInBounds_toArray, List.set_cons_zero, List.set_cons_succ]
          refine takeH (i := 18) 0 (v := ?_) rfl rfl (by kernel_rfl) (by kernel_rfl) (by kernel_rfl) (fun _ _ _ h => h) (by rfl) ?_ hHeld ?_
          rotate_left
          · intro X hX; first | (go_simp; done) | (go_simp; with_reducible rfl)
          try simp only [Act.put, List.setIfInBounds_toArray, List.set_cons_zero, List.set_cons_succ]
          refine wpAnyH_done (by kernel_rfl) ?_ _
          go_wp2_with (fail)
          go_ret
          exact ⟨rfl, below_join HB.out HKX17.out HB.out.size⟩
      · go_simp
        obtain ⟨X18, hX18⟩ : ∃ Y, Y = X5.alloc (.cells #[.int .u8 1, .int .i64 0, .int .i64 0, .int .u8 4, .int .i64 0, .int .i64 0, .int .u8 5, .int .i64 1, .int .i64 0] 44) := ⟨_, rfl⟩
        have bb : Below X5.heap.size X5 X18 := by rw [hX18]; exact (Below.refl _ _).alloc (Nat.le_refl _) _
        have HKX18 := Lib.hid (below_join HKX5.out bb HKX5.out.size)
        have hbx : X18.heap[X5.heap.size]? = some (.cells #[.int .u8 1, .int .i64 0, .int .i64 0, .int .u8 4, .int .i64 0, .int .i64 0, .int .u8 5, .int .i64 1, .int .i64 0] 44 (0, 0)) := by rw [hX18]; exact box_new _ _ _
        have RTX18 := Lib.hid (rv_block (k := 3) (F := bnF) (l := [⟨1, 0, 0⟩, ⟨4, 0, 0⟩, ⟨5, 1, 0⟩]) hbx (by simp [maxLen]))
        obtain ⟨gt, hgt⟩ : ∃ gt, X5.heap.size = gt := ⟨_, rfl⟩
        rw [hgt] at RTX18 ⊢
        clear hgt
        rw [← hX18]
        clear bb hX18 hbx
        try dsimp only
        clear hHeld
        refine hK.out _ _ (HS.out _ HKX18.out) (fun hHeld => ?_)
        clear hK K
        try simp only [Act.put, List.setIfInBounds_toArray, List.set_cons_zero, List.set_cons_succ]
        refine wpAnyH_ready (rs := [8]) (by kernel_rfl) (by simp) ?_
        refine AllReadyH.cons rfl (fun K hK => ?_) (AllReadyH.nil)
        go_simp
        go_at_call 25
        refine (c_siteTo X18).mono ?_
        rintro e X19 ⟨p2, rfl, h1, bb⟩
        have HKX19 := Lib.hid (below_join HKX18.out bb HKX18.out.size)
        have RTX19 := Lib.hid (RTX18.out.on bb (Nat.le_refl _))
        have T1X19 := Lib.hid h1
        clear h1
        clear bb
        try dsimp only
        clear hHeld
        refine hK.out _ _ (HS.out _ HKX19.out) (fun hHeld => ?_)
        clear hK K
        try simp only [Act.put, List.setIfInBounds_toArray, List.set_cons_zero, List.set_cons_succ]
        refine wpAnyH_ready (rs := [9]) (by kernel_rfl) (by simp) ?_
        refine AllReadyH.cons rfl (fun K hK => ?_) (AllReadyH.nil)
        go_simp
        go_at_call 26
        refine (c_wishTo X19).mono ?_
        rintro e X20 ⟨A2, c2, b2, rfl, h1, bb⟩
        have HKX20 := Lib.hid (below_join HKX19.out bb HKX19.out.size)
        have RTX20 := Lib.hid (RTX19.out.on bb (Nat.le_refl _))
        have T1X20 := Lib.hid (T1X19.out.on bb (Nat.le_refl _))
        have T2X20 := Lib.hid h1
        clear h1
        clear bb
        try dsimp only
        clear hHeld
        refine hK.out _ _ (HS.out _ HKX20.out) (fun hHeld => ?_)
        clear hK K
        try simp only [Act.put, List.setIfInBounds_toArray, List.set_cons_zero, List.set_cons_succ]
        refine wpAnyH_ready (rs := [11]) (by kernel_rfl) (by simp) ?_
        refine AllReadyH.cons rfl (fun K hK => ?_) (AllReadyH.nil)
        go_simp
        go_at_call 13
        refine (c_Broken ⟨p2, exD, A2, c2, wxs b2, q2, W2⟩ true ⟨fun _ => ok2, fun _ => rfl⟩ [⟨1, 0, 0⟩, ⟨4, 0, 0⟩, ⟨5, 1, 0⟩] br2 X20 ⟨T1X20.out, T2X20.out, HW.out _ HKX20.out⟩).mono ?_
        rintro e X21 ⟨A9, c9, rfl, h1, bb⟩
        have HKX21 := Lib.hid (below_join HKX20.out bb HKX20.out.size)
        have RTX21 := Lib.hid (RTX20.out.on bb (Nat.le_refl _))
        have R8X21 := Lib.hid h1
        clear h1
        clear bb
        try dsimp only
        clear hHeld
        refine hK.out _ _ (HS.out _ HKX21.out) (fun hHeld => ?_)
        clear hK K
        try simp only [Act.put, List.setIfInBounds_toArray, List.set_cons_zero, List.set_cons_succ]
        refine wpAnyH_ready (rs := [16]) (by kernel_rfl) (by simp) ?_
        refine AllReadyH.cons rfl (fun K hK => ?_) (AllReadyH.nil)
        go_simp
        go_at_call 12
        refine (c_irSame A9 c9 [⟨1, 0, 0⟩, ⟨4, 0, 0⟩, ⟨5, 1, 0⟩] (some ⟨gt, 0, none⟩) 3 [⟨1, 0, 0⟩, ⟨4, 0, 0⟩, ⟨5, 1, 0⟩] true (by decide) X21 R8X21.out RTX21.out).mono ?_
        rintro e X22 ⟨rfl, bb⟩
        have HKX22 := Lib.hid (below_join HKX21.out bb HKX21.out.size)
        clear bb
        try dsimp only
        clear hHeld
        refine hK.out _ _ (HS.out _ HKX22.out) (fun hHeld => ?_)
        clear hK K
        try simp only [Act.put, List.setIfInBounds_toArray, List.set_cons_zero, List.set_cons_succ]
        refine takeH (i := 17) 24 (v := ?_) rfl rfl (by kernel_rfl) (by kernel_rfl) (by kernel_rfl) (fun _ _ _ h => h) (by rfl) ?_ hHeld ?_
        rotate_left
        · intro X hX; first | (go_simp; done) | (go_simp; with_reducible rfl)
        try simp only [Act.put, List.setIfInBounds_toArray, List.set_cons_zero, List.set_cons_succ]
        refine takeH (i := 18) 0 (v := ?_) rfl rfl (by kernel_rfl) (by kernel_rfl) (by kernel_rfl) (fun _ _ _ h => h) (by rfl) ?_ hHeld ?_
        rotate_left
        · intro X hX; first | (go_simp; done) | (go_simp; with_reducible rfl)
        try simp only [Act.put, List.setIfInBounds_toArray, List.set_cons_zero, List.set_cons_succ]
        refine wpAnyH_done (by kernel_rfl) ?_ _
        go_wp2_with (fail)
        go_ret
        exact ⟨rfl, below_join HB.out HKX22.out HB.out.size⟩
    · go_simp
      obtain ⟨X23, hX23⟩ : ∃ Y, Y = X1.alloc (.cells #[.int .i64 0, .int .i64 0, .int .i64 0, .int .i64 2] 53) := ⟨_, rfl⟩
      have bb : Below X1.heap.size X1 X23 := by rw [hX23]; exact (Below.refl _ _).alloc (Nat.le_refl _) _
      have HKX23 := Lib.hid (below_join HKX1.out bb HKX1.out.size)
      have S1X23 := Lib.hid (S1X1.out.on bb (Nat.le_refl _))
      have hbx : X23.heap[X1.heap.size]? = some (.cells #[.int .i64 0, .int .i64 0, .int .i64 0, .int .i64 2] 53 (0, 0)) := by rw [hX23]; exact box_new _ _ _
      have RVX23 := Lib.hid (rv_block (k := 2) (F := repV) (l := W1.reps) hbx (by simp [W1, maxLen]))
      obtain ⟨gs, hgs⟩ : ∃ gs, X1.heap.size = gs := ⟨_, rfl⟩
      rw [hgs] at RVX23 ⊢
      clear hgs
      rw [← hX23]
      clear bb hX23 hbx
      try dsimp only
      clear hHeld
      refine hK.out _ _ (HS.out _ HKX23.out) (fun hHeld => ?_)
      clear hK K
      try simp only [Act.put, List.setIfInBounds_toArray, List.set_cons_zero, List.set_cons_succ]
      refine wpAnyH_ready (rs := [1]) (by kernel_rfl) (by simp) ?_
      refine AllReadyH.cons rfl (fun K hK => ?_) (AllReadyH.nil)
      go_simp
      go_at_call 26
      refine (c_wishTo X23).mono ?_
      rintro e X24 ⟨A, c, b, rfl, h1, bb⟩
      have HKX24 := Lib.hid (below_join HKX23.out bb HKX23.out.size)
      have S1X24 := Lib.hid (S1X23.out.on bb (Nat.le_refl _))
      have RVX24 := Lib.hid (RVX23.out.on bb (Nat.le_refl _))
      have S2X24 := Lib.hid h1
      clear h1
      clear bb
      try dsimp only
      clear hHeld
      refine hK.out _ _ (HS.out _ HKX24.out) (fun hHeld => ?_)
      clear hK K
      try simp only [Act.put, List.setIfInBounds_toArray, List.set_cons_zero, List.set_cons_succ]
      refine wpAnyH_ready (rs := [5]) (by kernel_rfl) (by simp) ?_
      refine AllReadyH.cons rfl (fun K hK => ?_) (AllReadyH.nil)
      go_simp
      go_at_call 24
      refine (c_worldN (some ⟨gs, 0, none⟩) 2 W1.reps 2 rfl X24 RVX24.out).mono ?_
      rintro e X25 ⟨q, rfl, h1, bb⟩
      have HKX25 := Lib.hid (below_join HKX24.out bb HKX24.out.size)
      have S1X25 := Lib.hid (S1X24.out.on bb (Nat.le_refl _))
      have RVX25 := Lib.hid (RVX24.out.on bb (Nat.le_refl _))
      have S2X25 := Lib.hid (S2X24.out.on bb (Nat.le_refl _))
      have WQX25 := Lib.hid h1
      clear h1
      clear bb
      try dsimp only
      clear hHeld
      refine hK.out _ _ (HS.out _ HKX25.out) (fun hHeld => ?_)
      clear hK K
      try simp only [Act.put, List.setIfInBounds_toArray, List.set_cons_zero, List.set_cons_succ]
      refine wpAnyH_ready (rs := [6]) (by kernel_rfl) (by simp) ?_
      refine AllReadyH.cons rfl (fun K hK => ?_) (AllReadyH.nil)
      go_simp
      go_at_call 15
      refine (c_ivHolds ⟨p, exD, A, c, wxs b, q, W1⟩ true ⟨fun _ => ok1, fun _ => rfl⟩ [] br1 true rfl X25 ⟨S1X25.out, S2X25.out, WQX25.out⟩).mono ?_
      rintro e X26 ⟨rfl, bb⟩
      have HKX26 := Lib.hid (below_join HKX25.out bb HKX25.out.size)
      clear bb
      try dsimp only
      clear hHeld
      refine hK.out _ _ (HS.out _ HKX26.out) (fun hHeld => ?_)
      clear hK K
      try simp only [Act.put, List.setIfInBounds_toArray, List.set_cons_zero, List.set_cons_succ]
      refine takeH (i := 7) 14 (v := ?_) rfl rfl (by kernel_rfl) (by kernel_rfl) (by kernel_rfl) (fun _ _ _ h => h) (by rfl) ?_ hHeld ?_
      rotate_left
      · intro X hX; first | (go_simp; done) | (go_simp; with_reducible rfl)
      try simp only [Act.put, List.setIfInBounds_toArray, List.set_cons_zero, List.set_cons_succ]
      refine takeH (i := 10) 17 (v := ?_) rfl rfl (by kernel_rfl) (by kernel_rfl) (by kernel_rfl) (fun _ _ _ h => h) (by rfl) ?_ hHeld ?_
      rotate_left
      · intro X hX; obtain ⟨hq0, hq1⟩ := hX; first | (go_simp; done) | (go_simp; with_reducible rfl)
      try simp only [Act.put, List.setIfInBounds_toArray, List.set_cons_zero, List.set_cons_succ]
      refine takeH (i := 12) 19 (v := ?_) rfl rfl (by kernel_rfl) (by kernel_rfl) (by kernel_rfl) (fun _ _ _ h => h) (by rfl) ?_ hHeld ?_
      rotate_left
      · intro X hX; first | (go_simp; done) | (go_simp; with_reducible rfl)
      try simp only [Act.put, List.setIfInBounds_toArray, List.set_cons_zero, List.set_cons_succ]
      refine takeH (i := 13) 20 (v := ?_) rfl rfl (by kernel_rfl) (by kernel_rfl) (by kernel_rfl) (fun _ _ _ h => h) (by rfl) ?_ hHeld ?_
      rotate_left
      · intro X hX; first | (go_simp; done) | (go_simp; with_reducible rfl)
      try simp only [Act.put, List.setIfInBounds_toArray, List.set_cons_zero, List.set_cons_succ]
      refine takeH (i := 14) 21 (v := ?_) rfl rfl (by kernel_rfl) (by kernel_rfl) (by kernel_rfl) (fun _ _ _ h => h) (by rfl) ?_ hHeld ?_
      rotate_left
      · intro X hX; first | (go_simp; done) | (go_simp; with_reducible rfl)
      try simp only [Act.put, List.setIfInBounds_toArray, List.set_cons_zero, List.set_cons_succ]
      refine wpAnyH_ready (rs := [8, 15]) (by kernel_rfl) (by simp) ?_
      refine AllReadyH.cons rfl (fun K hK => ?_) (AllReadyH.cons rfl (fun K hK => ?_) (AllReadyH.nil))
      · go_simp
        go_at_call 25
        refine (c_siteTo X26).mono ?_
        rintro e X27 ⟨p2, rfl, h1, bb⟩
        have HKX27 := Lib.hid (below_join HKX26.out bb HKX26.out.size)
        have T1X27 := Lib.hid h1
        clear h1
        clear bb
        try dsimp only
        clear hHeld
        refine hK.out _ _ (HS.out _ HKX27.out) (fun hHeld => ?_)
        clear hK K
        try simp only [Act.put, List.setIfInBounds_toArray, List.set_cons_zero, List.set_cons_succ]
        refine wpAnyH_ready (rs := [9, 15]) (by kernel_rfl) (by simp) ?_
        refine AllReadyH.cons rfl (fun K hK => ?_) (AllReadyH.cons rfl (fun K hK => ?_) (AllReadyH.nil))
        · go_simp
          go_at_call 26
          refine (c_wishTo X27).mono ?_
          rintro e X28 ⟨A2, c2, b2, rfl, h1, bb⟩
          have HKX28 := Lib.hid (below_join HKX27.out bb HKX27.out.size)
          have T1X28 := Lib.hid (T1X27.out.on bb (Nat.le_refl _))
          have T2X28 := Lib.hid h1
          clear h1
          clear bb
          try dsimp only
          clear hHeld
          refine hK.out _ _ (HS.out _ HKX28.out) (fun hHeld => ?_)
          clear hK K
          try simp only [Act.put, List.setIfInBounds_toArray, List.set_cons_zero, List.set_cons_succ]
          refine wpAnyH_ready (rs := [11, 15]) (by kernel_rfl) (by simp) ?_
          refine AllReadyH.cons rfl (fun K hK => ?_) (AllReadyH.cons rfl (fun K hK => ?_) (AllReadyH.nil))
          · go_simp
            go_at_call 13
            refine (c_Broken ⟨p2, exD, A2, c2, wxs b2, q2, W2⟩ true ⟨fun _ => ok2, fun _ => rfl⟩ [⟨1, 0, 0⟩, ⟨4, 0, 0⟩, ⟨5, 1, 0⟩] br2 X28 ⟨T1X28.out, T2X28.out, HW.out _ HKX28.out⟩).mono ?_
            rintro e X29 ⟨A9, c9, rfl, h1, bb⟩
            have HKX29 := Lib.hid (below_join HKX28.out bb HKX28.out.size)
            have R8X29 := Lib.hid h1
            clear h1
            clear bb
            try dsimp only
            clear hHeld
            refine hK.out _ _ (HS.out _ HKX29.out) (fun hHeld => ?_)
            clear hK K
            try simp only [Act.put, List.setIfInBounds_toArray, List.set_cons_zero, List.set_cons_succ]
            refine wpAnyH_ready (rs := [15]) (by kernel_rfl) (by simp) ?_
            refine AllReadyH.cons rfl (fun K hK => ?_) (AllReadyH.nil)
            go_simp
            obtain ⟨X30, hX30⟩ : ∃ Y, Y = X29.alloc (.cells #[.int .u8 1, .int .i64 0, .int .i64 0, .int .u8 4, .int .i64 0, .int .i64 0, .int .u8 5, .int .i64 1, .int .i64 0] 44) := ⟨_, rfl⟩
            have bb : Below X29.heap.size X29 X30 := by rw [hX30]; exact (Below.refl _ _).alloc (Nat.le_refl _) _
            have HKX30 := Lib.hid (below_join HKX29.out bb HKX29.out.size)
            have R8X30 := Lib.hid (R8X29.out.on bb (Nat.le_refl _))
            have hbx : X30.heap[X29.heap.size]? = some (.cells #[.int .u8 1, .int .i64 0, .int .i64 0, .int .u8 4, .int .i64 0, .int .i64 0, .int .u8 5, .int .i64 1, .int .i64 0] 44 (0, 0)) := by rw [hX30]; exact box_new _ _ _
            have RTX30 := Lib.hid (rv_block (k := 3) (F := bnF) (l := [⟨1, 0, 0⟩, ⟨4, 0, 0⟩, ⟨5, 1, 0⟩]) hbx (by simp [maxLen]))
            obtain ⟨gt, hgt⟩ : ∃ gt, X29.heap.size = gt := ⟨_, rfl⟩
            rw [hgt] at RTX30 ⊢
            clear hgt
            rw [← hX30]
            clear bb hX30 hbx
            try dsimp only
            clear hHeld
            refine hK.out _ _ (HS.out _ HKX30.out) (fun hHeld => ?_)
            clear hK K
            try simp only [Act.put, List.setIfInBounds_toArray, List.set_cons_zero, List.set_cons_succ]
            refine wpAnyH_ready (rs := [16]) (by kernel_rfl) (by simp) ?_
            refine AllReadyH.cons rfl (fun K hK => ?_) (AllReadyH.nil)
            go_simp
            go_at_call 12
            refine (c_irSame A9 c9 [⟨1, 0, 0⟩, ⟨4, 0, 0⟩, ⟨5, 1, 0⟩] (some ⟨gt, 0, none⟩) 3 [⟨1, 0, 0⟩, ⟨4, 0, 0⟩, ⟨5, 1, 0⟩] true (by decide) X30 R8X30.out RTX30.out).mono ?_
            rintro e X31 ⟨rfl, bb⟩
            have HKX31 := Lib.hid (below_join HKX30.out bb HKX30.out.size)
            clear bb
            try dsimp only
            clear hHeld
            refine hK.out _ _ (HS.out _ HKX31.out) (fun hHeld => ?_)
            clear hK K
            try simp only [Act.put, List.setIfInBounds_toArray, List.set_cons_zero, List.set_cons_succ]
            refine takeH (i := 17) 24 (v := ?_) rfl rfl (by kernel_rfl) (by kernel_rfl) (by kernel_rfl) (fun _ _ _ h => h) (by rfl) ?_ hHeld ?_
            rotate_left
            · intro X hX; first | (go_simp; done) | (go_simp; with_reducible rfl)
            try simp only [Act.put, List.setIfInBounds_toArray, List.set_cons_zero, List.set_cons_succ]
            refine takeH (i := 18) 0 (v := ?_) rfl rfl (by kernel_rfl) (by kernel_rfl) (by kernel_rfl) (fun _ _ _ h => h) (by rfl) ?_ hHeld ?_
            rotate_left
            · intro X hX; first | (go_simp; done) | (go_simp; with_reducible rfl)
            try simp only [Act.put, List.setIfInBounds_toArray, List.set_cons_zero, List.set_cons_succ]
            refine wpAnyH_done (by kernel_rfl) ?_ _
            go_wp2_with (fail)
            go_ret
            exact ⟨rfl, below_join HB.out HKX31.out HB.out.size⟩
          · go_simp
            obtain ⟨X32, hX32⟩ : ∃ Y, Y = X28.alloc (.cells #[.int .u8 1, .int .i64 0, .int .i64 0, .int .u8 4, .int .i64 0, .int .i64 0, .int .u8 5, .int .i64 1, .int .i64 0] 44) := ⟨_, rfl⟩
            have bb : Below X28.heap.size X28 X32 := by rw [hX32]; exact (Below.refl _ _).alloc (Nat.le_refl _) _
            have HKX32 := Lib.hid (below_join HKX28.out bb HKX28.out.size)
            have T1X32 := Lib.hid (T1X28.out.on bb (Nat.le_refl _))
            have T2X32 := Lib.hid (T2X28.out.on bb (Nat.le_refl _))
            have hbx : X32.heap[X28.heap.size]? = some (.cells #[.int .u8 1, .int .i64 0, .int .i64 0, .int .u8 4, .int .i64 0, .int .i64 0, .int .u8 5, .int .i64 1, .int .i64 0] 44 (0, 0)) := by rw [hX32]; exact box_new _ _ _
            have RTX32 := Lib.hid (rv_block (k := 3) (F := bnF) (l := [⟨1, 0, 0⟩, ⟨4, 0, 0⟩, ⟨5, 1, 0⟩]) hbx (by simp [maxLen]))
            obtain ⟨gt, hgt⟩ : ∃ gt, X28.heap.size = gt := ⟨_, rfl⟩
            rw [hgt] at RTX32 ⊢
            clear hgt
            rw [← hX32]
            clear bb hX32 hbx
            try dsimp only
            clear hHeld
            refine hK.out _ _ (HS.out _ HKX32.out) (fun hHeld => ?_)
            clear hK K
            try simp only [Act.put, List.setIfInBounds_toArray, List.set_cons_zero, List.set_cons_succ]
            refine wpAnyH_ready (rs := [11]) (by kernel_rfl) (by simp) ?_
            refine AllReadyH.cons rfl (fun K hK => ?_) (AllReadyH.nil)
            go_simp
            go_at_call 13
            refine (c_Broken ⟨p2, exD, A2, c2, wxs b2, q2, W2⟩ true ⟨fun _ => ok2, fun _ => rfl⟩ [⟨1, 0, 0⟩, ⟨4, 0, 0⟩, ⟨5, 1, 0⟩] br2 X32 ⟨T1X32.out, T2X32.out, HW.out _ HKX32.out⟩).mono ?_
            rintro e X33 ⟨A9, c9, rfl, h1, bb⟩
            have HKX33 := Lib.hid (below_join HKX32.out bb HKX32.out.size)
            have RTX33 := Lib.hid (RTX32.out.on bb (Nat.le_refl _))
            have R8X33 := Lib.hid h1
            clear h1
            clear bb
            try dsimp only
            clear hHeld
            refine hK.out _ _ (HS.out _ HKX33.out) (fun hHeld => ?_)
            clear hK K
            try simp only [Act.put, List.setIfInBounds_toArray, List.set_cons_zero, List.set_cons_succ]
            refine wpAnyH_ready (rs := [16]) (by kernel_rfl) (by simp) ?_
            refine AllReadyH.cons rfl (fun K hK => ?_) (AllReadyH.nil)
            go_simp
            go_at_call 12
            refine (c_irSame A9 c9 [⟨1, 0, 0⟩, ⟨4, 0, 0⟩, ⟨5, 1, 0⟩] (some ⟨gt, 0, none⟩) 3 [⟨1, 0, 0⟩, ⟨4, 0, 0⟩, ⟨5, 1, 0⟩] true (by decide) X33 R8X33.out RTX33.out).mono ?_
            rintro e X34 ⟨rfl, bb⟩
            have HKX34 := Lib.hid (below_join HKX33.out bb HKX33.out.size)
            clear bb
            try dsimp only
            clear hHeld
            refine hK.out _ _ (HS.out _ HKX34.out) (fun hHeld => ?_)
            clear hK K
            try simp only [Act.put, List.setIfInBounds_toArray, List.set_cons_zero, List.set_cons_succ]
            refine takeH (i := 17) 24 (v := ?_) rfl rfl (by kernel_rfl) (by kernel_rfl) (by kernel_rfl) (fun _ _ _ h => h) (by rfl) ?_ hHeld ?_
            rotate_left
            · intro X hX; first | (go_simp; done) | (go_simp; with_reducible rfl)
            try simp only [Act.put, List.setIfInBounds_toArray, List.set_cons_zero, List.set_cons_succ]
            refine takeH (i := 18) 0 (v := ?_) rfl rfl (by kernel_rfl) (by kernel_rfl) (by kernel_rfl) (fun _ _ _ h => h) (by rfl) ?_ hHeld ?_
            rotate_left
            · intro X hX; first | (go_simp; done) | (go_simp; with_reducible rfl)
            try simp only [Act.put, List.setIfInBounds_toArray, List.set_cons_zero, List.set_cons_succ]
            refine wpAnyH_done (by kernel_rfl) ?_ _
            go_wp2_with (fail)
            go_ret
            exact ⟨rfl, below_join HB.out HKX34.out HB.out.size⟩
        · go_simp
          obtain ⟨X35, hX35⟩ : ∃ Y, Y = X27.alloc (.cells #[.int .u8 1, .int .i64 0, .int .i64 0, .int .u8 4, .int .i64 0, .int .i64 0, .int .u8 5, .int .i64 1, .int .i64 0] 44) := ⟨_, rfl⟩
          have bb : Below X27.heap.size X27 X35 := by rw [hX35]; exact (Below.refl _ _).alloc (Nat.le_refl _) _
          have HKX35 := Lib.hid (below_join HKX27.out bb HKX27.out.size)
          have T1X35 := Lib.hid (T1X27.out.on bb (Nat.le_refl _))
          have hbx : X35.heap[X27.heap.size]? = some (.cells #[.int .u8 1, .int .i64 0, .int .i64 0, .int .u8 4, .int .i64 0, .int .i64 0, .int .u8 5, .int .i64 1, .int .i64 0] 44 (0, 0)) := by rw [hX35]; exact box_new _ _ _
          have RTX35 := Lib.hid (rv_block (k := 3) (F := bnF) (l := [⟨1, 0, 0⟩, ⟨4, 0, 0⟩, ⟨5, 1, 0⟩]) hbx (by simp [maxLen]))
          obtain ⟨gt, hgt⟩ : ∃ gt, X27.heap.size = gt := ⟨_, rfl⟩
          rw [hgt] at RTX35 ⊢
          clear hgt
          rw [← hX35]
          clear bb hX35 hbx
          try dsimp only
          clear hHeld
          refine hK.out _ _ (HS.out _ HKX35.out) (fun hHeld => ?_)
          clear hK K
          try simp only [Act.put, List.setIfInBounds_toArray, List.set_cons_zero, List.set_cons_succ]
          refine wpAnyH_ready (rs := [9]) (by kernel_rfl) (by simp) ?_
          refine AllReadyH.cons rfl (fun K hK => ?_) (AllReadyH.nil)
          go_simp
          go_at_call 26
          refine (c_wishTo X35).mono ?_
          rintro e X36 ⟨A2, c2, b2, rfl, h1, bb⟩
          have HKX36 := Lib.hid (below_join HKX35.out bb HKX35.out.size)
          have T1X36 := Lib.hid (T1X35.out.on bb (Nat.le_refl _))
          have RTX36 := Lib.hid (RTX35.out.on bb (Nat.le_refl _))
          have T2X36 := Lib.hid h1
          clear h1
          clear bb
          try dsimp only
          clear hHeld
          refine hK.out _ _ (HS.out _ HKX36.out) (fun hHeld => ?_)
          clear hK K
          try simp only [Act.put, List.setIfInBounds_toArray, List.set_cons_zero, List.set_cons_succ]
          refine wpAnyH_ready (rs := [11]) (by kernel_rfl) (by simp) ?_
          refine AllReadyH.cons rfl (fun K hK => ?_) (AllReadyH.nil)
          go_simp
          go_at_call 13
          refine (c_Broken ⟨p2, exD, A2, c2, wxs b2, q2, W2⟩ true ⟨fun _ => ok2, fun _ => rfl⟩ [⟨1, 0, 0⟩, ⟨4, 0, 0⟩, ⟨5, 1, 0⟩] br2 X36 ⟨T1X36.out, T2X36.out, HW.out _ HKX36.out⟩).mono ?_
          rintro e X37 ⟨A9, c9, rfl, h1, bb⟩
          have HKX37 := Lib.hid (below_join HKX36.out bb HKX36.out.size)
          have RTX37 := Lib.hid (RTX36.out.on bb (Nat.le_refl _))
          have R8X37 := Lib.hid h1
          clear h1
          clear bb
          try dsimp only
          clear hHeld
          refine hK.out _ _ (HS.out _ HKX37.out) (fun hHeld => ?_)
          clear hK K
          try simp only [Act.put, List.setIfInBounds_toArray, List.set_cons_zero, List.set_cons_succ]
          refine wpAnyH_ready (rs := [16]) (by kernel_rfl) (by simp) ?_
          refine AllReadyH.cons rfl (fun K hK => ?_) (AllReadyH.nil)
          go_simp
          go_at_call 12
          refine (c_irSame A9 c9 [⟨1, 0, 0⟩, ⟨4, 0, 0⟩, ⟨5, 1, 0⟩] (some ⟨gt, 0, none⟩) 3 [⟨1, 0, 0⟩, ⟨4, 0, 0⟩, ⟨5, 1, 0⟩] true (by decide) X37 R8X37.out RTX37.out).mono ?_
          rintro e X38 ⟨rfl, bb⟩
          have HKX38 := Lib.hid (below_join HKX37.out bb HKX37.out.size)
          clear bb
          try dsimp only
          clear hHeld
          refine hK.out _ _ (HS.out _ HKX38.out) (fun hHeld => ?_)
          clear hK K
          try simp only [Act.put, List.setIfInBounds_toArray, List.set_cons_zero, List.set_cons_succ]
          refine takeH (i := 17) 24 (v := ?_) rfl rfl (by kernel_rfl) (by kernel_rfl) (by kernel_rfl) (fun _ _ _ h => h) (by rfl) ?_ hHeld ?_
          rotate_left
          · intro X hX; first | (go_simp; done) | (go_simp; with_reducible rfl)
          try simp only [Act.put, List.setIfInBounds_toArray, List.set_cons_zero, List.set_cons_succ]
          refine takeH (i := 18) 0 (v := ?_) rfl rfl (by kernel_rfl) (by kernel_rfl) (by kernel_rfl) (fun _ _ _ h => h) (by rfl) ?_ hHeld ?_
          rotate_left
          · intro X hX; first | (go_simp; done) | (go_simp; with_reducible rfl)
          try simp only [Act.put, List.setIfInBounds_toArray, List.set_cons_zero, List.set_cons_succ]
          refine wpAnyH_done (by kernel_rfl) ?_ _
          go_wp2_with (fail)
          go_ret
          exact ⟨rfl, below_join HB.out HKX38.out HB.out.size⟩
      · go_simp
        obtain ⟨X39, hX39⟩ : ∃ Y, Y = X26.alloc (.cells #[.int .u8 1, .int .i64 0, .int .i64 0, .int .u8 4, .int .i64 0, .int .i64 0, .int .u8 5, .int .i64 1, .int .i64 0] 44) := ⟨_, rfl⟩
        have bb : Below X26.heap.size X26 X39 := by rw [hX39]; exact (Below.refl _ _).alloc (Nat.le_refl _) _
        have HKX39 := Lib.hid (below_join HKX26.out bb HKX26.out.size)
        have hbx : X39.heap[X26.heap.size]? = some (.cells #[.int .u8 1, .int .i64 0, .int .i64 0, .int .u8 4, .int .i64 0, .int .i64 0, .int .u8 5, .int .i64 1, .int .i64 0] 44 (0, 0)) := by rw [hX39]; exact box_new _ _ _
        have RTX39 := Lib.hid (rv_block (k := 3) (F := bnF) (l := [⟨1, 0, 0⟩, ⟨4, 0, 0⟩, ⟨5, 1, 0⟩]) hbx (by simp [maxLen]))
        obtain ⟨gt, hgt⟩ : ∃ gt, X26.heap.size = gt := ⟨_, rfl⟩
        rw [hgt] at RTX39 ⊢
        clear hgt
        rw [← hX39]
        clear bb hX39 hbx
        try dsimp only
        clear hHeld
        refine hK.out _ _ (HS.out _ HKX39.out) (fun hHeld => ?_)
        clear hK K
        try simp only [Act.put, List.setIfInBounds_toArray, List.set_cons_zero, List.set_cons_succ]
        refine wpAnyH_ready (rs := [8]) (by kernel_rfl) (by simp) ?_
        refine AllReadyH.cons rfl (fun K hK => ?_) (AllReadyH.nil)
        go_simp
        go_at_call 25
        refine (c_siteTo X39).mono ?_
        rintro e X40 ⟨p2, rfl, h1, bb⟩
        have HKX40 := Lib.hid (below_join HKX39.out bb HKX39.out.size)
        have RTX40 := Lib.hid (RTX39.out.on bb (Nat.le_refl _))
        have T1X40 := Lib.hid h1
        clear h1
        clear bb
        try dsimp only
        clear hHeld
        refine hK.out _ _ (HS.out _ HKX40.out) (fun hHeld => ?_)
        clear hK K
        try simp only [Act.put, List.setIfInBounds_toArray, List.set_cons_zero, List.set_cons_succ]
        refine wpAnyH_ready (rs := [9]) (by kernel_rfl) (by simp) ?_
        refine AllReadyH.cons rfl (fun K hK => ?_) (AllReadyH.nil)
        go_simp
        go_at_call 26
        refine (c_wishTo X40).mono ?_
        rintro e X41 ⟨A2, c2, b2, rfl, h1, bb⟩
        have HKX41 := Lib.hid (below_join HKX40.out bb HKX40.out.size)
        have RTX41 := Lib.hid (RTX40.out.on bb (Nat.le_refl _))
        have T1X41 := Lib.hid (T1X40.out.on bb (Nat.le_refl _))
        have T2X41 := Lib.hid h1
        clear h1
        clear bb
        try dsimp only
        clear hHeld
        refine hK.out _ _ (HS.out _ HKX41.out) (fun hHeld => ?_)
        clear hK K
        try simp only [Act.put, List.setIfInBounds_toArray, List.set_cons_zero, List.set_cons_succ]
        refine wpAnyH_ready (rs := [11]) (by kernel_rfl) (by simp) ?_
        refine AllReadyH.cons rfl (fun K hK => ?_) (AllReadyH.nil)
        go_simp
        go_at_call 13
        refine (c_Broken ⟨p2, exD, A2, c2, wxs b2, q2, W2⟩ true ⟨fun _ => ok2, fun _ => rfl⟩ [⟨1, 0, 0⟩, ⟨4, 0, 0⟩, ⟨5, 1, 0⟩] br2 X41 ⟨T1X41.out, T2X41.out, HW.out _ HKX41.out⟩).mono ?_
        rintro e X42 ⟨A9, c9, rfl, h1, bb⟩
        have HKX42 := Lib.hid (below_join HKX41.out bb HKX41.out.size)
        have RTX42 := Lib.hid (RTX41.out.on bb (Nat.le_refl _))
        have R8X42 := Lib.hid h1
        clear h1
        clear bb
        try dsimp only
        clear hHeld
        refine hK.out _ _ (HS.out _ HKX42.out) (fun hHeld => ?_)
        clear hK K
        try simp only [Act.put, List.setIfInBounds_toArray, List.set_cons_zero, List.set_cons_succ]
        refine wpAnyH_ready (rs := [16]) (by kernel_rfl) (by simp) ?_
        refine AllReadyH.cons rfl (fun K hK => ?_) (AllReadyH.nil)
        go_simp
        go_at_call 12
        refine (c_irSame A9 c9 [⟨1, 0, 0⟩, ⟨4, 0, 0⟩, ⟨5, 1, 0⟩] (some ⟨gt, 0, none⟩) 3 [⟨1, 0, 0⟩, ⟨4, 0, 0⟩, ⟨5, 1, 0⟩] true (by decide) X42 R8X42.out RTX42.out).mono ?_
        rintro e X43 ⟨rfl, bb⟩
        have HKX43 := Lib.hid (below_join HKX42.out bb HKX42.out.size)
        clear bb
        try dsimp only
        clear hHeld
        refine hK.out _ _ (HS.out _ HKX43.out) (fun hHeld => ?_)
        clear hK K
        try simp only [Act.put, List.setIfInBounds_toArray, List.set_cons_zero, List.set_cons_succ]
        refine takeH (i := 17) 24 (v := ?_) rfl rfl (by kernel_rfl) (by kernel_rfl) (by kernel_rfl) (fun _ _ _ h => h) (by rfl) ?_ hHeld ?_
        rotate_left
        · intro X hX; first | (go_simp; done) | (go_simp; with_reducible rfl)
        try simp only [Act.put, List.setIfInBounds_toArray, List.set_cons_zero, List.set_cons_succ]
        refine takeH (i := 18) 0 (v := ?_) rfl rfl (by kernel_rfl) (by kernel_rfl) (by kernel_rfl) (fun _ _ _ h => h) (by rfl) ?_ hHeld ?_
        rotate_left
        · intro X hX; first | (go_simp; done) | (go_simp; with_reducible rfl)
        try simp only [Act.put, List.setIfInBounds_toArray, List.set_cons_zero, List.set_cons_succ]
        refine wpAnyH_done (by kernel_rfl) ?_ _
        go_wp2_with (fail)
        go_ret
        exact ⟨rfl, below_join HB.out HKX43.out HB.out.size⟩
  · go_simp
    obtain ⟨X44, hX44⟩ : ∃ Y, Y = X0.alloc (.cells #[.int .i64 0, .int .i64 0, .int .i64 0, .int .i64 2] 53) := ⟨_, rfl⟩
    have bb : Below X0.heap.size X0 X44 := by rw [hX44]; exact (Below.refl _ _).alloc (Nat.le_refl _) _
    have HKX44 := Lib.hid (below_join HKX0.out bb HKX0.out.size)
    have hbx : X44.heap[X0.heap.size]? = some (.cells #[.int .i64 0, .int .i64 0, .int .i64 0, .int .i64 2] 53 (0, 0)) := by rw [hX44]; exact box_new _ _ _
    have RVX44 := Lib.hid (rv_block (k := 2) (F := repV) (l := W1.reps) hbx (by simp [W1, maxLen]))
    obtain ⟨gs, hgs⟩ : ∃ gs, X0.heap.size = gs := ⟨_, rfl⟩
    rw [hgs] at RVX44 ⊢
    clear hgs
    rw [← hX44]
    clear bb hX44 hbx
    try dsimp only
    clear hHeld
    refine hK.out _ _ (HS.out _ HKX44.out) (fun hHeld => ?_)
    clear hK K
    try simp only [Act.put, List.setIfInBounds_toArray, List.set_cons_zero, List.set_cons_succ]
    refine wpAnyH_ready (rs := [0]) (by kernel_rfl) (by simp) ?_
    refine AllReadyH.cons rfl (fun K hK => ?_) (AllReadyH.nil)
    go_simp
    go_at_call 25
    refine (c_siteTo X44).mono ?_
    rintro e X45 ⟨p, rfl, h1, bb⟩
    have HKX45 := Lib.hid (below_join HKX44.out bb HKX44.out.size)
    have RVX45 := Lib.hid (RVX44.out.on bb (Nat.le_refl _))
    have S1X45 := Lib.hid h1
    clear h1
    clear bb
    try dsimp only
    clear hHeld
    refine hK.out _ _ (HS.out _ HKX45.out) (fun hHeld => ?_)
    clear hK K
    try simp only [Act.put, List.setIfInBounds_toArray, List.set_cons_zero, List.set_cons_succ]
    refine wpAnyH_ready (rs := [1]) (by kernel_rfl) (by simp) ?_
    refine AllReadyH.cons rfl (fun K hK => ?_) (AllReadyH.nil)
    go_simp
    go_at_call 26
    refine (c_wishTo X45).mono ?_
    rintro e X46 ⟨A, c, b, rfl, h1, bb⟩
    have HKX46 := Lib.hid (below_join HKX45.out bb HKX45.out.size)
    have RVX46 := Lib.hid (RVX45.out.on bb (Nat.le_refl _))
    have S1X46 := Lib.hid (S1X45.out.on bb (Nat.le_refl _))
    have S2X46 := Lib.hid h1
    clear h1
    clear bb
    try dsimp only
    clear hHeld
    refine hK.out _ _ (HS.out _ HKX46.out) (fun hHeld => ?_)
    clear hK K
    try simp only [Act.put, List.setIfInBounds_toArray, List.set_cons_zero, List.set_cons_succ]
    refine wpAnyH_ready (rs := [5]) (by kernel_rfl) (by simp) ?_
    refine AllReadyH.cons rfl (fun K hK => ?_) (AllReadyH.nil)
    go_simp
    go_at_call 24
    refine (c_worldN (some ⟨gs, 0, none⟩) 2 W1.reps 2 rfl X46 RVX46.out).mono ?_
    rintro e X47 ⟨q, rfl, h1, bb⟩
    have HKX47 := Lib.hid (below_join HKX46.out bb HKX46.out.size)
    have RVX47 := Lib.hid (RVX46.out.on bb (Nat.le_refl _))
    have S1X47 := Lib.hid (S1X46.out.on bb (Nat.le_refl _))
    have S2X47 := Lib.hid (S2X46.out.on bb (Nat.le_refl _))
    have WQX47 := Lib.hid h1
    clear h1
    clear bb
    try dsimp only
    clear hHeld
    refine hK.out _ _ (HS.out _ HKX47.out) (fun hHeld => ?_)
    clear hK K
    try simp only [Act.put, List.setIfInBounds_toArray, List.set_cons_zero, List.set_cons_succ]
    refine wpAnyH_ready (rs := [6]) (by kernel_rfl) (by simp) ?_
    refine AllReadyH.cons rfl (fun K hK => ?_) (AllReadyH.nil)
    go_simp
    go_at_call 15
    refine (c_ivHolds ⟨p, exD, A, c, wxs b, q, W1⟩ true ⟨fun _ => ok1, fun _ => rfl⟩ [] br1 true rfl X47 ⟨S1X47.out, S2X47.out, WQX47.out⟩).mono ?_
    rintro e X48 ⟨rfl, bb⟩
    have HKX48 := Lib.hid (below_join HKX47.out bb HKX47.out.size)
    clear bb
    try dsimp only
    clear hHeld
    refine hK.out _ _ (HS.out _ HKX48.out) (fun hHeld => ?_)
    clear hK K
    try simp only [Act.put, List.setIfInBounds_toArray, List.set_cons_zero, List.set_cons_succ]
    refine takeH (i := 7) 14 (v := ?_) rfl rfl (by kernel_rfl) (by kernel_rfl) (by kernel_rfl) (fun _ _ _ h => h) (by rfl) ?_ hHeld ?_
    rotate_left
    · intro X hX; first | (go_simp; done) | (go_simp; with_reducible rfl)
    try simp only [Act.put, List.setIfInBounds_toArray, List.set_cons_zero, List.set_cons_succ]
    refine takeH (i := 10) 17 (v := ?_) rfl rfl (by kernel_rfl) (by kernel_rfl) (by kernel_rfl) (fun _ _ _ h => h) (by rfl) ?_ hHeld ?_
    rotate_left
    · intro X hX; obtain ⟨hq0, hq1⟩ := hX; first | (go_simp; done) | (go_simp; with_reducible rfl)
    try simp only [Act.put, List.setIfInBounds_toArray, List.set_cons_zero, List.set_cons_succ]
    refine takeH (i := 12) 19 (v := ?_) rfl rfl (by kernel_rfl) (by kernel_rfl) (by kernel_rfl) (fun _ _ _ h => h) (by rfl) ?_ hHeld ?_
    rotate_left
    · intro X hX; first | (go_simp; done) | (go_simp; with_reducible rfl)
    try simp only [Act.put, List.setIfInBounds_toArray, List.set_cons_zero, List.set_cons_succ]
    refine takeH (i := 13) 20 (v := ?_) rfl rfl (by kernel_rfl) (by kernel_rfl) (by kernel_rfl) (fun _ _ _ h => h) (by rfl) ?_ hHeld ?_
    rotate_left
    · intro X hX; first | (go_simp; done) | (go_simp; with_reducible rfl)
    try simp only [Act.put, List.setIfInBounds_toArray, List.set_cons_zero, List.set_cons_succ]
    refine takeH (i := 14) 21 (v := ?_) rfl rfl (by kernel_rfl) (by kernel_rfl) (by kernel_rfl) (fun _ _ _ h => h) (by rfl) ?_ hHeld ?_
    rotate_left
    · intro X hX; first | (go_simp; done) | (go_simp; with_reducible rfl)
    try simp only [Act.put, List.setIfInBounds_toArray, List.set_cons_zero, List.set_cons_succ]
    refine wpAnyH_ready (rs := [8, 15]) (by kernel_rfl) (by simp) ?_
    refine AllReadyH.cons rfl (fun K hK => ?_) (AllReadyH.cons rfl (fun K hK => ?_) (AllReadyH.nil))
    · go_simp
      go_at_call 25
      refine (c_siteTo X48).mono ?_
      rintro e X49 ⟨p2, rfl, h1, bb⟩
      have HKX49 := Lib.hid (below_join HKX48.out bb HKX48.out.size)
      have T1X49 := Lib.hid h1
      clear h1
      clear bb
      try dsimp only
      clear hHeld
      refine hK.out _ _ (HS.out _ HKX49.out) (fun hHeld => ?_)
      clear hK K
      try simp only [Act.put, List.setIfInBounds_toArray, List.set_cons_zero, List.set_cons_succ]
      refine wpAnyH_ready (rs := [9, 15]) (by kernel_rfl) (by simp) ?_
      refine AllReadyH.cons rfl (fun K hK => ?_) (AllReadyH.cons rfl (fun K hK => ?_) (AllReadyH.nil))
      · go_simp
        go_at_call 26
        refine (c_wishTo X49).mono ?_
        rintro e X50 ⟨A2, c2, b2, rfl, h1, bb⟩
        have HKX50 := Lib.hid (below_join HKX49.out bb HKX49.out.size)
        have T1X50 := Lib.hid (T1X49.out.on bb (Nat.le_refl _))
        have T2X50 := Lib.hid h1
        clear h1
        clear bb
        try dsimp only
        clear hHeld
        refine hK.out _ _ (HS.out _ HKX50.out) (fun hHeld => ?_)
        clear hK K
        try simp only [Act.put, List.setIfInBounds_toArray, List.set_cons_zero, List.set_cons_succ]
        refine wpAnyH_ready (rs := [11, 15]) (by kernel_rfl) (by simp) ?_
        refine AllReadyH.cons rfl (fun K hK => ?_) (AllReadyH.cons rfl (fun K hK => ?_) (AllReadyH.nil))
        · go_simp
          go_at_call 13
          refine (c_Broken ⟨p2, exD, A2, c2, wxs b2, q2, W2⟩ true ⟨fun _ => ok2, fun _ => rfl⟩ [⟨1, 0, 0⟩, ⟨4, 0, 0⟩, ⟨5, 1, 0⟩] br2 X50 ⟨T1X50.out, T2X50.out, HW.out _ HKX50.out⟩).mono ?_
          rintro e X51 ⟨A9, c9, rfl, h1, bb⟩
          have HKX51 := Lib.hid (below_join HKX50.out bb HKX50.out.size)
          have R8X51 := Lib.hid h1
          clear h1
          clear bb
          try dsimp only
          clear hHeld
          refine hK.out _ _ (HS.out _ HKX51.out) (fun hHeld => ?_)
          clear hK K
          try simp only [Act.put, List.setIfInBounds_toArray, List.set_cons_zero, List.set_cons_succ]
          refine wpAnyH_ready (rs := [15]) (by kernel_rfl) (by simp) ?_
          refine AllReadyH.cons rfl (fun K hK => ?_) (AllReadyH.nil)
          go_simp
          obtain ⟨X52, hX52⟩ : ∃ Y, Y = X51.alloc (.cells #[.int .u8 1, .int .i64 0, .int .i64 0, .int .u8 4, .int .i64 0, .int .i64 0, .int .u8 5, .int .i64 1, .int .i64 0] 44) := ⟨_, rfl⟩
          have bb : Below X51.heap.size X51 X52 := by rw [hX52]; exact (Below.refl _ _).alloc (Nat.le_refl _) _
          have HKX52 := Lib.hid (below_join HKX51.out bb HKX51.out.size)
          have R8X52 := Lib.hid (R8X51.out.on bb (Nat.le_refl _))
          have hbx : X52.heap[X51.heap.size]? = some (.cells #[.int .u8 1, .int .i64 0, .int .i64 0, .int .u8 4, .int .i64 0, .int .i64 0, .int .u8 5, .int .i64 1, .int .i64 0] 44 (0, 0)) := by rw [hX52]; exact box_new _ _ _
          have RTX52 := Lib.hid (rv_block (k := 3) (F := bnF) (l := [⟨1, 0, 0⟩, ⟨4, 0, 0⟩, ⟨5, 1, 0⟩]) hbx (by simp [maxLen]))
          obtain ⟨gt, hgt⟩ : ∃ gt, X51.heap.size = gt := ⟨_, rfl⟩
          rw [hgt] at RTX52 ⊢
          clear hgt
          rw [← hX52]
          clear bb hX52 hbx
          try dsimp only
          clear hHeld
          refine hK.out _ _ (HS.out _ HKX52.out) (fun hHeld => ?_)
          clear hK K
          try simp only [Act.put, List.setIfInBounds_toArray, List.set_cons_zero, List.set_cons_succ]
          refine wpAnyH_ready (rs := [16]) (by kernel_rfl) (by simp) ?_
          refine AllReadyH.cons rfl (fun K hK => ?_) (AllReadyH.nil)
          go_simp
          go_at_call 12
          refine (c_irSame A9 c9 [⟨1, 0, 0⟩, ⟨4, 0, 0⟩, ⟨5, 1, 0⟩] (some ⟨gt, 0, none⟩) 3 [⟨1, 0, 0⟩, ⟨4, 0, 0⟩, ⟨5, 1, 0⟩] true (by decide) X52 R8X52.out RTX52.out).mono ?_
          rintro e X53 ⟨rfl, bb⟩
          have HKX53 := Lib.hid (below_join HKX52.out bb HKX52.out.size)
          clear bb
          try dsimp only
          clear hHeld
          refine hK.out _ _ (HS.out _ HKX53.out) (fun hHeld => ?_)
          clear hK K
          try simp only [Act.put, List.setIfInBounds_toArray, List.set_cons_zero, List.set_cons_succ]
          refine takeH (i := 17) 24 (v := ?_) rfl rfl (by kernel_rfl) (by kernel_rfl) (by kernel_rfl) (fun _ _ _ h => h) (by rfl) ?_ hHeld ?_
          rotate_left
          · intro X hX; first | (go_simp; done) | (go_simp; with_reducible rfl)
          try simp only [Act.put, List.setIfInBounds_toArray, List.set_cons_zero, List.set_cons_succ]
          refine takeH (i := 18) 0 (v := ?_) rfl rfl (by kernel_rfl) (by kernel_rfl) (by kernel_rfl) (fun _ _ _ h => h) (by rfl) ?_ hHeld ?_
          rotate_left
          · intro X hX; first | (go_simp; done) | (go_simp; with_reducible rfl)
          try simp only [Act.put, List.setIfInBounds_toArray, List.set_cons_zero, List.set_cons_succ]
          refine wpAnyH_done (by kernel_rfl) ?_ _
          go_wp2_with (fail)
          go_ret
          exact ⟨rfl, below_join HB.out HKX53.out HB.out.size⟩
        · go_simp
          obtain ⟨X54, hX54⟩ : ∃ Y, Y = X50.alloc (.cells #[.int .u8 1, .int .i64 0, .int .i64 0, .int .u8 4, .int .i64 0, .int .i64 0, .int .u8 5, .int .i64 1, .int .i64 0] 44) := ⟨_, rfl⟩
          have bb : Below X50.heap.size X50 X54 := by rw [hX54]; exact (Below.refl _ _).alloc (Nat.le_refl _) _
          have HKX54 := Lib.hid (below_join HKX50.out bb HKX50.out.size)
          have T1X54 := Lib.hid (T1X50.out.on bb (Nat.le_refl _))
          have T2X54 := Lib.hid (T2X50.out.on bb (Nat.le_refl _))
          have hbx : X54.heap[X50.heap.size]? = some (.cells #[.int .u8 1, .int .i64 0, .int .i64 0, .int .u8 4, .int .i64 0, .int .i64 0, .int .u8 5, .int .i64 1, .int .i64 0] 44 (0, 0)) := by rw [hX54]; exact box_new _ _ _
          have RTX54 := Lib.hid (rv_block (k := 3) (F := bnF) (l := [⟨1, 0, 0⟩, ⟨4, 0, 0⟩, ⟨5, 1, 0⟩]) hbx (by simp [maxLen]))
          obtain ⟨gt, hgt⟩ : ∃ gt, X50.heap.size = gt := ⟨_, rfl⟩
          rw [hgt] at RTX54 ⊢
          clear hgt
          rw [← hX54]
          clear bb hX54 hbx
          try dsimp only
          clear hHeld
          refine hK.out _ _ (HS.out _ HKX54.out) (fun hHeld => ?_)
          clear hK K
          try simp only [Act.put, List.setIfInBounds_toArray, List.set_cons_zero, List.set_cons_succ]
          refine wpAnyH_ready (rs := [11]) (by kernel_rfl) (by simp) ?_
          refine AllReadyH.cons rfl (fun K hK => ?_) (AllReadyH.nil)
          go_simp
          go_at_call 13
          refine (c_Broken ⟨p2, exD, A2, c2, wxs b2, q2, W2⟩ true ⟨fun _ => ok2, fun _ => rfl⟩ [⟨1, 0, 0⟩, ⟨4, 0, 0⟩, ⟨5, 1, 0⟩] br2 X54 ⟨T1X54.out, T2X54.out, HW.out _ HKX54.out⟩).mono ?_
          rintro e X55 ⟨A9, c9, rfl, h1, bb⟩
          have HKX55 := Lib.hid (below_join HKX54.out bb HKX54.out.size)
          have RTX55 := Lib.hid (RTX54.out.on bb (Nat.le_refl _))
          have R8X55 := Lib.hid h1
          clear h1
          clear bb
          try dsimp only
          clear hHeld
          refine hK.out _ _ (HS.out _ HKX55.out) (fun hHeld => ?_)
          clear hK K
          try simp only [Act.put, List.setIfInBounds_toArray, List.set_cons_zero, List.set_cons_succ]
          refine wpAnyH_ready (rs := [16]) (by kernel_rfl) (by simp) ?_
          refine AllReadyH.cons rfl (fun K hK => ?_) (AllReadyH.nil)
          go_simp
          go_at_call 12
          refine (c_irSame A9 c9 [⟨1, 0, 0⟩, ⟨4, 0, 0⟩, ⟨5, 1, 0⟩] (some ⟨gt, 0, none⟩) 3 [⟨1, 0, 0⟩, ⟨4, 0, 0⟩, ⟨5, 1, 0⟩] true (by decide) X55 R8X55.out RTX55.out).mono ?_
          rintro e X56 ⟨rfl, bb⟩
          have HKX56 := Lib.hid (below_join HKX55.out bb HKX55.out.size)
          clear bb
          try dsimp only
          clear hHeld
          refine hK.out _ _ (HS.out _ HKX56.out) (fun hHeld => ?_)
          clear hK K
          try simp only [Act.put, List.setIfInBounds_toArray, List.set_cons_zero, List.set_cons_succ]
          refine takeH (i := 17) 24 (v := ?_) rfl rfl (by kernel_rfl) (by kernel_rfl) (by kernel_rfl) (fun _ _ _ h => h) (by rfl) ?_ hHeld ?_
          rotate_left
          · intro X hX; first | (go_simp; done) | (go_simp; with_reducible rfl)
          try simp only [Act.put, List.setIfInBounds_toArray, List.set_cons_zero, List.set_cons_succ]
          refine takeH (i := 18) 0 (v := ?_) rfl rfl (by kernel_rfl) (by kernel_rfl) (by kernel_rfl) (fun _ _ _ h => h) (by rfl) ?_ hHeld ?_
          rotate_left
          · intro X hX; first | (go_simp; done) | (go_simp; with_reducible rfl)
          try simp only [Act.put, List.setIfInBounds_toArray, List.set_cons_zero, List.set_cons_succ]
          refine wpAnyH_done (by kernel_rfl) ?_ _
          go_wp2_with (fail)
          go_ret
          exact ⟨rfl, below_join HB.out HKX56.out HB.out.size⟩
      · go_simp
        obtain ⟨X57, hX57⟩ : ∃ Y, Y = X49.alloc (.cells #[.int .u8 1, .int .i64 0, .int .i64 0, .int .u8 4, .int .i64 0, .int .i64 0, .int .u8 5, .int .i64 1, .int .i64 0] 44) := ⟨_, rfl⟩
        have bb : Below X49.heap.size X49 X57 := by rw [hX57]; exact (Below.refl _ _).alloc (Nat.le_refl _) _
        have HKX57 := Lib.hid (below_join HKX49.out bb HKX49.out.size)
        have T1X57 := Lib.hid (T1X49.out.on bb (Nat.le_refl _))
        have hbx : X57.heap[X49.heap.size]? = some (.cells #[.int .u8 1, .int .i64 0, .int .i64 0, .int .u8 4, .int .i64 0, .int .i64 0, .int .u8 5, .int .i64 1, .int .i64 0] 44 (0, 0)) := by rw [hX57]; exact box_new _ _ _
        have RTX57 := Lib.hid (rv_block (k := 3) (F := bnF) (l := [⟨1, 0, 0⟩, ⟨4, 0, 0⟩, ⟨5, 1, 0⟩]) hbx (by simp [maxLen]))
        obtain ⟨gt, hgt⟩ : ∃ gt, X49.heap.size = gt := ⟨_, rfl⟩
        rw [hgt] at RTX57 ⊢
        clear hgt
        rw [← hX57]
        clear bb hX57 hbx
        try dsimp only
        clear hHeld
        refine hK.out _ _ (HS.out _ HKX57.out) (fun hHeld => ?_)
        clear hK K
        try simp only [Act.put, List.setIfInBounds_toArray, List.set_cons_zero, List.set_cons_succ]
        refine wpAnyH_ready (rs := [9]) (by kernel_rfl) (by simp) ?_
        refine AllReadyH.cons rfl (fun K hK => ?_) (AllReadyH.nil)
        go_simp
        go_at_call 26
        refine (c_wishTo X57).mono ?_
        rintro e X58 ⟨A2, c2, b2, rfl, h1, bb⟩
        have HKX58 := Lib.hid (below_join HKX57.out bb HKX57.out.size)
        have T1X58 := Lib.hid (T1X57.out.on bb (Nat.le_refl _))
        have RTX58 := Lib.hid (RTX57.out.on bb (Nat.le_refl _))
        have T2X58 := Lib.hid h1
        clear h1
        clear bb
        try dsimp only
        clear hHeld
        refine hK.out _ _ (HS.out _ HKX58.out) (fun hHeld => ?_)
        clear hK K
        try simp only [Act.put, List.setIfInBounds_toArray, List.set_cons_zero, List.set_cons_succ]
        refine wpAnyH_ready (rs := [11]) (by kernel_rfl) (by simp) ?_
        refine AllReadyH.cons rfl (fun K hK => ?_) (AllReadyH.nil)
        go_simp
        go_at_call 13
        refine (c_Broken ⟨p2, exD, A2, c2, wxs b2, q2, W2⟩ true ⟨fun _ => ok2, fun _ => rfl⟩ [⟨1, 0, 0⟩, ⟨4, 0, 0⟩, ⟨5, 1, 0⟩] br2 X58 ⟨T1X58.out, T2X58.out, HW.out _ HKX58.out⟩).mono ?_
        rintro e X59 ⟨A9, c9, rfl, h1, bb⟩
        have HKX59 := Lib.hid (below_join HKX58.out bb HKX58.out.size)
        have RTX59 := Lib.hid (RTX58.out.on bb (Nat.le_refl _))
        have R8X59 := Lib.hid h1
        clear h1
        clear bb
        try dsimp only
        clear hHeld
        refine hK.out _ _ (HS.out _ HKX59.out) (fun hHeld => ?_)
        clear hK K
        try simp only [Act.put, List.setIfInBounds_toArray, List.set_cons_zero, List.set_cons_succ]
        refine wpAnyH_ready (rs := [16]) (by kernel_rfl) (by simp) ?_
        refine AllReadyH.cons rfl (fun K hK => ?_) (AllReadyH.nil)
        go_simp
        go_at_call 12
        refine (c_irSame A9 c9 [⟨1, 0, 0⟩, ⟨4, 0, 0⟩, ⟨5, 1, 0⟩] (some ⟨gt, 0, none⟩) 3 [⟨1, 0, 0⟩, ⟨4, 0, 0⟩, ⟨5, 1, 0⟩] true (by decide) X59 R8X59.out RTX59.out).mono ?_
        rintro e X60 ⟨rfl, bb⟩
        have HKX60 := Lib.hid (below_join HKX59.out bb HKX59.out.size)
        clear bb
        try dsimp only
        clear hHeld
        refine hK.out _ _ (HS.out _ HKX60.out) (fun hHeld => ?_)
        clear hK K
        try simp only [Act.put, List.setIfInBounds_toArray, List.set_cons_zero, List.set_cons_succ]
        refine takeH (i := 17) 24 (v := ?_) rfl rfl (by kernel_rfl) (by kernel_rfl) (by kernel_rfl) (fun _ _ _ h => h) (by rfl) ?_ hHeld ?_
        rotate_left
        · intro X hX; first | (go_simp; done) | (go_simp; with_reducible rfl)
        try simp only [Act.put, List.setIfInBounds_toArray, List.set_cons_zero, List.set_cons_succ]
        refine takeH (i := 18) 0 (v := ?_) rfl rfl (by kernel_rfl) (by kernel_rfl) (by kernel_rfl) (fun _ _ _ h => h) (by rfl) ?_ hHeld ?_
        rotate_left
        · intro X hX; first | (go_simp; done) | (go_simp; with_reducible rfl)
        try simp only [Act.put, List.setIfInBounds_toArray, List.set_cons_zero, List.set_cons_succ]
        refine wpAnyH_done (by kernel_rfl) ?_ _
        go_wp2_with (fail)
        go_ret
        exact ⟨rfl, below_join HB.out HKX60.out HB.out.size⟩
    · go_simp
      obtain ⟨X61, hX61⟩ : ∃ Y, Y = X48.alloc (.cells #[.int .u8 1, .int .i64 0, .int .i64 0, .int .u8 4, .int .i64 0, .int .i64 0, .int .u8 5, .int .i64 1, .int .i64 0] 44) := ⟨_, rfl⟩
      have bb : Below X48.heap.size X48 X61 := by rw [hX61]; exact (Below.refl _ _).alloc (Nat.le_refl _) _
      have HKX61 := Lib.hid (below_join HKX48.out bb HKX48.out.size)
      have hbx : X61.heap[X48.heap.size]? = some (.cells #[.int .u8 1, .int .i64 0, .int .i64 0, .int .u8 4, .int .i64 0, .int .i64 0, .int .u8 5, .int .i64 1, .int .i64 0] 44 (0, 0)) := by rw [hX61]; exact box_new _ _ _
      have RTX61 := Lib.hid (rv_block (k := 3) (F := bnF) (l := [⟨1, 0, 0⟩, ⟨4, 0, 0⟩, ⟨5, 1, 0⟩]) hbx (by simp [maxLen]))
      obtain ⟨gt, hgt⟩ : ∃ gt, X48.heap.size = gt := ⟨_, rfl⟩
      rw [hgt] at RTX61 ⊢
      clear hgt
      rw [← hX61]
      clear bb hX61 hbx
      try dsimp only
      clear hHeld
      refine hK.out _ _ (HS.out _ HKX61.out) (fun hHeld => ?_)
      clear hK K
      try simp only [Act.put, List.setIfInBounds_toArray, List.set_cons_zero, List.set_cons_succ]
      refine wpAnyH_ready (rs := [8]) (by kernel_rfl) (by simp) ?_
      refine AllReadyH.cons rfl (fun K hK => ?_) (AllReadyH.nil)
      go_simp
      go_at_call 25
      refine (c_siteTo X61).mono ?_
      rintro e X62 ⟨p2, rfl, h1, bb⟩
      have HKX62 := Lib.hid (below_join HKX61.out bb HKX61.out.size)
      have RTX62 := Lib.hid (RTX61.out.on bb (Nat.le_refl _))
      have T1X62 := Lib.hid h1
      clear h1
      clear bb
      try dsimp only
      clear hHeld
      refine hK.out _ _ (HS.out _ HKX62.out) (fun hHeld => ?_)
      clear hK K
      try simp only [Act.put, List.setIfInBounds_toArray, List.set_cons_zero, List.set_cons_succ]
      refine wpAnyH_ready (rs := [9]) (by kernel_rfl) (by simp) ?_
      refine AllReadyH.cons rfl (fun K hK => ?_) (AllReadyH.nil)
      go_simp
      go_at_call 26
      refine (c_wishTo X62).mono ?_
      rintro e X63 ⟨A2, c2, b2, rfl, h1, bb⟩
      have HKX63 := Lib.hid (below_join HKX62.out bb HKX62.out.size)
      have RTX63 := Lib.hid (RTX62.out.on bb (Nat.le_refl _))
      have T1X63 := Lib.hid (T1X62.out.on bb (Nat.le_refl _))
      have T2X63 := Lib.hid h1
      clear h1
      clear bb
      try dsimp only
      clear hHeld
      refine hK.out _ _ (HS.out _ HKX63.out) (fun hHeld => ?_)
      clear hK K
      try simp only [Act.put, List.setIfInBounds_toArray, List.set_cons_zero, List.set_cons_succ]
      refine wpAnyH_ready (rs := [11]) (by kernel_rfl) (by simp) ?_
      refine AllReadyH.cons rfl (fun K hK => ?_) (AllReadyH.nil)
      go_simp
      go_at_call 13
      refine (c_Broken ⟨p2, exD, A2, c2, wxs b2, q2, W2⟩ true ⟨fun _ => ok2, fun _ => rfl⟩ [⟨1, 0, 0⟩, ⟨4, 0, 0⟩, ⟨5, 1, 0⟩] br2 X63 ⟨T1X63.out, T2X63.out, HW.out _ HKX63.out⟩).mono ?_
      rintro e X64 ⟨A9, c9, rfl, h1, bb⟩
      have HKX64 := Lib.hid (below_join HKX63.out bb HKX63.out.size)
      have RTX64 := Lib.hid (RTX63.out.on bb (Nat.le_refl _))
      have R8X64 := Lib.hid h1
      clear h1
      clear bb
      try dsimp only
      clear hHeld
      refine hK.out _ _ (HS.out _ HKX64.out) (fun hHeld => ?_)
      clear hK K
      try simp only [Act.put, List.setIfInBounds_toArray, List.set_cons_zero, List.set_cons_succ]
      refine wpAnyH_ready (rs := [16]) (by kernel_rfl) (by simp) ?_
      refine AllReadyH.cons rfl (fun K hK => ?_) (AllReadyH.nil)
      go_simp
      go_at_call 12
      refine (c_irSame A9 c9 [⟨1, 0, 0⟩, ⟨4, 0, 0⟩, ⟨5, 1, 0⟩] (some ⟨gt, 0, none⟩) 3 [⟨1, 0, 0⟩, ⟨4, 0, 0⟩, ⟨5, 1, 0⟩] true (by decide) X64 R8X64.out RTX64.out).mono ?_
      rintro e X65 ⟨rfl, bb⟩
      have HKX65 := Lib.hid (below_join HKX64.out bb HKX64.out.size)
      clear bb
      try dsimp only
      clear hHeld
      refine hK.out _ _ (HS.out _ HKX65.out) (fun hHeld => ?_)
      clear hK K
      try simp only [Act.put, List.setIfInBounds_toArray, List.set_cons_zero, List.set_cons_succ]
      refine takeH (i := 17) 24 (v := ?_) rfl rfl (by kernel_rfl) (by kernel_rfl) (by kernel_rfl) (fun _ _ _ h => h) (by rfl) ?_ hHeld ?_
      rotate_left
      · intro X hX; first | (go_simp; done) | (go_simp; with_reducible rfl)
      try simp only [Act.put, List.setIfInBounds_toArray, List.set_cons_zero, List.set_cons_succ]
      refine takeH (i := 18) 0 (v := ?_) rfl rfl (by kernel_rfl) (by kernel_rfl) (by kernel_rfl) (fun _ _ _ h => h) (by rfl) ?_ hHeld ?_
      rotate_left
      · intro X hX; first | (go_simp; done) | (go_simp; with_reducible rfl)
      try simp only [Act.put, List.setIfInBounds_toArray, List.set_cons_zero, List.set_cons_succ]
      refine wpAnyH_done (by kernel_rfl) ?_ _
      go_wp2_with (fail)
      go_ret
      exact ⟨rfl, below_join HB.out HKX65.out HB.out.size⟩
end Go.Proofs.YtbbadnlaelgmlaaGreat

namespace Go.Proofs.YtbbadnlaelgmlaaGreat
open Go.RowKit
set_option maxRecDepth 100000
set_option linter.unusedVariables false
set_option linter.unusedSimpArgs false

theorem c_kT (A : Option Addr) (c : Nat) (l : List Bn) (A2 : Option Addr) (c2 : Nat) (m : List Bn) (x : Bn) (b : Bool) (hx : keptX l m = x) (hb : keptB l m = b) (w : World) (h1 : Rv 3 bnF w A c l) (h2 : Rv 3 bnF w A2 c2 m) :
    Calls Tryz.prog 17 #[.slice A l.length c, .slice A2 m.length c2] w fun e w' => e = .returned (.tuple #[.agg #[.int .u8 (x.kind : Int), .int .i64 x.a, .int .i64 x.b], .bool b]) ∧ Below w.heap.size w w' := by subst hx hb; exact c_ivKept A c l A2 c2 m w h1 h2
end Go.Proofs.YtbbadnlaelgmlaaGreat
