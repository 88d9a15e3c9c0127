/-
  The law InvariantKnown (written by gen/inv_QH.py; stage 17).
-/
import Derived.Test.YtbbadnlaelgmlaaGreatPYO4
import Derived.Test.YtbbadnlaelgmlaaGreatPYA2
set_option linter.unusedVariables false
set_option linter.unusedSimpArgs false
namespace Go.Proofs.YtbbadnlaelgmlaaGreat
open Go.RowKit
set_option maxRecDepth 100000
set_option linter.unusedVariables false
set_option linter.unusedSimpArgs false

def zN : Sn := ⟨⟨none, 0, none, 0, none, 0, none, 0, none, 0, none, 0⟩, ⟨[], [], [], [], 0, [], []⟩, none, 0, [], ⟨none, 0, none, 0⟩, ⟨[], []⟩⟩
theorem zN_no : ¬ zN.Ok := fun h => absurd h.1 (by decide +kernel)
theorem zN_at (w : World) : SnAt w zN := ⟨⟨Rw.nil _ _, Rw.nil _ _, Rw.nil _ _, Rw.nil _ _, Rw.nil _ _, Rw.nil _ _⟩, ⟨Rv.nil _, fun x hx => by cases hx⟩, ⟨Rv.nil _, Rv.nil _, by intro h hh; cases hh⟩⟩
set_option maxHeartbeats 8000000 in
theorem c_worldS (A : Option Addr) (c n : Nat) (w : World) : Calls Tryz.prog 24 #[.slice A n c] w fun e w' => e = .returned (.agg #[.slice (some ⟨w.heap.size + 1, 0, none⟩) 3 3, .slice A n c]) ∧ w'.heap[w.heap.size + 1]? = some (.cells (cellsV 2 hstV hz3).toArray 58 (0, 0)) ∧ Below w.heap.size w w' := by
  obtain ⟨i0, hi0, hz0, hz1, hz2⟩ := info_parts hst_info
  obtain ⟨E0, h0⟩ : ∃ X, X = w.alloc (.cells #[.slice none 0 0, .slice none 0 0] 36) := ⟨_, rfl⟩
  have B0 : Below w.heap.size w E0 := by rw [h0]; exact (Below.refl _ _).alloc (Nat.le_refl _) _
  have b0 : E0.heap[w.heap.size]? = some (.cells #[.slice none 0 0, .slice none 0 0] 36 (0, 0)) := by rw [h0]; exact box_new _ _ _
  have HS := Lib.hid (show E0.heap.size = w.heap.size + 1 by rw [h0, World.size_alloc])
  have HB := Lib.hid B0
  have HB0 := Lib.hid b0
  clear B0 b0
  go_enter Tryz.func24, Tryz.ntmps24
  go_wp2_with (at_make; rw [← h0]; refine wpList_make_full (P := Tryz.prog) _ rfl _ _ 33 rfl E0.heap.size 58 i0 (.agg #[.int .u8 0, .int .i64 0]) 2 Tryz.underlying33 hi0 hz0 hz1 .i64 .i64 _ _ 3 rfl rfl rfl rfl (by rw [hz2]; decide) (by decide) (Nat.le_refl _) ?_; intro w1 ho1 hg1; have HR1 := Lib.hid (own_cur2 ho1); have HKY := Lib.hid ((Below.refl E0.heap.size E0).grown hg1 (Nat.le_refl _) (fun k hk => by cases hk)); have v0 : w1.cell? ⟨w.heap.size, 0, none⟩ = some (.slice none 0 0) := cell_of (box_on HB0.out HKY.out (Nat.le_refl _)) rfl; have v1 : w1.cell? ⟨w.heap.size, 1, none⟩ = some (.slice none 0 0) := cell_of (box_on HB0.out HKY.out (Nat.le_refl _)) rfl; have u0 : w1.frozen? ⟨w.heap.size, 0, none⟩ = false := frz0 (box_on HB0.out HKY.out (Nat.le_refl _)) 0; have u1 : w1.frozen? ⟨w.heap.size, 1, none⟩ = false := frz0 (box_on HB0.out HKY.out (Nat.le_refl _)) 1; clear ho1 hg1)
  have e1 := HS.out
  have e2 := HKY.out.size
  have hrow : w1.heap[w.heap.size + 1]? = some (.cells (cellsV 2 hstV hz3).toArray 58 (0, 0)) := by
    have h := HR1.out
    rw [made3, e1] at h
    exact h
  refine ret2w (i := 2) (b := w.heap.size) rfl rfl rfl (row_store2 (box_on HB0.out HKY.out (Nat.le_refl _)) _ _) ⟨by first | rfl | (rw [e1]; rfl), ?_, ?_⟩
  · try rw [e1]
    exact set_else (set_else hrow (by omega)) (by omega)
  · try rw [e1]
    exact ((HB.out.trans (HKY.out.mono HB.out.size)).setCell (p := ⟨w.heap.size, 0, none⟩) (Nat.le_refl _) _).setCell (p := ⟨w.heap.size, 1, none⟩) (Nat.le_refl _) _
theorem kn_kept : keptX [⟨3, 0, 0⟩] [⟨3, 0, 0⟩, ⟨10, 1, 0⟩] = ⟨10, 1, 0⟩ ∧ keptB [⟨3, 0, 0⟩] [⟨3, 0, 0⟩, ⟨10, 1, 0⟩] = false := by decide
set_option maxHeartbeats 64000000 in
theorem row_InvariantKnown (w : World) : Calls Tryz.prog 9 #[] w fun e w' => e = .returned (.bool true) ∧ Below w.heap.size w w' := by
  have hneq := fun (W2 : World) => (by rw [neqBn]; rfl : (binOp .neq 44 (.agg #[.int .u8 10, .int .i64 1, .int .i64 0]) (.agg #[.int .u8 10, .int .i64 1, .int .i64 0])).run Tryz.prog W2 = .ok (.bool false) W2)
  have hgd := guardBn
  obtain ⟨E1, h1⟩ : ∃ X, X = w.alloc (.cells #[.int .i64 0, .int .i64 0] 53) := ⟨_, rfl⟩
  have B1 : Below w.heap.size w E1 := by rw [h1]; exact (Below.refl _ _).alloc (Nat.le_refl _) _
  have g1 : E1.heap[w.heap.size]? = some (.cells #[.int .i64 0, .int .i64 0] 53 (0, 0)) := by rw [h1]; exact box_new _ _ _
  have z1 : E1.heap.size = w.heap.size + 1 := by rw [h1, World.size_alloc]
  have HB1 := Lib.hid B1
  have HG1 := Lib.hid g1
  have HZ1 := Lib.hid z1
  clear B1 g1 z1
  go_enter Tryz.func9, Tryz.ntmps9
  go_wp2_with (fail)
  rw [← h1]
  clear h1
  go_at_call 24
  refine (c_worldS (some ⟨w.heap.size, 0, none⟩) 1 1 E1).mono ?_
  rintro e v1 ⟨rfl, hrow, bb⟩
  obtain ⟨gh, hgh⟩ : ∃ g, E1.heap.size + 1 = g := ⟨_, rfl⟩
  rw [hgh] at hrow ⊢
  have hghw : w.heap.size < gh := by have := HZ1.out; omega
  have hgv := at_lt hrow
  obtain ⟨V, hV⟩ : ∃ X, X = v1.alloc (.cells #[.slice (some ⟨gh, 0, none⟩) 3 3, .slice (some ⟨w.heap.size, 0, none⟩) 1 1] 36) := ⟨_, rfl⟩
  have bV : Below v1.heap.size v1 V := by rw [hV]; exact (Below.refl _ _).alloc (Nat.le_refl _) _
  have HBV := Lib.hid (below_join (below_join HB1.out bb HB1.out.size) bV (Nat.le_trans HB1.out.size bb.size))
  have hbx : V.heap[v1.heap.size]? = some (.cells #[.slice (some ⟨gh, 0, none⟩) 3 3, .slice (some ⟨w.heap.size, 0, none⟩) 1 1] 36 (0, 0)) := by rw [hV]; exact box_new _ _ _
  have HRW := Lib.hid (box_on hrow bV (Nat.le_refl _))
  have HRP := Lib.hid (box_on (box_on HG1.out bb (Nat.le_refl _)) bV (Nat.le_refl _))
  have HBX := Lib.hid hbx
  obtain ⟨gb, hgb⟩ : ∃ g, v1.heap.size = g := ⟨_, rfl⟩
  have hgbh : gh < gb := by omega
  rw [hgb] at HBX
  obtain ⟨Y, hY⟩ : ∃ Y, V.setCell ⟨gh, 0, none⟩ (.int .u8 3) = Y := ⟨_, rfl⟩
  have HBY := Lib.hid (show Below w.heap.size w Y by rw [← hY]; exact HBV.out.setCell (p := ⟨gh, 0, none⟩) (by show w.heap.size ≤ gh; omega) _)
  have HYB := Lib.hid (show Y.heap[gb]? = some (.cells #[.slice (some ⟨gh, 0, none⟩) 3 3, .slice (some ⟨w.heap.size, 0, none⟩) 1 1] 36 (0, 0)) by rw [← hY]; exact set_else HBX.out (by omega))
  have HYW := Lib.hid (show WoAt Y ⟨some ⟨gh, 0, none⟩, 3, some ⟨w.heap.size, 0, none⟩, 1⟩ W3 by
    rw [← hY]
    exact ⟨rv_block (l := W3.hosts) (set_field HRW.out (.int .u8 3)) (by simp [W3, maxLen]), rv_block (l := W3.reps) (set_else HRP.out (by omega)) (by simp [W3, maxLen]), (show ∀ h ∈ W3.hosts, h.phase < 256 by decide)⟩)
  have b0 : V.cell? ⟨gb, 0, none⟩ = some (.slice (some ⟨gh, 0, none⟩) 3 3) := cell_of HBX.out rfl
  have b1 : V.cell? ⟨gb, 1, none⟩ = some (.slice (some ⟨w.heap.size, 0, none⟩) 1 1) := cell_of HBX.out rfl
  have x0 : V.cell? ⟨gh, 0, none⟩ = some (.int .u8 0) := cell_of HRW.out rfl
  have xf := frz0 HRW.out 0
  obtain ⟨Y1, hY1⟩ : ∃ X, X = (Y.alloc (.cells #[.int .u8 3, .int .i64 0, .int .i64 0] 44)).alloc (.cells #[.int .u8 3, .int .i64 0, .int .i64 0, .int .u8 10, .int .i64 1, .int .i64 0] 44) := ⟨_, rfl⟩
  have bY1 : Below Y.heap.size Y Y1 := by rw [hY1]; exact ((Below.refl _ _).alloc (Nat.le_refl _) _).alloc (by simp [World.size_alloc]) _
  have R1 := Lib.hid (show Rv 3 bnF Y1 (some ⟨Y.heap.size, 0, none⟩) 1 [⟨3, 0, 0⟩] from rv_block (k := 3) (F := bnF) (l := [⟨3, 0, 0⟩]) (by rw [hY1]; exact old_heap _ (box_new _ _ _)) (by simp [maxLen]))
  have R2 := Lib.hid (show Rv 3 bnF Y1 (some ⟨Y.heap.size + 1, 0, none⟩) 2 [⟨3, 0, 0⟩, ⟨10, 1, 0⟩] from rv_block (k := 3) (F := bnF) (l := [⟨3, 0, 0⟩, ⟨10, 1, 0⟩]) (by
    have := box_new (Y.alloc (.cells #[.int .u8 3, .int .i64 0, .int .i64 0] 44)) #[.int .u8 3, .int .i64 0, .int .i64 0, .int .u8 10, .int .i64 1, .int .i64 0] 44
    rw [World.size_alloc] at this
    rw [hY1]; exact this) (by simp [maxLen]))
  have HYY := Lib.hid bY1
  clear bb hrow bV hbx bY1
  rw [hV] at b0 b1 x0 xf hY
  have hzv : v1.heap.size = gb := hgb
  go_wp2_with (fail)
  rw [← hY1]
  clear hY1 b0 b1 x0 xf hY hV hzv
  go_at_call 17
  refine (show Calls Tryz.prog 17 #[.slice (some ⟨Y.heap.size, 0, none⟩) 1 1, .slice (some ⟨Y.heap.size + 1, 0, none⟩) 2 2] Y1 fun e w' => e = .returned (.tuple #[.agg #[.int .u8 10, .int .i64 1, .int .i64 0], .bool false]) ∧ Below Y1.heap.size Y1 w' from c_kT (some ⟨Y.heap.size, 0, none⟩) 1 [⟨3, 0, 0⟩] (some ⟨Y.heap.size + 1, 0, none⟩) 2 [⟨3, 0, 0⟩, ⟨10, 1, 0⟩] ⟨10, 1, 0⟩ false kn_kept.1 kn_kept.2 Y1 R1.out R2.out).mono ?_
  rintro e v2 ⟨rfl, bb⟩
  have HY2 := Lib.hid (below_join HYY.out bb HYY.out.size)
  obtain ⟨X0, hX0⟩ : ∃ X, X = v2.alloc (.cells #[.int .u8 10, .int .i64 1, .int .i64 0] 44) := ⟨_, rfl⟩
  have bX : Below v2.heap.size v2 X0 := by rw [hX0]; exact (Below.refl _ _).alloc (Nat.le_refl _) _
  have HY3 := Lib.hid (below_join HY2.out bX HY2.out.size)
  have HB := Lib.hid (below_join HBY.out HY3.out HBY.out.size)
  have hbb : X0.heap[v2.heap.size]? = some (.cells #[.int .u8 10, .int .i64 1, .int .i64 0] 44 (0, 0)) := by rw [hX0]; exact box_new _ _ _
  have c0 : X0.cell? ⟨v2.heap.size, 0, none⟩ = some (.int .u8 10) := cell_of hbb rfl
  have c1 : X0.cell? ⟨v2.heap.size, 1, none⟩ = some (.int .i64 1) := cell_of hbb rfl
  have c2 : X0.cell? ⟨v2.heap.size, 2, none⟩ = some (.int .i64 0) := cell_of hbb rfl
  obtain ⟨qw, hqw⟩ : ∃ q : WP, (⟨some ⟨gh, 0, none⟩, 3, some ⟨w.heap.size, 0, none⟩, 1⟩ : WP) = q := ⟨_, rfl⟩
  have HXB := Lib.hid (show X0.heap[gb]? = some (.cells #[.slice qw.a1 3 qw.c1, .slice qw.a2 1 qw.c2] 36 (0, 0)) by rw [← hqw]; exact box_on HYB.out HY3.out (Nat.le_refl _))
  have HXW := Lib.hid (show WoAt X0 qw W3 by rw [← hqw]; exact HYW.out.on HY3.out (Nat.le_refl _))
  have HW := Lib.hid (fun (X : World) (hX : Below X0.heap.size X0 X) => (HXW.out.on hX (Nat.le_refl _) : WoAt X qw W3))
  have HS := Lib.hid (fun (X : World) (hX : Below X0.heap.size X0 X) => (⟨cell_of (box_on HXB.out hX (Nat.le_refl _)) rfl, cell_of (box_on HXB.out hX (Nat.le_refl _)) rfl⟩ : X.cell? ⟨gb, 0, none⟩ = some (.slice qw.a1 3 qw.c1) ∧ X.cell? ⟨gb, 1, none⟩ = some (.slice qw.a2 1 qw.c2)))
  clear bb bX hbb hqw
  rw [hX0] at c0 c1 c2
  go_wp2_with (fail)
  rw [← hX0]
  clear hX0 c0 c1 c2 hneq hgd
  refine wp_region_held_drew (S := fun X => X.cell? ⟨gb, 0, none⟩ = some (.slice qw.a1 3 qw.c1) ∧ X.cell? ⟨gb, 1, none⟩ = some (.slice qw.a2 1 qw.c2)) (by kernel_rfl) (HS.out _ (Below.refl _ _).drew) (fun hHeld => ?_)
  have HKXA := Lib.hid (show Below X0.heap.size X0 X0.drew from (Below.refl _ _).drew)
  generalize hXA : X0.drew = XA at *
  clear hXA
  refine takeH (i := 4) 30 (v := ?_) rfl rfl (by kernel_rfl) (by kernel_rfl) (by kernel_rfl) (fun _ _ _ h => h) (by rfl) ?_ hHeld ?_
  rotate_left
  · intro X hX; first | (go_simp; done) | (go_simp; with_reducible rfl)
  try simp only [Act.put, List.setIfInBounds_toArray, List.set_cons_zero, List.set_cons_succ]
  refine wpAnyH_ready (rs := [0, 5]) (by kernel_rfl) (by simp) ?_
  refine AllReadyH.cons rfl (fun K hK => ?_) (AllReadyH.cons rfl (fun K hK => ?_) (AllReadyH.nil))
  · go_simp
    go_at_call 25
    refine (c_siteTo XA).mono ?_
    rintro e X301 ⟨p, rfl, h1, bb⟩
    have HKX301 := Lib.hid (below_join HKXA.out bb HKXA.out.size)
    have S1X301 := Lib.hid h1
    clear h1
    clear bb
    try dsimp only
    clear hHeld
    refine hK.out _ _ (HS.out _ HKX301.out) (fun hHeld => ?_)
    clear hK K
    try simp only [Act.put, List.setIfInBounds_toArray, List.set_cons_zero, List.set_cons_succ]
    refine wpAnyH_ready (rs := [1, 5]) (by kernel_rfl) (by simp) ?_
    refine AllReadyH.cons rfl (fun K hK => ?_) (AllReadyH.cons rfl (fun K hK => ?_) (AllReadyH.nil))
    · go_simp
      go_at_call 26
      refine (c_wishTo X301).mono ?_
      rintro e X302 ⟨A, c, b, rfl, h1, bb⟩
      have HKX302 := Lib.hid (below_join HKX301.out bb HKX301.out.size)
      have S1X302 := Lib.hid (S1X301.out.on bb (Nat.le_refl _))
      have S2X302 := Lib.hid h1
      clear h1
      clear bb
      try dsimp only
      clear hHeld
      refine hK.out _ _ (HS.out _ HKX302.out) (fun hHeld => ?_)
      clear hK K
      try simp only [Act.put, List.setIfInBounds_toArray, List.set_cons_zero, List.set_cons_succ]
      refine wpAnyH_ready (rs := [2, 5]) (by kernel_rfl) (by simp) ?_
      refine AllReadyH.cons rfl (fun K hK => ?_) (AllReadyH.cons rfl (fun K hK => ?_) (AllReadyH.nil))
      · go_simp
        go_at_call 24
        refine (c_worldN none 0 [] 0 rfl X302 (Rv.nil _)).mono ?_
        rintro e X303 ⟨q, rfl, h1, bb⟩
        have HKX303 := Lib.hid (below_join HKX302.out bb HKX302.out.size)
        have S1X303 := Lib.hid (S1X302.out.on bb (Nat.le_refl _))
        have S2X303 := Lib.hid (S2X302.out.on bb (Nat.le_refl _))
        have WQX303 := Lib.hid h1
        clear h1
        clear bb
        try dsimp only
        clear hHeld
        refine hK.out _ _ (HS.out _ HKX303.out) (fun hHeld => ?_)
        clear hK K
        try simp only [Act.put, List.setIfInBounds_toArray, List.set_cons_zero, List.set_cons_succ]
        refine wpAnyH_ready (rs := [3, 5]) (by kernel_rfl) (by simp) ?_
        refine AllReadyH.cons rfl (fun K hK => ?_) (AllReadyH.cons rfl (fun K hK => ?_) (AllReadyH.nil))
        · go_simp
          go_at_call 13
          refine (c_Broken ⟨p, exD, A, c, wxs b, q, W0⟩ true ⟨fun _ => ok0, fun _ => rfl⟩ [⟨3, 0, 0⟩] br0 X303 ⟨S1X303.out, S2X303.out, WQX303.out⟩).mono ?_
          rintro e X304 ⟨A8, c8, rfl, h1, bb⟩
          have HKX304 := Lib.hid (below_join HKX303.out bb HKX303.out.size)
          have R8X304 := Lib.hid h1
          clear h1
          clear bb
          try dsimp only
          clear hHeld
          refine hK.out _ _ (HS.out _ HKX304.out) (fun hHeld => ?_)
          clear hK K
          try simp only [Act.put, List.setIfInBounds_toArray, List.set_cons_zero, List.set_cons_succ]
          refine wpAnyH_ready (rs := [5]) (by kernel_rfl) (by simp) ?_
          refine AllReadyH.cons rfl (fun K hK => ?_) (AllReadyH.nil)
          go_simp
          obtain ⟨X305, hX305⟩ : ∃ Y, Y = X304.alloc (.cells #[.int .u8 3, .int .i64 0, .int .i64 0] 44) := ⟨_, rfl⟩
          have bb : Below X304.heap.size X304 X305 := by rw [hX305]; exact (Below.refl _ _).alloc (Nat.le_refl _) _
          have HKX305 := Lib.hid (below_join HKX304.out bb HKX304.out.size)
          have R8X305 := Lib.hid (R8X304.out.on bb (Nat.le_refl _))
          have hbx : X305.heap[X304.heap.size]? = some (.cells #[.int .u8 3, .int .i64 0, .int .i64 0] 44 (0, 0)) := by rw [hX305]; exact box_new _ _ _
          have RTX305 := Lib.hid (rv_block (k := 3) (F := bnF) (l := [⟨3, 0, 0⟩]) hbx (by simp [maxLen]))
          obtain ⟨gt, hgt⟩ : ∃ g, X304.heap.size = g := ⟨_, rfl⟩
          rw [hgt] at RTX305 ⊢
          clear hgt
          rw [← hX305]
          clear bb hX305 hbx
          try dsimp only
          clear hHeld
          refine hK.out _ _ (HS.out _ HKX305.out) (fun hHeld => ?_)
          clear hK K
          try simp only [Act.put, List.setIfInBounds_toArray, List.set_cons_zero, List.set_cons_succ]
          as_aux_lemma =>
            refine wpAnyH_ready (rs := [6]) (by kernel_rfl) (by simp) ?_
            refine AllReadyH.cons rfl (fun K hK => ?_) (AllReadyH.nil)
            go_simp
            go_at_call 12
            refine (c_irSame A8 c8 [⟨3, 0, 0⟩] (some ⟨gt, 0, none⟩) 1 [⟨3, 0, 0⟩] true (by decide) X305 R8X305.out RTX305.out).mono ?_
            rintro e X306 ⟨rfl, bb⟩
            have HKX306 := Lib.hid (below_join HKX305.out bb HKX305.out.size)
            clear bb
            try dsimp only
            clear hHeld
            refine hK.out _ _ (HS.out _ HKX306.out) (fun hHeld => ?_)
            clear hK K
            try simp only [Act.put, List.setIfInBounds_toArray, List.set_cons_zero, List.set_cons_succ]
            refine takeH (i := 7) 33 (v := ?_) rfl rfl (by kernel_rfl) (by kernel_rfl) (by kernel_rfl) (fun _ _ _ h => h) (by rfl) ?_ hHeld ?_
            rotate_left
            · intro X hX; first | (go_simp; done) | (go_simp; with_reducible rfl)
            try simp only [Act.put, List.setIfInBounds_toArray, List.set_cons_zero, List.set_cons_succ]
            refine takeH (i := 10) 36 (v := ?_) rfl rfl (by kernel_rfl) (by kernel_rfl) (by kernel_rfl) (fun _ _ _ h => h) (by rfl) ?_ hHeld ?_
            rotate_left
            · intro X hX; obtain ⟨hq0, hq1⟩ := hX; first | (go_simp; done) | (go_simp; with_reducible rfl)
            try simp only [Act.put, List.setIfInBounds_toArray, List.set_cons_zero, List.set_cons_succ]
            refine takeH (i := 12) 38 (v := ?_) rfl rfl (by kernel_rfl) (by kernel_rfl) (by kernel_rfl) (fun _ _ _ h => h) (by rfl) ?_ hHeld ?_
            rotate_left
            · intro X hX; first | (go_simp; done) | (go_simp; with_reducible rfl)
            try simp only [Act.put, List.setIfInBounds_toArray, List.set_cons_zero, List.set_cons_succ]
            as_aux_lemma =>
              refine wpAnyH_ready (rs := [8, 13]) (by kernel_rfl) (by simp) ?_
              refine AllReadyH.cons rfl (fun K hK => ?_) (AllReadyH.cons rfl (fun K hK => ?_) (AllReadyH.nil))
              · go_simp
                go_at_call 25
                refine (c_siteTo X306).mono ?_
                rintro e X307 ⟨p2, rfl, h1, bb⟩
                have HKX307 := Lib.hid (below_join HKX306.out bb HKX306.out.size)
                have T1X307 := Lib.hid h1
                clear h1
                clear bb
                try dsimp only
                clear hHeld
                refine hK.out _ _ (HS.out _ HKX307.out) (fun hHeld => ?_)
                clear hK K
                try simp only [Act.put, List.setIfInBounds_toArray, List.set_cons_zero, List.set_cons_succ]
                refine wpAnyH_ready (rs := [9, 13]) (by kernel_rfl) (by simp) ?_
                refine AllReadyH.cons rfl (fun K hK => ?_) (AllReadyH.cons rfl (fun K hK => ?_) (AllReadyH.nil))
                · go_simp
                  go_at_call 26
                  refine (c_wishTo X307).mono ?_
                  rintro e X308 ⟨A2, c2, b2, rfl, h1, bb⟩
                  have HKX308 := Lib.hid (below_join HKX307.out bb HKX307.out.size)
                  have T1X308 := Lib.hid (T1X307.out.on bb (Nat.le_refl _))
                  have T2X308 := Lib.hid h1
                  clear h1
                  clear bb
                  try dsimp only
                  clear hHeld
                  refine hK.out _ _ (HS.out _ HKX308.out) (fun hHeld => ?_)
                  clear hK K
                  try simp only [Act.put, List.setIfInBounds_toArray, List.set_cons_zero, List.set_cons_succ]
                  refine wpAnyH_ready (rs := [11, 13]) (by kernel_rfl) (by simp) ?_
                  refine AllReadyH.cons rfl (fun K hK => ?_) (AllReadyH.cons rfl (fun K hK => ?_) (AllReadyH.nil))
                  · go_simp
                    go_at_call 13
                    refine (c_Broken ⟨p2, exD, A2, c2, wxs b2, qw, W3⟩ true ⟨fun _ => ok3, fun _ => rfl⟩ [⟨2, 0, 0⟩] br3 X308 ⟨T1X308.out, T2X308.out, HW.out _ HKX308.out⟩).mono ?_
                    rintro e X309 ⟨A9, c9, rfl, h1, bb⟩
                    have HKX309 := Lib.hid (below_join HKX308.out bb HKX308.out.size)
                    have R9X309 := Lib.hid h1
                    clear h1
                    clear bb
                    try dsimp only
                    clear hHeld
                    refine hK.out _ _ (HS.out _ HKX309.out) (fun hHeld => ?_)
                    clear hK K
                    try simp only [Act.put, List.setIfInBounds_toArray, List.set_cons_zero, List.set_cons_succ]
                    refine wpAnyH_ready (rs := [13]) (by kernel_rfl) (by simp) ?_
                    refine AllReadyH.cons rfl (fun K hK => ?_) (AllReadyH.nil)
                    go_simp
                    obtain ⟨X310, hX310⟩ : ∃ Y, Y = X309.alloc (.cells #[.int .u8 2, .int .i64 0, .int .i64 0] 44) := ⟨_, rfl⟩
                    have bb : Below X309.heap.size X309 X310 := by rw [hX310]; exact (Below.refl _ _).alloc (Nat.le_refl _) _
                    have HKX310 := Lib.hid (below_join HKX309.out bb HKX309.out.size)
                    have R9X310 := Lib.hid (R9X309.out.on bb (Nat.le_refl _))
                    have hbx : X310.heap[X309.heap.size]? = some (.cells #[.int .u8 2, .int .i64 0, .int .i64 0] 44 (0, 0)) := by rw [hX310]; exact box_new _ _ _
                    have RUX310 := Lib.hid (rv_block (k := 3) (F := bnF) (l := [⟨2, 0, 0⟩]) hbx (by simp [maxLen]))
                    obtain ⟨gu, hgu⟩ : ∃ g, X309.heap.size = g := ⟨_, rfl⟩
                    rw [hgu] at RUX310 ⊢
                    clear hgu
                    rw [← hX310]
                    clear bb hX310 hbx
                    try dsimp only
                    clear hHeld
                    refine hK.out _ _ (HS.out _ HKX310.out) (fun hHeld => ?_)
                    clear hK K
                    try simp only [Act.put, List.setIfInBounds_toArray, List.set_cons_zero, List.set_cons_succ]
                    as_aux_lemma =>
                      refine wpAnyH_ready (rs := [14]) (by kernel_rfl) (by simp) ?_
                      refine AllReadyH.cons rfl (fun K hK => ?_) (AllReadyH.nil)
                      go_simp
                      go_at_call 12
                      refine (c_irSame A9 c9 [⟨2, 0, 0⟩] (some ⟨gu, 0, none⟩) 1 [⟨2, 0, 0⟩] true (by decide) X310 R9X310.out RUX310.out).mono ?_
                      rintro e X311 ⟨rfl, bb⟩
                      have HKX311 := Lib.hid (below_join HKX310.out bb HKX310.out.size)
                      clear bb
                      try dsimp only
                      clear hHeld
                      refine hK.out _ _ (HS.out _ HKX311.out) (fun hHeld => ?_)
                      clear hK K
                      try simp only [Act.put, List.setIfInBounds_toArray, List.set_cons_zero, List.set_cons_succ]
                      refine takeH (i := 15) 41 (v := ?_) rfl rfl (by kernel_rfl) (by kernel_rfl) (by kernel_rfl) (fun _ _ _ h => h) (by rfl) ?_ hHeld ?_
                      rotate_left
                      · intro X hX; first | (go_simp; done) | (go_simp; with_reducible rfl)
                      try simp only [Act.put, List.setIfInBounds_toArray, List.set_cons_zero, List.set_cons_succ]
                      refine takeH (i := 16) 42 (v := ?_) rfl rfl (by kernel_rfl) (by kernel_rfl) (by kernel_rfl) (fun _ _ _ h => h) (by rfl) ?_ hHeld ?_
                      rotate_left
                      · intro X hX; first | (go_simp; done) | (go_simp; with_reducible rfl)
                      try simp only [Act.put, List.setIfInBounds_toArray, List.set_cons_zero, List.set_cons_succ]
                      refine takeH (i := 17) 43 (v := ?_) rfl rfl (by kernel_rfl) (by kernel_rfl) (by kernel_rfl) (fun _ _ _ h => h) (by rfl) ?_ hHeld ?_
                      rotate_left
                      · intro X hX; first | (go_simp; done) | (go_simp; with_reducible rfl)
                      try simp only [Act.put, List.setIfInBounds_toArray, List.set_cons_zero, List.set_cons_succ]
                      refine takeH (i := 18) 44 (v := ?_) rfl rfl (by kernel_rfl) (by kernel_rfl) (by kernel_rfl) (fun _ _ _ h => h) (by rfl) ?_ hHeld ?_
                      rotate_left
                      · intro X hX; first | (go_simp; done) | (go_simp; with_reducible rfl)
                      try simp only [Act.put, List.setIfInBounds_toArray, List.set_cons_zero, List.set_cons_succ]
                      refine takeH (i := 19) 45 (v := ?_) rfl rfl (by kernel_rfl) (by kernel_rfl) (by kernel_rfl) (fun _ _ _ h => h) (by rfl) ?_ hHeld ?_
                      rotate_left
                      · intro X hX; first | (go_simp; done) | (go_simp; with_reducible rfl)
                      try simp only [Act.put, List.setIfInBounds_toArray, List.set_cons_zero, List.set_cons_succ]
                      refine wpAnyH_ready (rs := [20]) (by kernel_rfl) (by simp) ?_
                      refine AllReadyH.cons rfl (fun K hK => ?_) (AllReadyH.nil)
                      go_simp
                      go_at_call 15
                      refine (c_ivHolds zN false ⟨fun h => (by cases h), fun h => absurd h zN_no⟩ [] rfl false rfl X311 (zN_at X311)).mono ?_
                      rintro e X312 ⟨rfl, bb⟩
                      have HKX312 := Lib.hid (below_join HKX311.out bb HKX311.out.size)
                      clear bb
                      try dsimp only
                      clear hHeld
                      refine hK.out _ _ (HS.out _ HKX312.out) (fun hHeld => ?_)
                      clear hK K
                      try simp only [Act.put, List.setIfInBounds_toArray, List.set_cons_zero, List.set_cons_succ]
                      refine takeH (i := 21) 47 (v := ?_) rfl rfl (by kernel_rfl) (by kernel_rfl) (by kernel_rfl) (fun _ _ _ h => h) (by rfl) ?_ hHeld ?_
                      rotate_left
                      · intro X hX; first | (go_simp; done) | (go_simp; with_reducible rfl)
                      try simp only [Act.put, List.setIfInBounds_toArray, List.set_cons_zero, List.set_cons_succ]
                      refine takeH (i := 22) 48 (v := ?_) rfl rfl (by kernel_rfl) (by kernel_rfl) (by kernel_rfl) (fun _ _ _ h => h) (by rfl) ?_ hHeld ?_
                      rotate_left
                      · intro X hX; first | (go_simp; done) | (go_simp; with_reducible rfl)
                      try simp only [Act.put, List.setIfInBounds_toArray, List.set_cons_zero, List.set_cons_succ]
                      refine takeH (i := 23) 49 (v := ?_) rfl rfl (by kernel_rfl) (by kernel_rfl) (by kernel_rfl) (fun _ _ _ h => h) (by rfl) ?_ hHeld ?_
                      rotate_left
                      · intro X hX; first | (go_simp; done) | (go_simp; with_reducible rfl)
                      try simp only [Act.put, List.setIfInBounds_toArray, List.set_cons_zero, List.set_cons_succ]
                      refine wpAnyH_ready (rs := [24]) (by kernel_rfl) (by simp) ?_
                      refine AllReadyH.cons rfl (fun K hK => ?_) (AllReadyH.nil)
                      go_simp
                      go_at_call 11
                      refine (c_live X312).mono ?_
                      rintro e X313 ⟨rfl, bb⟩
                      have HKX313 := Lib.hid (below_join HKX312.out bb HKX312.out.size)
                      clear bb
                      try dsimp only
                      clear hHeld
                      refine hK.out _ _ (HS.out _ HKX313.out) (fun hHeld => ?_)
                      clear hK K
                      try simp only [Act.put, List.setIfInBounds_toArray, List.set_cons_zero, List.set_cons_succ]
                      refine takeH (i := 25) 51 (v := ?_) rfl rfl (by kernel_rfl) (by kernel_rfl) (by kernel_rfl) (fun _ _ _ h => h) (by rfl) ?_ hHeld ?_
                      rotate_left
                      · intro X hX; first | (go_simp; done) | (go_simp; with_reducible rfl)
                      try simp only [Act.put, List.setIfInBounds_toArray, List.set_cons_zero, List.set_cons_succ]
                      refine takeH (i := 26) 0 (v := ?_) rfl rfl (by kernel_rfl) (by kernel_rfl) (by kernel_rfl) (fun _ _ _ h => h) (by rfl) ?_ hHeld ?_
                      rotate_left
                      · intro X hX; first | (go_simp; done) | (go_simp; with_reducible rfl)
                      try simp only [Act.put, List.setIfInBounds_toArray, List.set_cons_zero, List.set_cons_succ]
                      refine wpAnyH_done (by kernel_rfl) ?_ _
                      go_wp2_with (fail)
                      go_ret
                      exact ⟨rfl, below_join HB.out HKX313.out HB.out.size⟩
                  · go_simp
                    obtain ⟨X314, hX314⟩ : ∃ Y, Y = X308.alloc (.cells #[.int .u8 2, .int .i64 0, .int .i64 0] 44) := ⟨_, rfl⟩
                    have bb : Below X308.heap.size X308 X314 := by rw [hX314]; exact (Below.refl _ _).alloc (Nat.le_refl _) _
                    have HKX314 := Lib.hid (below_join HKX308.out bb HKX308.out.size)
                    have T1X314 := Lib.hid (T1X308.out.on bb (Nat.le_refl _))
                    have T2X314 := Lib.hid (T2X308.out.on bb (Nat.le_refl _))
                    have hbx : X314.heap[X308.heap.size]? = some (.cells #[.int .u8 2, .int .i64 0, .int .i64 0] 44 (0, 0)) := by rw [hX314]; exact box_new _ _ _
                    have RUX314 := Lib.hid (rv_block (k := 3) (F := bnF) (l := [⟨2, 0, 0⟩]) hbx (by simp [maxLen]))
                    obtain ⟨gu, hgu⟩ : ∃ g, X308.heap.size = g := ⟨_, rfl⟩
                    rw [hgu] at RUX314 ⊢
                    clear hgu
                    rw [← hX314]
                    clear bb hX314 hbx
                    try dsimp only
                    clear hHeld
                    refine hK.out _ _ (HS.out _ HKX314.out) (fun hHeld => ?_)
                    clear hK K
                    try simp only [Act.put, List.setIfInBounds_toArray, List.set_cons_zero, List.set_cons_succ]
                    refine wpAnyH_ready (rs := [11]) (by kernel_rfl) (by simp) ?_
                    refine AllReadyH.cons rfl (fun K hK => ?_) (AllReadyH.nil)
                    go_simp
                    go_at_call 13
                    refine (c_Broken ⟨p2, exD, A2, c2, wxs b2, qw, W3⟩ true ⟨fun _ => ok3, fun _ => rfl⟩ [⟨2, 0, 0⟩] br3 X314 ⟨T1X314.out, T2X314.out, HW.out _ HKX314.out⟩).mono ?_
                    rintro e X315 ⟨A9, c9, rfl, h1, bb⟩
                    have HKX315 := Lib.hid (below_join HKX314.out bb HKX314.out.size)
                    have RUX315 := Lib.hid (RUX314.out.on bb (Nat.le_refl _))
                    have R9X315 := Lib.hid h1
                    clear h1
                    clear bb
                    try dsimp only
                    clear hHeld
                    refine hK.out _ _ (HS.out _ HKX315.out) (fun hHeld => ?_)
                    clear hK K
                    try simp only [Act.put, List.setIfInBounds_toArray, List.set_cons_zero, List.set_cons_succ]
                    as_aux_lemma =>
                      refine wpAnyH_ready (rs := [14]) (by kernel_rfl) (by simp) ?_
                      refine AllReadyH.cons rfl (fun K hK => ?_) (AllReadyH.nil)
                      go_simp
                      go_at_call 12
                      refine (c_irSame A9 c9 [⟨2, 0, 0⟩] (some ⟨gu, 0, none⟩) 1 [⟨2, 0, 0⟩] true (by decide) X315 R9X315.out RUX315.out).mono ?_
                      rintro e X316 ⟨rfl, bb⟩
                      have HKX316 := Lib.hid (below_join HKX315.out bb HKX315.out.size)
                      clear bb
                      try dsimp only
                      clear hHeld
                      refine hK.out _ _ (HS.out _ HKX316.out) (fun hHeld => ?_)
                      clear hK K
                      try simp only [Act.put, List.setIfInBounds_toArray, List.set_cons_zero, List.set_cons_succ]
                      refine takeH (i := 15) 41 (v := ?_) rfl rfl (by kernel_rfl) (by kernel_rfl) (by kernel_rfl) (fun _ _ _ h => h) (by rfl) ?_ hHeld ?_
                      rotate_left
                      · intro X hX; first | (go_simp; done) | (go_simp; with_reducible rfl)
                      try simp only [Act.put, List.setIfInBounds_toArray, List.set_cons_zero, List.set_cons_succ]
                      refine takeH (i := 16) 42 (v := ?_) rfl rfl (by kernel_rfl) (by kernel_rfl) (by kernel_rfl) (fun _ _ _ h => h) (by rfl) ?_ hHeld ?_
                      rotate_left
                      · intro X hX; first | (go_simp; done) | (go_simp; with_reducible rfl)
                      try simp only [Act.put, List.setIfInBounds_toArray, List.set_cons_zero, List.set_cons_succ]
                      refine takeH (i := 17) 43 (v := ?_) rfl rfl (by kernel_rfl) (by kernel_rfl) (by kernel_rfl) (fun _ _ _ h => h) (by rfl) ?_ hHeld ?_
                      rotate_left
                      · intro X hX; first | (go_simp; done) | (go_simp; with_reducible rfl)
                      try simp only [Act.put, List.setIfInBounds_toArray, List.set_cons_zero, List.set_cons_succ]
                      refine takeH (i := 18) 44 (v := ?_) rfl rfl (by kernel_rfl) (by kernel_rfl) (by kernel_rfl) (fun _ _ _ h => h) (by rfl) ?_ hHeld ?_
                      rotate_left
                      · intro X hX; first | (go_simp; done) | (go_simp; with_reducible rfl)
                      try simp only [Act.put, List.setIfInBounds_toArray, List.set_cons_zero, List.set_cons_succ]
                      refine takeH (i := 19) 45 (v := ?_) rfl rfl (by kernel_rfl) (by kernel_rfl) (by kernel_rfl) (fun _ _ _ h => h) (by rfl) ?_ hHeld ?_
                      rotate_left
                      · intro X hX; first | (go_simp; done) | (go_simp; with_reducible rfl)
                      try simp only [Act.put, List.setIfInBounds_toArray, List.set_cons_zero, List.set_cons_succ]
                      refine wpAnyH_ready (rs := [20]) (by kernel_rfl) (by simp) ?_
                      refine AllReadyH.cons rfl (fun K hK => ?_) (AllReadyH.nil)
                      go_simp
                      go_at_call 15
                      refine (c_ivHolds zN false ⟨fun h => (by cases h), fun h => absurd h zN_no⟩ [] rfl false rfl X316 (zN_at X316)).mono ?_
                      rintro e X317 ⟨rfl, bb⟩
                      have HKX317 := Lib.hid (below_join HKX316.out bb HKX316.out.size)
                      clear bb
                      try dsimp only
                      clear hHeld
                      refine hK.out _ _ (HS.out _ HKX317.out) (fun hHeld => ?_)
                      clear hK K
                      try simp only [Act.put, List.setIfInBounds_toArray, List.set_cons_zero, List.set_cons_succ]
                      refine takeH (i := 21) 47 (v := ?_) rfl rfl (by kernel_rfl) (by kernel_rfl) (by kernel_rfl) (fun _ _ _ h => h) (by rfl) ?_ hHeld ?_
                      rotate_left
                      · intro X hX; first | (go_simp; done) | (go_simp; with_reducible rfl)
                      try simp only [Act.put, List.setIfInBounds_toArray, List.set_cons_zero, List.set_cons_succ]
                      refine takeH (i := 22) 48 (v := ?_) rfl rfl (by kernel_rfl) (by kernel_rfl) (by kernel_rfl) (fun _ _ _ h => h) (by rfl) ?_ hHeld ?_
                      rotate_left
                      · intro X hX; first | (go_simp; done) | (go_simp; with_reducible rfl)
                      try simp only [Act.put, List.setIfInBounds_toArray, List.set_cons_zero, List.set_cons_succ]
                      refine takeH (i := 23) 49 (v := ?_) rfl rfl (by kernel_rfl) (by kernel_rfl) (by kernel_rfl) (fun _ _ _ h => h) (by rfl) ?_ hHeld ?_
                      rotate_left
                      · intro X hX; first | (go_simp; done) | (go_simp; with_reducible rfl)
                      try simp only [Act.put, List.setIfInBounds_toArray, List.set_cons_zero, List.set_cons_succ]
                      refine wpAnyH_ready (rs := [24]) (by kernel_rfl) (by simp) ?_
                      refine AllReadyH.cons rfl (fun K hK => ?_) (AllReadyH.nil)
                      go_simp
                      go_at_call 11
                      refine (c_live X317).mono ?_
                      rintro e X318 ⟨rfl, bb⟩
                      have HKX318 := Lib.hid (below_join HKX317.out bb HKX317.out.size)
                      clear bb
                      try dsimp only
                      clear hHeld
                      refine hK.out _ _ (HS.out _ HKX318.out) (fun hHeld => ?_)
                      clear hK K
                      try simp only [Act.put, List.setIfInBounds_toArray, List.set_cons_zero, List.set_cons_succ]
                      refine takeH (i := 25) 51 (v := ?_) rfl rfl (by kernel_rfl) (by kernel_rfl) (by kernel_rfl) (fun _ _ _ h => h) (by rfl) ?_ hHeld ?_
                      rotate_left
                      · intro X hX; first | (go_simp; done) | (go_simp; with_reducible rfl)
                      try simp only [Act.put, List.setIfInBounds_toArray, List.set_cons_zero, List.set_cons_succ]
                      refine takeH (i := 26) 0 (v := ?_) rfl rfl (by kernel_rfl) (by kernel_rfl) (by kernel_rfl) (fun _ _ _ h => h) (by rfl) ?_ hHeld ?_
                      rotate_left
                      · intro X hX; first | (go_simp; done) | (go_simp; with_reducible rfl)
                      try simp only [Act.put, List.setIfInBounds_toArray, List.set_cons_zero, List.set_cons_succ]
                      refine wpAnyH_done (by kernel_rfl) ?_ _
                      go_wp2_with (fail)
                      go_ret
                      exact ⟨rfl, below_join HB.out HKX318.out HB.out.size⟩
                · go_simp
                  obtain ⟨X319, hX319⟩ : ∃ Y, Y = X307.alloc (.cells #[.int .u8 2, .int .i64 0, .int .i64 0] 44) := ⟨_, rfl⟩
                  have bb : Below X307.heap.size X307 X319 := by rw [hX319]; exact (Below.refl _ _).alloc (Nat.le_refl _) _
                  have HKX319 := Lib.hid (below_join HKX307.out bb HKX307.out.size)
                  have T1X319 := Lib.hid (T1X307.out.on bb (Nat.le_refl _))
                  have hbx : X319.heap[X307.heap.size]? = some (.cells #[.int .u8 2, .int .i64 0, .int .i64 0] 44 (0, 0)) := by rw [hX319]; exact box_new _ _ _
                  have RUX319 := Lib.hid (rv_block (k := 3) (F := bnF) (l := [⟨2, 0, 0⟩]) hbx (by simp [maxLen]))
                  obtain ⟨gu, hgu⟩ : ∃ g, X307.heap.size = g := ⟨_, rfl⟩
                  rw [hgu] at RUX319 ⊢
                  clear hgu
                  rw [← hX319]
                  clear bb hX319 hbx
                  try dsimp only
                  clear hHeld
                  refine hK.out _ _ (HS.out _ HKX319.out) (fun hHeld => ?_)
                  clear hK K
                  try simp only [Act.put, List.setIfInBounds_toArray, List.set_cons_zero, List.set_cons_succ]
                  refine wpAnyH_ready (rs := [9]) (by kernel_rfl) (by simp) ?_
                  refine AllReadyH.cons rfl (fun K hK => ?_) (AllReadyH.nil)
                  go_simp
                  go_at_call 26
                  refine (c_wishTo X319).mono ?_
                  rintro e X320 ⟨A2, c2, b2, rfl, h1, bb⟩
                  have HKX320 := Lib.hid (below_join HKX319.out bb HKX319.out.size)
                  have T1X320 := Lib.hid (T1X319.out.on bb (Nat.le_refl _))
                  have RUX320 := Lib.hid (RUX319.out.on bb (Nat.le_refl _))
                  have T2X320 := Lib.hid h1
                  clear h1
                  clear bb
                  try dsimp only
                  clear hHeld
                  refine hK.out _ _ (HS.out _ HKX320.out) (fun hHeld => ?_)
                  clear hK K
                  try simp only [Act.put, List.setIfInBounds_toArray, List.set_cons_zero, List.set_cons_succ]
                  refine wpAnyH_ready (rs := [11]) (by kernel_rfl) (by simp) ?_
                  refine AllReadyH.cons rfl (fun K hK => ?_) (AllReadyH.nil)
                  go_simp
                  go_at_call 13
                  refine (c_Broken ⟨p2, exD, A2, c2, wxs b2, qw, W3⟩ true ⟨fun _ => ok3, fun _ => rfl⟩ [⟨2, 0, 0⟩] br3 X320 ⟨T1X320.out, T2X320.out, HW.out _ HKX320.out⟩).mono ?_
                  rintro e X321 ⟨A9, c9, rfl, h1, bb⟩
                  have HKX321 := Lib.hid (below_join HKX320.out bb HKX320.out.size)
                  have RUX321 := Lib.hid (RUX320.out.on bb (Nat.le_refl _))
                  have R9X321 := Lib.hid h1
                  clear h1
                  clear bb
                  try dsimp only
                  clear hHeld
                  refine hK.out _ _ (HS.out _ HKX321.out) (fun hHeld => ?_)
                  clear hK K
                  try simp only [Act.put, List.setIfInBounds_toArray, List.set_cons_zero, List.set_cons_succ]
                  as_aux_lemma =>
                    refine wpAnyH_ready (rs := [14]) (by kernel_rfl) (by simp) ?_
                    refine AllReadyH.cons rfl (fun K hK => ?_) (AllReadyH.nil)
                    go_simp
                    go_at_call 12
                    refine (c_irSame A9 c9 [⟨2, 0, 0⟩] (some ⟨gu, 0, none⟩) 1 [⟨2, 0, 0⟩] true (by decide) X321 R9X321.out RUX321.out).mono ?_
                    rintro e X322 ⟨rfl, bb⟩
                    have HKX322 := Lib.hid (below_join HKX321.out bb HKX321.out.size)
                    clear bb
                    try dsimp only
                    clear hHeld
                    refine hK.out _ _ (HS.out _ HKX322.out) (fun hHeld => ?_)
                    clear hK K
                    try simp only [Act.put, List.setIfInBounds_toArray, List.set_cons_zero, List.set_cons_succ]
                    refine takeH (i := 15) 41 (v := ?_) rfl rfl (by kernel_rfl) (by kernel_rfl) (by kernel_rfl) (fun _ _ _ h => h) (by rfl) ?_ hHeld ?_
                    rotate_left
                    · intro X hX; first | (go_simp; done) | (go_simp; with_reducible rfl)
                    try simp only [Act.put, List.setIfInBounds_toArray, List.set_cons_zero, List.set_cons_succ]
                    refine takeH (i := 16) 42 (v := ?_) rfl rfl (by kernel_rfl) (by kernel_rfl) (by kernel_rfl) (fun _ _ _ h => h) (by rfl) ?_ hHeld ?_
                    rotate_left
                    · intro X hX; first | (go_simp; done) | (go_simp; with_reducible rfl)
                    try simp only [Act.put, List.setIfInBounds_toArray, List.set_cons_zero, List.set_cons_succ]
                    refine takeH (i := 17) 43 (v := ?_) rfl rfl (by kernel_rfl) (by kernel_rfl) (by kernel_rfl) (fun _ _ _ h => h) (by rfl) ?_ hHeld ?_
                    rotate_left
                    · intro X hX; first | (go_simp; done) | (go_simp; with_reducible rfl)
                    try simp only [Act.put, List.setIfInBounds_toArray, List.set_cons_zero, List.set_cons_succ]
                    refine takeH (i := 18) 44 (v := ?_) rfl rfl (by kernel_rfl) (by kernel_rfl) (by kernel_rfl) (fun _ _ _ h => h) (by rfl) ?_ hHeld ?_
                    rotate_left
                    · intro X hX; first | (go_simp; done) | (go_simp; with_reducible rfl)
                    try simp only [Act.put, List.setIfInBounds_toArray, List.set_cons_zero, List.set_cons_succ]
                    refine takeH (i := 19) 45 (v := ?_) rfl rfl (by kernel_rfl) (by kernel_rfl) (by kernel_rfl) (fun _ _ _ h => h) (by rfl) ?_ hHeld ?_
                    rotate_left
                    · intro X hX; first | (go_simp; done) | (go_simp; with_reducible rfl)
                    try simp only [Act.put, List.setIfInBounds_toArray, List.set_cons_zero, List.set_cons_succ]
                    refine wpAnyH_ready (rs := [20]) (by kernel_rfl) (by simp) ?_
                    refine AllReadyH.cons rfl (fun K hK => ?_) (AllReadyH.nil)
                    go_simp
                    go_at_call 15
                    refine (c_ivHolds zN false ⟨fun h => (by cases h), fun h => absurd h zN_no⟩ [] rfl false rfl X322 (zN_at X322)).mono ?_
                    rintro e X323 ⟨rfl, bb⟩
                    have HKX323 := Lib.hid (below_join HKX322.out bb HKX322.out.size)
                    clear bb
                    try dsimp only
                    clear hHeld
                    refine hK.out _ _ (HS.out _ HKX323.out) (fun hHeld => ?_)
                    clear hK K
                    try simp only [Act.put, List.setIfInBounds_toArray, List.set_cons_zero, List.set_cons_succ]
                    refine takeH (i := 21) 47 (v := ?_) rfl rfl (by kernel_rfl) (by kernel_rfl) (by kernel_rfl) (fun _ _ _ h => h) (by rfl) ?_ hHeld ?_
                    rotate_left
                    · intro X hX; first | (go_simp; done) | (go_simp; with_reducible rfl)
                    try simp only [Act.put, List.setIfInBounds_toArray, List.set_cons_zero, List.set_cons_succ]
                    refine takeH (i := 22) 48 (v := ?_) rfl rfl (by kernel_rfl) (by kernel_rfl) (by kernel_rfl) (fun _ _ _ h => h) (by rfl) ?_ hHeld ?_
                    rotate_left
                    · intro X hX; first | (go_simp; done) | (go_simp; with_reducible rfl)
                    try simp only [Act.put, List.setIfInBounds_toArray, List.set_cons_zero, List.set_cons_succ]
                    refine takeH (i := 23) 49 (v := ?_) rfl rfl (by kernel_rfl) (by kernel_rfl) (by kernel_rfl) (fun _ _ _ h => h) (by rfl) ?_ hHeld ?_
                    rotate_left
                    · intro X hX; first | (go_simp; done) | (go_simp; with_reducible rfl)
                    try simp only [Act.put, List.setIfInBounds_toArray, List.set_cons_zero, List.set_cons_succ]
                    refine wpAnyH_ready (rs := [24]) (by kernel_rfl) (by simp) ?_
                    refine AllReadyH.cons rfl (fun K hK => ?_) (AllReadyH.nil)
                    go_simp
                    go_at_call 11
                    refine (c_live X323).mono ?_
                    rintro e X324 ⟨rfl, bb⟩
                    have HKX324 := Lib.hid (below_join HKX323.out bb HKX323.out.size)
                    clear bb
                    try dsimp only
                    clear hHeld
                    refine hK.out _ _ (HS.out _ HKX324.out) (fun hHeld => ?_)
                    clear hK K
                    try simp only [Act.put, List.setIfInBounds_toArray, List.set_cons_zero, List.set_cons_succ]
                    refine takeH (i := 25) 51 (v := ?_) rfl rfl (by kernel_rfl) (by kernel_rfl) (by kernel_rfl) (fun _ _ _ h => h) (by rfl) ?_ hHeld ?_
                    rotate_left
                    · intro X hX; first | (go_simp; done) | (go_simp; with_reducible rfl)
                    try simp only [Act.put, List.setIfInBounds_toArray, List.set_cons_zero, List.set_cons_succ]
                    refine takeH (i := 26) 0 (v := ?_) rfl rfl (by kernel_rfl) (by kernel_rfl) (by kernel_rfl) (fun _ _ _ h => h) (by rfl) ?_ hHeld ?_
                    rotate_left
                    · intro X hX; first | (go_simp; done) | (go_simp; with_reducible rfl)
                    try simp only [Act.put, List.setIfInBounds_toArray, List.set_cons_zero, List.set_cons_succ]
                    refine wpAnyH_done (by kernel_rfl) ?_ _
                    go_wp2_with (fail)
                    go_ret
                    exact ⟨rfl, below_join HB.out HKX324.out HB.out.size⟩
              · go_simp
                obtain ⟨X325, hX325⟩ : ∃ Y, Y = X306.alloc (.cells #[.int .u8 2, .int .i64 0, .int .i64 0] 44) := ⟨_, rfl⟩
                have bb : Below X306.heap.size X306 X325 := by rw [hX325]; exact (Below.refl _ _).alloc (Nat.le_refl _) _
                have HKX325 := Lib.hid (below_join HKX306.out bb HKX306.out.size)
                have hbx : X325.heap[X306.heap.size]? = some (.cells #[.int .u8 2, .int .i64 0, .int .i64 0] 44 (0, 0)) := by rw [hX325]; exact box_new _ _ _
                have RUX325 := Lib.hid (rv_block (k := 3) (F := bnF) (l := [⟨2, 0, 0⟩]) hbx (by simp [maxLen]))
                obtain ⟨gu, hgu⟩ : ∃ g, X306.heap.size = g := ⟨_, rfl⟩
                rw [hgu] at RUX325 ⊢
                clear hgu
                rw [← hX325]
                clear bb hX325 hbx
                try dsimp only
                clear hHeld
                refine hK.out _ _ (HS.out _ HKX325.out) (fun hHeld => ?_)
                clear hK K
                try simp only [Act.put, List.setIfInBounds_toArray, List.set_cons_zero, List.set_cons_succ]
                refine wpAnyH_ready (rs := [8]) (by kernel_rfl) (by simp) ?_
                refine AllReadyH.cons rfl (fun K hK => ?_) (AllReadyH.nil)
                go_simp
                go_at_call 25
                refine (c_siteTo X325).mono ?_
                rintro e X326 ⟨p2, rfl, h1, bb⟩
                have HKX326 := Lib.hid (below_join HKX325.out bb HKX325.out.size)
                have RUX326 := Lib.hid (RUX325.out.on bb (Nat.le_refl _))
                have T1X326 := Lib.hid h1
                clear h1
                clear bb
                try dsimp only
                clear hHeld
                refine hK.out _ _ (HS.out _ HKX326.out) (fun hHeld => ?_)
                clear hK K
                try simp only [Act.put, List.setIfInBounds_toArray, List.set_cons_zero, List.set_cons_succ]
                refine wpAnyH_ready (rs := [9]) (by kernel_rfl) (by simp) ?_
                refine AllReadyH.cons rfl (fun K hK => ?_) (AllReadyH.nil)
                go_simp
                go_at_call 26
                refine (c_wishTo X326).mono ?_
                rintro e X327 ⟨A2, c2, b2, rfl, h1, bb⟩
                have HKX327 := Lib.hid (below_join HKX326.out bb HKX326.out.size)
                have RUX327 := Lib.hid (RUX326.out.on bb (Nat.le_refl _))
                have T1X327 := Lib.hid (T1X326.out.on bb (Nat.le_refl _))
                have T2X327 := Lib.hid h1
                clear h1
                clear bb
                try dsimp only
                clear hHeld
                refine hK.out _ _ (HS.out _ HKX327.out) (fun hHeld => ?_)
                clear hK K
                try simp only [Act.put, List.setIfInBounds_toArray, List.set_cons_zero, List.set_cons_succ]
                refine wpAnyH_ready (rs := [11]) (by kernel_rfl) (by simp) ?_
                refine AllReadyH.cons rfl (fun K hK => ?_) (AllReadyH.nil)
                go_simp
                go_at_call 13
                refine (c_Broken ⟨p2, exD, A2, c2, wxs b2, qw, W3⟩ true ⟨fun _ => ok3, fun _ => rfl⟩ [⟨2, 0, 0⟩] br3 X327 ⟨T1X327.out, T2X327.out, HW.out _ HKX327.out⟩).mono ?_
                rintro e X328 ⟨A9, c9, rfl, h1, bb⟩
                have HKX328 := Lib.hid (below_join HKX327.out bb HKX327.out.size)
                have RUX328 := Lib.hid (RUX327.out.on bb (Nat.le_refl _))
                have R9X328 := Lib.hid h1
                clear h1
                clear bb
                try dsimp only
                clear hHeld
                refine hK.out _ _ (HS.out _ HKX328.out) (fun hHeld => ?_)
                clear hK K
                try simp only [Act.put, List.setIfInBounds_toArray, List.set_cons_zero, List.set_cons_succ]
                as_aux_lemma =>
                  refine wpAnyH_ready (rs := [14]) (by kernel_rfl) (by simp) ?_
                  refine AllReadyH.cons rfl (fun K hK => ?_) (AllReadyH.nil)
                  go_simp
                  go_at_call 12
                  refine (c_irSame A9 c9 [⟨2, 0, 0⟩] (some ⟨gu, 0, none⟩) 1 [⟨2, 0, 0⟩] true (by decide) X328 R9X328.out RUX328.out).mono ?_
                  rintro e X329 ⟨rfl, bb⟩
                  have HKX329 := Lib.hid (below_join HKX328.out bb HKX328.out.size)
                  clear bb
                  try dsimp only
                  clear hHeld
                  refine hK.out _ _ (HS.out _ HKX329.out) (fun hHeld => ?_)
                  clear hK K
                  try simp only [Act.put, List.setIfInBounds_toArray, List.set_cons_zero, List.set_cons_succ]
                  refine takeH (i := 15) 41 (v := ?_) rfl rfl (by kernel_rfl) (by kernel_rfl) (by kernel_rfl) (fun _ _ _ h => h) (by rfl) ?_ hHeld ?_
                  rotate_left
                  · intro X hX; first | (go_simp; done) | (go_simp; with_reducible rfl)
                  try simp only [Act.put, List.setIfInBounds_toArray, List.set_cons_zero, List.set_cons_succ]
                  refine takeH (i := 16) 42 (v := ?_) rfl rfl (by kernel_rfl) (by kernel_rfl) (by kernel_rfl) (fun _ _ _ h => h) (by rfl) ?_ hHeld ?_
                  rotate_left
                  · intro X hX; first | (go_simp; done) | (go_simp; with_reducible rfl)
                  try simp only [Act.put, List.setIfInBounds_toArray, List.set_cons_zero, List.set_cons_succ]
                  refine takeH (i := 17) 43 (v := ?_) rfl rfl (by kernel_rfl) (by kernel_rfl) (by kernel_rfl) (fun _ _ _ h => h) (by rfl) ?_ hHeld ?_
                  rotate_left
                  · intro X hX; first | (go_simp; done) | (go_simp; with_reducible rfl)
                  try simp only [Act.put, List.setIfInBounds_toArray, List.set_cons_zero, List.set_cons_succ]
                  refine takeH (i := 18) 44 (v := ?_) rfl rfl (by kernel_rfl) (by kernel_rfl) (by kernel_rfl) (fun _ _ _ h => h) (by rfl) ?_ hHeld ?_
                  rotate_left
                  · intro X hX; first | (go_simp; done) | (go_simp; with_reducible rfl)
                  try simp only [Act.put, List.setIfInBounds_toArray, List.set_cons_zero, List.set_cons_succ]
                  refine takeH (i := 19) 45 (v := ?_) rfl rfl (by kernel_rfl) (by kernel_rfl) (by kernel_rfl) (fun _ _ _ h => h) (by rfl) ?_ hHeld ?_
                  rotate_left
                  · intro X hX; first | (go_simp; done) | (go_simp; with_reducible rfl)
                  try simp only [Act.put, List.setIfInBounds_toArray, List.set_cons_zero, List.set_cons_succ]
                  refine wpAnyH_ready (rs := [20]) (by kernel_rfl) (by simp) ?_
                  refine AllReadyH.cons rfl (fun K hK => ?_) (AllReadyH.nil)
                  go_simp
                  go_at_call 15
                  refine (c_ivHolds zN false ⟨fun h => (by cases h), fun h => absurd h zN_no⟩ [] rfl false rfl X329 (zN_at X329)).mono ?_
                  rintro e X330 ⟨rfl, bb⟩
                  have HKX330 := Lib.hid (below_join HKX329.out bb HKX329.out.size)
                  clear bb
                  try dsimp only
                  clear hHeld
                  refine hK.out _ _ (HS.out _ HKX330.out) (fun hHeld => ?_)
                  clear hK K
                  try simp only [Act.put, List.setIfInBounds_toArray, List.set_cons_zero, List.set_cons_succ]
                  refine takeH (i := 21) 47 (v := ?_) rfl rfl (by kernel_rfl) (by kernel_rfl) (by kernel_rfl) (fun _ _ _ h => h) (by rfl) ?_ hHeld ?_
                  rotate_left
                  · intro X hX; first | (go_simp; done) | (go_simp; with_reducible rfl)
                  try simp only [Act.put, List.setIfInBounds_toArray, List.set_cons_zero, List.set_cons_succ]
                  refine takeH (i := 22) 48 (v := ?_) rfl rfl (by kernel_rfl) (by kernel_rfl) (by kernel_rfl) (fun _ _ _ h => h) (by rfl) ?_ hHeld ?_
                  rotate_left
                  · intro X hX; first | (go_simp; done) | (go_simp; with_reducible rfl)
                  try simp only [Act.put, List.setIfInBounds_toArray, List.set_cons_zero, List.set_cons_succ]
                  refine takeH (i := 23) 49 (v := ?_) rfl rfl (by kernel_rfl) (by kernel_rfl) (by kernel_rfl) (fun _ _ _ h => h) (by rfl) ?_ hHeld ?_
                  rotate_left
                  · intro X hX; first | (go_simp; done) | (go_simp; with_reducible rfl)
                  try simp only [Act.put, List.setIfInBounds_toArray, List.set_cons_zero, List.set_cons_succ]
                  refine wpAnyH_ready (rs := [24]) (by kernel_rfl) (by simp) ?_
                  refine AllReadyH.cons rfl (fun K hK => ?_) (AllReadyH.nil)
                  go_simp
                  go_at_call 11
                  refine (c_live X330).mono ?_
                  rintro e X331 ⟨rfl, bb⟩
                  have HKX331 := Lib.hid (below_join HKX330.out bb HKX330.out.size)
                  clear bb
                  try dsimp only
                  clear hHeld
                  refine hK.out _ _ (HS.out _ HKX331.out) (fun hHeld => ?_)
                  clear hK K
                  try simp only [Act.put, List.setIfInBounds_toArray, List.set_cons_zero, List.set_cons_succ]
                  refine takeH (i := 25) 51 (v := ?_) rfl rfl (by kernel_rfl) (by kernel_rfl) (by kernel_rfl) (fun _ _ _ h => h) (by rfl) ?_ hHeld ?_
                  rotate_left
                  · intro X hX; first | (go_simp; done) | (go_simp; with_reducible rfl)
                  try simp only [Act.put, List.setIfInBounds_toArray, List.set_cons_zero, List.set_cons_succ]
                  refine takeH (i := 26) 0 (v := ?_) rfl rfl (by kernel_rfl) (by kernel_rfl) (by kernel_rfl) (fun _ _ _ h => h) (by rfl) ?_ hHeld ?_
                  rotate_left
                  · intro X hX; first | (go_simp; done) | (go_simp; with_reducible rfl)
                  try simp only [Act.put, List.setIfInBounds_toArray, List.set_cons_zero, List.set_cons_succ]
                  refine wpAnyH_done (by kernel_rfl) ?_ _
                  go_wp2_with (fail)
                  go_ret
                  exact ⟨rfl, below_join HB.out HKX331.out HB.out.size⟩
        · go_simp
          obtain ⟨X332, hX332⟩ : ∃ Y, Y = X303.alloc (.cells #[.int .u8 3, .int .i64 0, .int .i64 0] 44) := ⟨_, rfl⟩
          have bb : Below X303.heap.size X303 X332 := by rw [hX332]; exact (Below.refl _ _).alloc (Nat.le_refl _) _
          have HKX332 := Lib.hid (below_join HKX303.out bb HKX303.out.size)
          have S1X332 := Lib.hid (S1X303.out.on bb (Nat.le_refl _))
          have S2X332 := Lib.hid (S2X303.out.on bb (Nat.le_refl _))
          have WQX332 := Lib.hid (WQX303.out.on bb (Nat.le_refl _))
          have hbx : X332.heap[X303.heap.size]? = some (.cells #[.int .u8 3, .int .i64 0, .int .i64 0] 44 (0, 0)) := by rw [hX332]; exact box_new _ _ _
          have RTX332 := Lib.hid (rv_block (k := 3) (F := bnF) (l := [⟨3, 0, 0⟩]) hbx (by simp [maxLen]))
          obtain ⟨gt, hgt⟩ : ∃ g, X303.heap.size = g := ⟨_, rfl⟩
          rw [hgt] at RTX332 ⊢
          clear hgt
          rw [← hX332]
          clear bb hX332 hbx
          try dsimp only
          clear hHeld
          refine hK.out _ _ (HS.out _ HKX332.out) (fun hHeld => ?_)
          clear hK K
          try simp only [Act.put, List.setIfInBounds_toArray, List.set_cons_zero, List.set_cons_succ]
          refine wpAnyH_ready (rs := [3]) (by kernel_rfl) (by simp) ?_
          refine AllReadyH.cons rfl (fun K hK => ?_) (AllReadyH.nil)
          go_simp
          go_at_call 13
          refine (c_Broken ⟨p, exD, A, c, wxs b, q, W0⟩ true ⟨fun _ => ok0, fun _ => rfl⟩ [⟨3, 0, 0⟩] br0 X332 ⟨S1X332.out, S2X332.out, WQX332.out⟩).mono ?_
          rintro e X333 ⟨A8, c8, rfl, h1, bb⟩
          have HKX333 := Lib.hid (below_join HKX332.out bb HKX332.out.size)
          have RTX333 := Lib.hid (RTX332.out.on bb (Nat.le_refl _))
          have R8X333 := Lib.hid h1
          clear h1
          clear bb
          try dsimp only
          clear hHeld
          refine hK.out _ _ (HS.out _ HKX333.out) (fun hHeld => ?_)
          clear hK K
          try simp only [Act.put, List.setIfInBounds_toArray, List.set_cons_zero, List.set_cons_succ]
          as_aux_lemma =>
            refine wpAnyH_ready (rs := [6]) (by kernel_rfl) (by simp) ?_
            refine AllReadyH.cons rfl (fun K hK => ?_) (AllReadyH.nil)
            go_simp
            go_at_call 12
            refine (c_irSame A8 c8 [⟨3, 0, 0⟩] (some ⟨gt, 0, none⟩) 1 [⟨3, 0, 0⟩] true (by decide) X333 R8X333.out RTX333.out).mono ?_
            rintro e X334 ⟨rfl, bb⟩
            have HKX334 := Lib.hid (below_join HKX333.out bb HKX333.out.size)
            clear bb
            try dsimp only
            clear hHeld
            refine hK.out _ _ (HS.out _ HKX334.out) (fun hHeld => ?_)
            clear hK K
            try simp only [Act.put, List.setIfInBounds_toArray, List.set_cons_zero, List.set_cons_succ]
            refine takeH (i := 7) 33 (v := ?_) rfl rfl (by kernel_rfl) (by kernel_rfl) (by kernel_rfl) (fun _ _ _ h => h) (by rfl) ?_ hHeld ?_
            rotate_left
            · intro X hX; first | (go_simp; done) | (go_simp; with_reducible rfl)
            try simp only [Act.put, List.setIfInBounds_toArray, List.set_cons_zero, List.set_cons_succ]
            refine takeH (i := 10) 36 (v := ?_) rfl rfl (by kernel_rfl) (by kernel_rfl) (by kernel_rfl) (fun _ _ _ h => h) (by rfl) ?_ hHeld ?_
            rotate_left
            · intro X hX; obtain ⟨hq0, hq1⟩ := hX; first | (go_simp; done) | (go_simp; with_reducible rfl)
            try simp only [Act.put, List.setIfInBounds_toArray, List.set_cons_zero, List.set_cons_succ]
            refine takeH (i := 12) 38 (v := ?_) rfl rfl (by kernel_rfl) (by kernel_rfl) (by kernel_rfl) (fun _ _ _ h => h) (by rfl) ?_ hHeld ?_
            rotate_left
            · intro X hX; first | (go_simp; done) | (go_simp; with_reducible rfl)
            try simp only [Act.put, List.setIfInBounds_toArray, List.set_cons_zero, List.set_cons_succ]
            as_aux_lemma =>
              refine wpAnyH_ready (rs := [8, 13]) (by kernel_rfl) (by simp) ?_
              refine AllReadyH.cons rfl (fun K hK => ?_) (AllReadyH.cons rfl (fun K hK => ?_) (AllReadyH.nil))
              · go_simp
                go_at_call 25
                refine (c_siteTo X334).mono ?_
                rintro e X335 ⟨p2, rfl, h1, bb⟩
                have HKX335 := Lib.hid (below_join HKX334.out bb HKX334.out.size)
                have T1X335 := Lib.hid h1
                clear h1
                clear bb
                try dsimp only
                clear hHeld
                refine hK.out _ _ (HS.out _ HKX335.out) (fun hHeld => ?_)
                clear hK K
                try simp only [Act.put, List.setIfInBounds_toArray, List.set_cons_zero, List.set_cons_succ]
                refine wpAnyH_ready (rs := [9, 13]) (by kernel_rfl) (by simp) ?_
                refine AllReadyH.cons rfl (fun K hK => ?_) (AllReadyH.cons rfl (fun K hK => ?_) (AllReadyH.nil))
                · go_simp
                  go_at_call 26
                  refine (c_wishTo X335).mono ?_
                  rintro e X336 ⟨A2, c2, b2, rfl, h1, bb⟩
                  have HKX336 := Lib.hid (below_join HKX335.out bb HKX335.out.size)
                  have T1X336 := Lib.hid (T1X335.out.on bb (Nat.le_refl _))
                  have T2X336 := Lib.hid h1
                  clear h1
                  clear bb
                  try dsimp only
                  clear hHeld
                  refine hK.out _ _ (HS.out _ HKX336.out) (fun hHeld => ?_)
                  clear hK K
                  try simp only [Act.put, List.setIfInBounds_toArray, List.set_cons_zero, List.set_cons_succ]
                  refine wpAnyH_ready (rs := [11, 13]) (by kernel_rfl) (by simp) ?_
                  refine AllReadyH.cons rfl (fun K hK => ?_) (AllReadyH.cons rfl (fun K hK => ?_) (AllReadyH.nil))
                  · go_simp
                    go_at_call 13
                    refine (c_Broken ⟨p2, exD, A2, c2, wxs b2, qw, W3⟩ true ⟨fun _ => ok3, fun _ => rfl⟩ [⟨2, 0, 0⟩] br3 X336 ⟨T1X336.out, T2X336.out, HW.out _ HKX336.out⟩).mono ?_
                    rintro e X337 ⟨A9, c9, rfl, h1, bb⟩
                    have HKX337 := Lib.hid (below_join HKX336.out bb HKX336.out.size)
                    have R9X337 := Lib.hid h1
                    clear h1
                    clear bb
                    try dsimp only
                    clear hHeld
                    refine hK.out _ _ (HS.out _ HKX337.out) (fun hHeld => ?_)
                    clear hK K
                    try simp only [Act.put, List.setIfInBounds_toArray, List.set_cons_zero, List.set_cons_succ]
                    refine wpAnyH_ready (rs := [13]) (by kernel_rfl) (by simp) ?_
                    refine AllReadyH.cons rfl (fun K hK => ?_) (AllReadyH.nil)
                    go_simp
                    obtain ⟨X338, hX338⟩ : ∃ Y, Y = X337.alloc (.cells #[.int .u8 2, .int .i64 0, .int .i64 0] 44) := ⟨_, rfl⟩
                    have bb : Below X337.heap.size X337 X338 := by rw [hX338]; exact (Below.refl _ _).alloc (Nat.le_refl _) _
                    have HKX338 := Lib.hid (below_join HKX337.out bb HKX337.out.size)
                    have R9X338 := Lib.hid (R9X337.out.on bb (Nat.le_refl _))
                    have hbx : X338.heap[X337.heap.size]? = some (.cells #[.int .u8 2, .int .i64 0, .int .i64 0] 44 (0, 0)) := by rw [hX338]; exact box_new _ _ _
                    have RUX338 := Lib.hid (rv_block (k := 3) (F := bnF) (l := [⟨2, 0, 0⟩]) hbx (by simp [maxLen]))
                    obtain ⟨gu, hgu⟩ : ∃ g, X337.heap.size = g := ⟨_, rfl⟩
                    rw [hgu] at RUX338 ⊢
                    clear hgu
                    rw [← hX338]
                    clear bb hX338 hbx
                    try dsimp only
                    clear hHeld
                    refine hK.out _ _ (HS.out _ HKX338.out) (fun hHeld => ?_)
                    clear hK K
                    try simp only [Act.put, List.setIfInBounds_toArray, List.set_cons_zero, List.set_cons_succ]
                    as_aux_lemma =>
                      refine wpAnyH_ready (rs := [14]) (by kernel_rfl) (by simp) ?_
                      refine AllReadyH.cons rfl (fun K hK => ?_) (AllReadyH.nil)
                      go_simp
                      go_at_call 12
                      refine (c_irSame A9 c9 [⟨2, 0, 0⟩] (some ⟨gu, 0, none⟩) 1 [⟨2, 0, 0⟩] true (by decide) X338 R9X338.out RUX338.out).mono ?_
                      rintro e X339 ⟨rfl, bb⟩
                      have HKX339 := Lib.hid (below_join HKX338.out bb HKX338.out.size)
                      clear bb
                      try dsimp only
                      clear hHeld
                      refine hK.out _ _ (HS.out _ HKX339.out) (fun hHeld => ?_)
                      clear hK K
                      try simp only [Act.put, List.setIfInBounds_toArray, List.set_cons_zero, List.set_cons_succ]
                      refine takeH (i := 15) 41 (v := ?_) rfl rfl (by kernel_rfl) (by kernel_rfl) (by kernel_rfl) (fun _ _ _ h => h) (by rfl) ?_ hHeld ?_
                      rotate_left
                      · intro X hX; first | (go_simp; done) | (go_simp; with_reducible rfl)
                      try simp only [Act.put, List.setIfInBounds_toArray, List.set_cons_zero, List.set_cons_succ]
                      refine takeH (i := 16) 42 (v := ?_) rfl rfl (by kernel_rfl) (by kernel_rfl) (by kernel_rfl) (fun _ _ _ h => h) (by rfl) ?_ hHeld ?_
                      rotate_left
                      · intro X hX; first | (go_simp; done) | (go_simp; with_reducible rfl)
                      try simp only [Act.put, List.setIfInBounds_toArray, List.set_cons_zero, List.set_cons_succ]
                      refine takeH (i := 17) 43 (v := ?_) rfl rfl (by kernel_rfl) (by kernel_rfl) (by kernel_rfl) (fun _ _ _ h => h) (by rfl) ?_ hHeld ?_
                      rotate_left
                      · intro X hX; first | (go_simp; done) | (go_simp; with_reducible rfl)
                      try simp only [Act.put, List.setIfInBounds_toArray, List.set_cons_zero, List.set_cons_succ]
                      refine takeH (i := 18) 44 (v := ?_) rfl rfl (by kernel_rfl) (by kernel_rfl) (by kernel_rfl) (fun _ _ _ h => h) (by rfl) ?_ hHeld ?_
                      rotate_left
                      · intro X hX; first | (go_simp; done) | (go_simp; with_reducible rfl)
                      try simp only [Act.put, List.setIfInBounds_toArray, List.set_cons_zero, List.set_cons_succ]
                      refine takeH (i := 19) 45 (v := ?_) rfl rfl (by kernel_rfl) (by kernel_rfl) (by kernel_rfl) (fun _ _ _ h => h) (by rfl) ?_ hHeld ?_
                      rotate_left
                      · intro X hX; first | (go_simp; done) | (go_simp; with_reducible rfl)
                      try simp only [Act.put, List.setIfInBounds_toArray, List.set_cons_zero, List.set_cons_succ]
                      refine wpAnyH_ready (rs := [20]) (by kernel_rfl) (by simp) ?_
                      refine AllReadyH.cons rfl (fun K hK => ?_) (AllReadyH.nil)
                      go_simp
                      go_at_call 15
                      refine (c_ivHolds zN false ⟨fun h => (by cases h), fun h => absurd h zN_no⟩ [] rfl false rfl X339 (zN_at X339)).mono ?_
                      rintro e X340 ⟨rfl, bb⟩
                      have HKX340 := Lib.hid (below_join HKX339.out bb HKX339.out.size)
                      clear bb
                      try dsimp only
                      clear hHeld
                      refine hK.out _ _ (HS.out _ HKX340.out) (fun hHeld => ?_)
                      clear hK K
                      try simp only [Act.put, List.setIfInBounds_toArray, List.set_cons_zero, List.set_cons_succ]
                      refine takeH (i := 21) 47 (v := ?_) rfl rfl (by kernel_rfl) (by kernel_rfl) (by kernel_rfl) (fun _ _ _ h => h) (by rfl) ?_ hHeld ?_
                      rotate_left
                      · intro X hX; first | (go_simp; done) | (go_simp; with_reducible rfl)
                      try simp only [Act.put, List.setIfInBounds_toArray, List.set_cons_zero, List.set_cons_succ]
                      refine takeH (i := 22) 48 (v := ?_) rfl rfl (by kernel_rfl) (by kernel_rfl) (by kernel_rfl) (fun _ _ _ h => h) (by rfl) ?_ hHeld ?_
                      rotate_left
                      · intro X hX; first | (go_simp; done) | (go_simp; with_reducible rfl)
                      try simp only [Act.put, List.setIfInBounds_toArray, List.set_cons_zero, List.set_cons_succ]
                      refine takeH (i := 23) 49 (v := ?_) rfl rfl (by kernel_rfl) (by kernel_rfl) (by kernel_rfl) (fun _ _ _ h => h) (by rfl) ?_ hHeld ?_
                      rotate_left
                      · intro X hX; first | (go_simp; done) | (go_simp; with_reducible rfl)
                      try simp only [Act.put, List.setIfInBounds_toArray, List.set_cons_zero, List.set_cons_succ]
                      refine wpAnyH_ready (rs := [24]) (by kernel_rfl) (by simp) ?_
                      refine AllReadyH.cons rfl (fun K hK => ?_) (AllReadyH.nil)
                      go_simp
                      go_at_call 11
                      refine (c_live X340).mono ?_
                      rintro e X341 ⟨rfl, bb⟩
                      have HKX341 := Lib.hid (below_join HKX340.out bb HKX340.out.size)
                      clear bb
                      try dsimp only
                      clear hHeld
                      refine hK.out _ _ (HS.out _ HKX341.out) (fun hHeld => ?_)
                      clear hK K
                      try simp only [Act.put, List.setIfInBounds_toArray, List.set_cons_zero, List.set_cons_succ]
                      refine takeH (i := 25) 51 (v := ?_) rfl rfl (by kernel_rfl) (by kernel_rfl) (by kernel_rfl) (fun _ _ _ h => h) (by rfl) ?_ hHeld ?_
                      rotate_left
                      · intro X hX; first | (go_simp; done) | (go_simp; with_reducible rfl)
                      try simp only [Act.put, List.setIfInBounds_toArray, List.set_cons_zero, List.set_cons_succ]
                      refine takeH (i := 26) 0 (v := ?_) rfl rfl (by kernel_rfl) (by kernel_rfl) (by kernel_rfl) (fun _ _ _ h => h) (by rfl) ?_ hHeld ?_
                      rotate_left
                      · intro X hX; first | (go_simp; done) | (go_simp; with_reducible rfl)
                      try simp only [Act.put, List.setIfInBounds_toArray, List.set_cons_zero, List.set_cons_succ]
                      refine wpAnyH_done (by kernel_rfl) ?_ _
                      go_wp2_with (fail)
                      go_ret
                      exact ⟨rfl, below_join HB.out HKX341.out HB.out.size⟩
                  · go_simp
                    obtain ⟨X342, hX342⟩ : ∃ Y, Y = X336.alloc (.cells #[.int .u8 2, .int .i64 0, .int .i64 0] 44) := ⟨_, rfl⟩
                    have bb : Below X336.heap.size X336 X342 := by rw [hX342]; exact (Below.refl _ _).alloc (Nat.le_refl _) _
                    have HKX342 := Lib.hid (below_join HKX336.out bb HKX336.out.size)
                    have T1X342 := Lib.hid (T1X336.out.on bb (Nat.le_refl _))
                    have T2X342 := Lib.hid (T2X336.out.on bb (Nat.le_refl _))
                    have hbx : X342.heap[X336.heap.size]? = some (.cells #[.int .u8 2, .int .i64 0, .int .i64 0] 44 (0, 0)) := by rw [hX342]; exact box_new _ _ _
                    have RUX342 := Lib.hid (rv_block (k := 3) (F := bnF) (l := [⟨2, 0, 0⟩]) hbx (by simp [maxLen]))
                    obtain ⟨gu, hgu⟩ : ∃ g, X336.heap.size = g := ⟨_, rfl⟩
                    rw [hgu] at RUX342 ⊢
                    clear hgu
                    rw [← hX342]
                    clear bb hX342 hbx
                    try dsimp only
                    clear hHeld
                    refine hK.out _ _ (HS.out _ HKX342.out) (fun hHeld => ?_)
                    clear hK K
                    try simp only [Act.put, List.setIfInBounds_toArray, List.set_cons_zero, List.set_cons_succ]
                    refine wpAnyH_ready (rs := [11]) (by kernel_rfl) (by simp) ?_
                    refine AllReadyH.cons rfl (fun K hK => ?_) (AllReadyH.nil)
                    go_simp
                    go_at_call 13
                    refine (c_Broken ⟨p2, exD, A2, c2, wxs b2, qw, W3⟩ true ⟨fun _ => ok3, fun _ => rfl⟩ [⟨2, 0, 0⟩] br3 X342 ⟨T1X342.out, T2X342.out, HW.out _ HKX342.out⟩).mono ?_
                    rintro e X343 ⟨A9, c9, rfl, h1, bb⟩
                    have HKX343 := Lib.hid (below_join HKX342.out bb HKX342.out.size)
                    have RUX343 := Lib.hid (RUX342.out.on bb (Nat.le_refl _))
                    have R9X343 := Lib.hid h1
                    clear h1
                    clear bb
                    try dsimp only
                    clear hHeld
                    refine hK.out _ _ (HS.out _ HKX343.out) (fun hHeld => ?_)
                    clear hK K
                    try simp only [Act.put, List.setIfInBounds_toArray, List.set_cons_zero, List.set_cons_succ]
                    as_aux_lemma =>
                      refine wpAnyH_ready (rs := [14]) (by kernel_rfl) (by simp) ?_
                      refine AllReadyH.cons rfl (fun K hK => ?_) (AllReadyH.nil)
                      go_simp
                      go_at_call 12
                      refine (c_irSame A9 c9 [⟨2, 0, 0⟩] (some ⟨gu, 0, none⟩) 1 [⟨2, 0, 0⟩] true (by decide) X343 R9X343.out RUX343.out).mono ?_
                      rintro e X344 ⟨rfl, bb⟩
                      have HKX344 := Lib.hid (below_join HKX343.out bb HKX343.out.size)
                      clear bb
                      try dsimp only
                      clear hHeld
                      refine hK.out _ _ (HS.out _ HKX344.out) (fun hHeld => ?_)
                      clear hK K
                      try simp only [Act.put, List.setIfInBounds_toArray, List.set_cons_zero, List.set_cons_succ]
                      refine takeH (i := 15) 41 (v := ?_) rfl rfl (by kernel_rfl) (by kernel_rfl) (by kernel_rfl) (fun _ _ _ h => h) (by rfl) ?_ hHeld ?_
                      rotate_left
                      · intro X hX; first | (go_simp; done) | (go_simp; with_reducible rfl)
                      try simp only [Act.put, List.setIfInBounds_toArray, List.set_cons_zero, List.set_cons_succ]
                      refine takeH (i := 16) 42 (v := ?_) rfl rfl (by kernel_rfl) (by kernel_rfl) (by kernel_rfl) (fun _ _ _ h => h) (by rfl) ?_ hHeld ?_
                      rotate_left
                      · intro X hX; first | (go_simp; done) | (go_simp; with_reducible rfl)
                      try simp only [Act.put, List.setIfInBounds_toArray, List.set_cons_zero, List.set_cons_succ]
                      refine takeH (i := 17) 43 (v := ?_) rfl rfl (by kernel_rfl) (by kernel_rfl) (by kernel_rfl) (fun _ _ _ h => h) (by rfl) ?_ hHeld ?_
                      rotate_left
                      · intro X hX; first | (go_simp; done) | (go_simp; with_reducible rfl)
                      try simp only [Act.put, List.setIfInBounds_toArray, List.set_cons_zero, List.set_cons_succ]
                      refine takeH (i := 18) 44 (v := ?_) rfl rfl (by kernel_rfl) (by kernel_rfl) (by kernel_rfl) (fun _ _ _ h => h) (by rfl) ?_ hHeld ?_
                      rotate_left
                      · intro X hX; first | (go_simp; done) | (go_simp; with_reducible rfl)
                      try simp only [Act.put, List.setIfInBounds_toArray, List.set_cons_zero, List.set_cons_succ]
                      refine takeH (i := 19) 45 (v := ?_) rfl rfl (by kernel_rfl) (by kernel_rfl) (by kernel_rfl) (fun _ _ _ h => h) (by rfl) ?_ hHeld ?_
                      rotate_left
                      · intro X hX; first | (go_simp; done) | (go_simp; with_reducible rfl)
                      try simp only [Act.put, List.setIfInBounds_toArray, List.set_cons_zero, List.set_cons_succ]
                      refine wpAnyH_ready (rs := [20]) (by kernel_rfl) (by simp) ?_
                      refine AllReadyH.cons rfl (fun K hK => ?_) (AllReadyH.nil)
                      go_simp
                      go_at_call 15
                      refine (c_ivHolds zN false ⟨fun h => (by cases h), fun h => absurd h zN_no⟩ [] rfl false rfl X344 (zN_at X344)).mono ?_
                      rintro e X345 ⟨rfl, bb⟩
                      have HKX345 := Lib.hid (below_join HKX344.out bb HKX344.out.size)
                      clear bb
                      try dsimp only
                      clear hHeld
                      refine hK.out _ _ (HS.out _ HKX345.out) (fun hHeld => ?_)
                      clear hK K
                      try simp only [Act.put, List.setIfInBounds_toArray, List.set_cons_zero, List.set_cons_succ]
                      refine takeH (i := 21) 47 (v := ?_) rfl rfl (by kernel_rfl) (by kernel_rfl) (by kernel_rfl) (fun _ _ _ h => h) (by rfl) ?_ hHeld ?_
                      rotate_left
                      · intro X hX; first | (go_simp; done) | (go_simp; with_reducible rfl)
                      try simp only [Act.put, List.setIfInBounds_toArray, List.set_cons_zero, List.set_cons_succ]
                      refine takeH (i := 22) 48 (v := ?_) rfl rfl (by kernel_rfl) (by kernel_rfl) (by kernel_rfl) (fun _ _ _ h => h) (by rfl) ?_ hHeld ?_
                      rotate_left
                      · intro X hX; first | (go_simp; done) | (go_simp; with_reducible rfl)
                      try simp only [Act.put, List.setIfInBounds_toArray, List.set_cons_zero, List.set_cons_succ]
                      refine takeH (i := 23) 49 (v := ?_) rfl rfl (by kernel_rfl) (by kernel_rfl) (by kernel_rfl) (fun _ _ _ h => h) (by rfl) ?_ hHeld ?_
                      rotate_left
                      · intro X hX; first | (go_simp; done) | (go_simp; with_reducible rfl)
                      try simp only [Act.put, List.setIfInBounds_toArray, List.set_cons_zero, List.set_cons_succ]
                      refine wpAnyH_ready (rs := [24]) (by kernel_rfl) (by simp) ?_
                      refine AllReadyH.cons rfl (fun K hK => ?_) (AllReadyH.nil)
                      go_simp
                      go_at_call 11
                      refine (c_live X345).mono ?_
                      rintro e X346 ⟨rfl, bb⟩
                      have HKX346 := Lib.hid (below_join HKX345.out bb HKX345.out.size)
                      clear bb
                      try dsimp only
                      clear hHeld
                      refine hK.out _ _ (HS.out _ HKX346.out) (fun hHeld => ?_)
                      clear hK K
                      try simp only [Act.put, List.setIfInBounds_toArray, List.set_cons_zero, List.set_cons_succ]
                      refine takeH (i := 25) 51 (v := ?_) rfl rfl (by kernel_rfl) (by kernel_rfl) (by kernel_rfl) (fun _ _ _ h => h) (by rfl) ?_ hHeld ?_
                      rotate_left
                      · intro X hX; first | (go_simp; done) | (go_simp; with_reducible rfl)
                      try simp only [Act.put, List.setIfInBounds_toArray, List.set_cons_zero, List.set_cons_succ]
                      refine takeH (i := 26) 0 (v := ?_) rfl rfl (by kernel_rfl) (by kernel_rfl) (by kernel_rfl) (fun _ _ _ h => h) (by rfl) ?_ hHeld ?_
                      rotate_left
                      · intro X hX; first | (go_simp; done) | (go_simp; with_reducible rfl)
                      try simp only [Act.put, List.setIfInBounds_toArray, List.set_cons_zero, List.set_cons_succ]
                      refine wpAnyH_done (by kernel_rfl) ?_ _
                      go_wp2_with (fail)
                      go_ret
                      exact ⟨rfl, below_join HB.out HKX346.out HB.out.size⟩
                · go_simp
                  obtain ⟨X347, hX347⟩ : ∃ Y, Y = X335.alloc (.cells #[.int .u8 2, .int .i64 0, .int .i64 0] 44) := ⟨_, rfl⟩
                  have bb : Below X335.heap.size X335 X347 := by rw [hX347]; exact (Below.refl _ _).alloc (Nat.le_refl _) _
                  have HKX347 := Lib.hid (below_join HKX335.out bb HKX335.out.size)
                  have T1X347 := Lib.hid (T1X335.out.on bb (Nat.le_refl _))
                  have hbx : X347.heap[X335.heap.size]? = some (.cells #[.int .u8 2, .int .i64 0, .int .i64 0] 44 (0, 0)) := by rw [hX347]; exact box_new _ _ _
                  have RUX347 := Lib.hid (rv_block (k := 3) (F := bnF) (l := [⟨2, 0, 0⟩]) hbx (by simp [maxLen]))
                  obtain ⟨gu, hgu⟩ : ∃ g, X335.heap.size = g := ⟨_, rfl⟩
                  rw [hgu] at RUX347 ⊢
                  clear hgu
                  rw [← hX347]
                  clear bb hX347 hbx
                  try dsimp only
                  clear hHeld
                  refine hK.out _ _ (HS.out _ HKX347.out) (fun hHeld => ?_)
                  clear hK K
                  try simp only [Act.put, List.setIfInBounds_toArray, List.set_cons_zero, List.set_cons_succ]
                  refine wpAnyH_ready (rs := [9]) (by kernel_rfl) (by simp) ?_
                  refine AllReadyH.cons rfl (fun K hK => ?_) (AllReadyH.nil)
                  go_simp
                  go_at_call 26
                  refine (c_wishTo X347).mono ?_
                  rintro e X348 ⟨A2, c2, b2, rfl, h1, bb⟩
                  have HKX348 := Lib.hid (below_join HKX347.out bb HKX347.out.size)
                  have T1X348 := Lib.hid (T1X347.out.on bb (Nat.le_refl _))
                  have RUX348 := Lib.hid (RUX347.out.on bb (Nat.le_refl _))
                  have T2X348 := Lib.hid h1
                  clear h1
                  clear bb
                  try dsimp only
                  clear hHeld
                  refine hK.out _ _ (HS.out _ HKX348.out) (fun hHeld => ?_)
                  clear hK K
                  try simp only [Act.put, List.setIfInBounds_toArray, List.set_cons_zero, List.set_cons_succ]
                  refine wpAnyH_ready (rs := [11]) (by kernel_rfl) (by simp) ?_
                  refine AllReadyH.cons rfl (fun K hK => ?_) (AllReadyH.nil)
                  go_simp
                  go_at_call 13
                  refine (c_Broken ⟨p2, exD, A2, c2, wxs b2, qw, W3⟩ true ⟨fun _ => ok3, fun _ => rfl⟩ [⟨2, 0, 0⟩] br3 X348 ⟨T1X348.out, T2X348.out, HW.out _ HKX348.out⟩).mono ?_
                  rintro e X349 ⟨A9, c9, rfl, h1, bb⟩
                  have HKX349 := Lib.hid (below_join HKX348.out bb HKX348.out.size)
                  have RUX349 := Lib.hid (RUX348.out.on bb (Nat.le_refl _))
                  have R9X349 := Lib.hid h1
                  clear h1
                  clear bb
                  try dsimp only
                  clear hHeld
                  refine hK.out _ _ (HS.out _ HKX349.out) (fun hHeld => ?_)
                  clear hK K
                  try simp only [Act.put, List.setIfInBounds_toArray, List.set_cons_zero, List.set_cons_succ]
                  as_aux_lemma =>
                    refine wpAnyH_ready (rs := [14]) (by kernel_rfl) (by simp) ?_
                    refine AllReadyH.cons rfl (fun K hK => ?_) (AllReadyH.nil)
                    go_simp
                    go_at_call 12
                    refine (c_irSame A9 c9 [⟨2, 0, 0⟩] (some ⟨gu, 0, none⟩) 1 [⟨2, 0, 0⟩] true (by decide) X349 R9X349.out RUX349.out).mono ?_
                    rintro e X350 ⟨rfl, bb⟩
                    have HKX350 := Lib.hid (below_join HKX349.out bb HKX349.out.size)
                    clear bb
                    try dsimp only
                    clear hHeld
                    refine hK.out _ _ (HS.out _ HKX350.out) (fun hHeld => ?_)
                    clear hK K
                    try simp only [Act.put, List.setIfInBounds_toArray, List.set_cons_zero, List.set_cons_succ]
                    refine takeH (i := 15) 41 (v := ?_) rfl rfl (by kernel_rfl) (by kernel_rfl) (by kernel_rfl) (fun _ _ _ h => h) (by rfl) ?_ hHeld ?_
                    rotate_left
                    · intro X hX; first | (go_simp; done) | (go_simp; with_reducible rfl)
                    try simp only [Act.put, List.setIfInBounds_toArray, List.set_cons_zero, List.set_cons_succ]
                    refine takeH (i := 16) 42 (v := ?_) rfl rfl (by kernel_rfl) (by kernel_rfl) (by kernel_rfl) (fun _ _ _ h => h) (by rfl) ?_ hHeld ?_
                    rotate_left
                    · intro X hX; first | (go_simp; done) | (go_simp; with_reducible rfl)
                    try simp only [Act.put, List.setIfInBounds_toArray, List.set_cons_zero, List.set_cons_succ]
                    refine takeH (i := 17) 43 (v := ?_) rfl rfl (by kernel_rfl) (by kernel_rfl) (by kernel_rfl) (fun _ _ _ h => h) (by rfl) ?_ hHeld ?_
                    rotate_left
                    · intro X hX; first | (go_simp; done) | (go_simp; with_reducible rfl)
                    try simp only [Act.put, List.setIfInBounds_toArray, List.set_cons_zero, List.set_cons_succ]
                    refine takeH (i := 18) 44 (v := ?_) rfl rfl (by kernel_rfl) (by kernel_rfl) (by kernel_rfl) (fun _ _ _ h => h) (by rfl) ?_ hHeld ?_
                    rotate_left
                    · intro X hX; first | (go_simp; done) | (go_simp; with_reducible rfl)
                    try simp only [Act.put, List.setIfInBounds_toArray, List.set_cons_zero, List.set_cons_succ]
                    refine takeH (i := 19) 45 (v := ?_) rfl rfl (by kernel_rfl) (by kernel_rfl) (by kernel_rfl) (fun _ _ _ h => h) (by rfl) ?_ hHeld ?_
                    rotate_left
                    · intro X hX; first | (go_simp; done) | (go_simp; with_reducible rfl)
                    try simp only [Act.put, List.setIfInBounds_toArray, List.set_cons_zero, List.set_cons_succ]
                    refine wpAnyH_ready (rs := [20]) (by kernel_rfl) (by simp) ?_
                    refine AllReadyH.cons rfl (fun K hK => ?_) (AllReadyH.nil)
                    go_simp
                    go_at_call 15
                    refine (c_ivHolds zN false ⟨fun h => (by cases h), fun h => absurd h zN_no⟩ [] rfl false rfl X350 (zN_at X350)).mono ?_
                    rintro e X351 ⟨rfl, bb⟩
                    have HKX351 := Lib.hid (below_join HKX350.out bb HKX350.out.size)
                    clear bb
                    try dsimp only
                    clear hHeld
                    refine hK.out _ _ (HS.out _ HKX351.out) (fun hHeld => ?_)
                    clear hK K
                    try simp only [Act.put, List.setIfInBounds_toArray, List.set_cons_zero, List.set_cons_succ]
                    refine takeH (i := 21) 47 (v := ?_) rfl rfl (by kernel_rfl) (by kernel_rfl) (by kernel_rfl) (fun _ _ _ h => h) (by rfl) ?_ hHeld ?_
                    rotate_left
                    · intro X hX; first | (go_simp; done) | (go_simp; with_reducible rfl)
                    try simp only [Act.put, List.setIfInBounds_toArray, List.set_cons_zero, List.set_cons_succ]
                    refine takeH (i := 22) 48 (v := ?_) rfl rfl (by kernel_rfl) (by kernel_rfl) (by kernel_rfl) (fun _ _ _ h => h) (by rfl) ?_ hHeld ?_
                    rotate_left
                    · intro X hX; first | (go_simp; done) | (go_simp; with_reducible rfl)
                    try simp only [Act.put, List.setIfInBounds_toArray, List.set_cons_zero, List.set_cons_succ]
                    refine takeH (i := 23) 49 (v := ?_) rfl rfl (by kernel_rfl) (by kernel_rfl) (by kernel_rfl) (fun _ _ _ h => h) (by rfl) ?_ hHeld ?_
                    rotate_left
                    · intro X hX; first | (go_simp; done) | (go_simp; with_reducible rfl)
                    try simp only [Act.put, List.setIfInBounds_toArray, List.set_cons_zero, List.set_cons_succ]
                    refine wpAnyH_ready (rs := [24]) (by kernel_rfl) (by simp) ?_
                    refine AllReadyH.cons rfl (fun K hK => ?_) (AllReadyH.nil)
                    go_simp
                    go_at_call 11
                    refine (c_live X351).mono ?_
                    rintro e X352 ⟨rfl, bb⟩
                    have HKX352 := Lib.hid (below_join HKX351.out bb HKX351.out.size)
                    clear bb
                    try dsimp only
                    clear hHeld
                    refine hK.out _ _ (HS.out _ HKX352.out) (fun hHeld => ?_)
                    clear hK K
                    try simp only [Act.put, List.setIfInBounds_toArray, List.set_cons_zero, List.set_cons_succ]
                    refine takeH (i := 25) 51 (v := ?_) rfl rfl (by kernel_rfl) (by kernel_rfl) (by kernel_rfl) (fun _ _ _ h => h) (by rfl) ?_ hHeld ?_
                    rotate_left
                    · intro X hX; first | (go_simp; done) | (go_simp; with_reducible rfl)
                    try simp only [Act.put, List.setIfInBounds_toArray, List.set_cons_zero, List.set_cons_succ]
                    refine takeH (i := 26) 0 (v := ?_) rfl rfl (by kernel_rfl) (by kernel_rfl) (by kernel_rfl) (fun _ _ _ h => h) (by rfl) ?_ hHeld ?_
                    rotate_left
                    · intro X hX; first | (go_simp; done) | (go_simp; with_reducible rfl)
                    try simp only [Act.put, List.setIfInBounds_toArray, List.set_cons_zero, List.set_cons_succ]
                    refine wpAnyH_done (by kernel_rfl) ?_ _
                    go_wp2_with (fail)
                    go_ret
                    exact ⟨rfl, below_join HB.out HKX352.out HB.out.size⟩
              · go_simp
                obtain ⟨X353, hX353⟩ : ∃ Y, Y = X334.alloc (.cells #[.int .u8 2, .int .i64 0, .int .i64 0] 44) := ⟨_, rfl⟩
                have bb : Below X334.heap.size X334 X353 := by rw [hX353]; exact (Below.refl _ _).alloc (Nat.le_refl _) _
                have HKX353 := Lib.hid (below_join HKX334.out bb HKX334.out.size)
                have hbx : X353.heap[X334.heap.size]? = some (.cells #[.int .u8 2, .int .i64 0, .int .i64 0] 44 (0, 0)) := by rw [hX353]; exact box_new _ _ _
                have RUX353 := Lib.hid (rv_block (k := 3) (F := bnF) (l := [⟨2, 0, 0⟩]) hbx (by simp [maxLen]))
                obtain ⟨gu, hgu⟩ : ∃ g, X334.heap.size = g := ⟨_, rfl⟩
                rw [hgu] at RUX353 ⊢
                clear hgu
                rw [← hX353]
                clear bb hX353 hbx
                try dsimp only
                clear hHeld
                refine hK.out _ _ (HS.out _ HKX353.out) (fun hHeld => ?_)
                clear hK K
                try simp only [Act.put, List.setIfInBounds_toArray, List.set_cons_zero, List.set_cons_succ]
                refine wpAnyH_ready (rs := [8]) (by kernel_rfl) (by simp) ?_
                refine AllReadyH.cons rfl (fun K hK => ?_) (AllReadyH.nil)
                go_simp
                go_at_call 25
                refine (c_siteTo X353).mono ?_
                rintro e X354 ⟨p2, rfl, h1, bb⟩
                have HKX354 := Lib.hid (below_join HKX353.out bb HKX353.out.size)
                have RUX354 := Lib.hid (RUX353.out.on bb (Nat.le_refl _))
                have T1X354 := Lib.hid h1
                clear h1
                clear bb
                try dsimp only
                clear hHeld
                refine hK.out _ _ (HS.out _ HKX354.out) (fun hHeld => ?_)
                clear hK K
                try simp only [Act.put, List.setIfInBounds_toArray, List.set_cons_zero, List.set_cons_succ]
                refine wpAnyH_ready (rs := [9]) (by kernel_rfl) (by simp) ?_
                refine AllReadyH.cons rfl (fun K hK => ?_) (AllReadyH.nil)
                go_simp
                go_at_call 26
                refine (c_wishTo X354).mono ?_
                rintro e X355 ⟨A2, c2, b2, rfl, h1, bb⟩
                have HKX355 := Lib.hid (below_join HKX354.out bb HKX354.out.size)
                have RUX355 := Lib.hid (RUX354.out.on bb (Nat.le_refl _))
                have T1X355 := Lib.hid (T1X354.out.on bb (Nat.le_refl _))
                have T2X355 := Lib.hid h1
                clear h1
                clear bb
                try dsimp only
                clear hHeld
                refine hK.out _ _ (HS.out _ HKX355.out) (fun hHeld => ?_)
                clear hK K
                try simp only [Act.put, List.setIfInBounds_toArray, List.set_cons_zero, List.set_cons_succ]
                refine wpAnyH_ready (rs := [11]) (by kernel_rfl) (by simp) ?_
                refine AllReadyH.cons rfl (fun K hK => ?_) (AllReadyH.nil)
                go_simp
                go_at_call 13
                refine (c_Broken ⟨p2, exD, A2, c2, wxs b2, qw, W3⟩ true ⟨fun _ => ok3, fun _ => rfl⟩ [⟨2, 0, 0⟩] br3 X355 ⟨T1X355.out, T2X355.out, HW.out _ HKX355.out⟩).mono ?_
                rintro e X356 ⟨A9, c9, rfl, h1, bb⟩
                have HKX356 := Lib.hid (below_join HKX355.out bb HKX355.out.size)
                have RUX356 := Lib.hid (RUX355.out.on bb (Nat.le_refl _))
                have R9X356 := Lib.hid h1
                clear h1
                clear bb
                try dsimp only
                clear hHeld
                refine hK.out _ _ (HS.out _ HKX356.out) (fun hHeld => ?_)
                clear hK K
                try simp only [Act.put, List.setIfInBounds_toArray, List.set_cons_zero, List.set_cons_succ]
                as_aux_lemma =>
                  refine wpAnyH_ready (rs := [14]) (by kernel_rfl) (by simp) ?_
                  refine AllReadyH.cons rfl (fun K hK => ?_) (AllReadyH.nil)
                  go_simp
                  go_at_call 12
                  refine (c_irSame A9 c9 [⟨2, 0, 0⟩] (some ⟨gu, 0, none⟩) 1 [⟨2, 0, 0⟩] true (by decide) X356 R9X356.out RUX356.out).mono ?_
                  rintro e X357 ⟨rfl, bb⟩
                  have HKX357 := Lib.hid (below_join HKX356.out bb HKX356.out.size)
                  clear bb
                  try dsimp only
                  clear hHeld
                  refine hK.out _ _ (HS.out _ HKX357.out) (fun hHeld => ?_)
                  clear hK K
                  try simp only [Act.put, List.setIfInBounds_toArray, List.set_cons_zero, List.set_cons_succ]
                  refine takeH (i := 15) 41 (v := ?_) rfl rfl (by kernel_rfl) (by kernel_rfl) (by kernel_rfl) (fun _ _ _ h => h) (by rfl) ?_ hHeld ?_
                  rotate_left
                  · intro X hX; first | (go_simp; done) | (go_simp; with_reducible rfl)
                  try simp only [Act.put, List.setIfInBounds_toArray, List.set_cons_zero, List.set_cons_succ]
                  refine takeH (i := 16) 42 (v := ?_) rfl rfl (by kernel_rfl) (by kernel_rfl) (by kernel_rfl) (fun _ _ _ h => h) (by rfl) ?_ hHeld ?_
                  rotate_left
                  · intro X hX; first | (go_simp; done) | (go_simp; with_reducible rfl)
                  try simp only [Act.put, List.setIfInBounds_toArray, List.set_cons_zero, List.set_cons_succ]
                  refine takeH (i := 17) 43 (v := ?_) rfl rfl (by kernel_rfl) (by kernel_rfl) (by kernel_rfl) (fun _ _ _ h => h) (by rfl) ?_ hHeld ?_
                  rotate_left
                  · intro X hX; first | (go_simp; done) | (go_simp; with_reducible rfl)
                  try simp only [Act.put, List.setIfInBounds_toArray, List.set_cons_zero, List.set_cons_succ]
                  refine takeH (i := 18) 44 (v := ?_) rfl rfl (by kernel_rfl) (by kernel_rfl) (by kernel_rfl) (fun _ _ _ h => h) (by rfl) ?_ hHeld ?_
                  rotate_left
                  · intro X hX; first | (go_simp; done) | (go_simp; with_reducible rfl)
                  try simp only [Act.put, List.setIfInBounds_toArray, List.set_cons_zero, List.set_cons_succ]
                  refine takeH (i := 19) 45 (v := ?_) rfl rfl (by kernel_rfl) (by kernel_rfl) (by kernel_rfl) (fun _ _ _ h => h) (by rfl) ?_ hHeld ?_
                  rotate_left
                  · intro X hX; first | (go_simp; done) | (go_simp; with_reducible rfl)
                  try simp only [Act.put, List.setIfInBounds_toArray, List.set_cons_zero, List.set_cons_succ]
                  refine wpAnyH_ready (rs := [20]) (by kernel_rfl) (by simp) ?_
                  refine AllReadyH.cons rfl (fun K hK => ?_) (AllReadyH.nil)
                  go_simp
                  go_at_call 15
                  refine (c_ivHolds zN false ⟨fun h => (by cases h), fun h => absurd h zN_no⟩ [] rfl false rfl X357 (zN_at X357)).mono ?_
                  rintro e X358 ⟨rfl, bb⟩
                  have HKX358 := Lib.hid (below_join HKX357.out bb HKX357.out.size)
                  clear bb
                  try dsimp only
                  clear hHeld
                  refine hK.out _ _ (HS.out _ HKX358.out) (fun hHeld => ?_)
                  clear hK K
                  try simp only [Act.put, List.setIfInBounds_toArray, List.set_cons_zero, List.set_cons_succ]
                  refine takeH (i := 21) 47 (v := ?_) rfl rfl (by kernel_rfl) (by kernel_rfl) (by kernel_rfl) (fun _ _ _ h => h) (by rfl) ?_ hHeld ?_
                  rotate_left
                  · intro X hX; first | (go_simp; done) | (go_simp; with_reducible rfl)
                  try simp only [Act.put, List.setIfInBounds_toArray, List.set_cons_zero, List.set_cons_succ]
                  refine takeH (i := 22) 48 (v := ?_) rfl rfl (by kernel_rfl) (by kernel_rfl) (by kernel_rfl) (fun _ _ _ h => h) (by rfl) ?_ hHeld ?_
                  rotate_left
                  · intro X hX; first | (go_simp; done) | (go_simp; with_reducible rfl)
                  try simp only [Act.put, List.setIfInBounds_toArray, List.set_cons_zero, List.set_cons_succ]
                  refine takeH (i := 23) 49 (v := ?_) rfl rfl (by kernel_rfl) (by kernel_rfl) (by kernel_rfl) (fun _ _ _ h => h) (by rfl) ?_ hHeld ?_
                  rotate_left
                  · intro X hX; first | (go_simp; done) | (go_simp; with_reducible rfl)
                  try simp only [Act.put, List.setIfInBounds_toArray, List.set_cons_zero, List.set_cons_succ]
                  refine wpAnyH_ready (rs := [24]) (by kernel_rfl) (by simp) ?_
                  refine AllReadyH.cons rfl (fun K hK => ?_) (AllReadyH.nil)
                  go_simp
                  go_at_call 11
                  refine (c_live X358).mono ?_
                  rintro e X359 ⟨rfl, bb⟩
                  have HKX359 := Lib.hid (below_join HKX358.out bb HKX358.out.size)
                  clear bb
                  try dsimp only
                  clear hHeld
                  refine hK.out _ _ (HS.out _ HKX359.out) (fun hHeld => ?_)
                  clear hK K
                  try simp only [Act.put, List.setIfInBounds_toArray, List.set_cons_zero, List.set_cons_succ]
                  refine takeH (i := 25) 51 (v := ?_) rfl rfl (by kernel_rfl) (by kernel_rfl) (by kernel_rfl) (fun _ _ _ h => h) (by rfl) ?_ hHeld ?_
                  rotate_left
                  · intro X hX; first | (go_simp; done) | (go_simp; with_reducible rfl)
                  try simp only [Act.put, List.setIfInBounds_toArray, List.set_cons_zero, List.set_cons_succ]
                  refine takeH (i := 26) 0 (v := ?_) rfl rfl (by kernel_rfl) (by kernel_rfl) (by kernel_rfl) (fun _ _ _ h => h) (by rfl) ?_ hHeld ?_
                  rotate_left
                  · intro X hX; first | (go_simp; done) | (go_simp; with_reducible rfl)
                  try simp only [Act.put, List.setIfInBounds_toArray, List.set_cons_zero, List.set_cons_succ]
                  refine wpAnyH_done (by kernel_rfl) ?_ _
                  go_wp2_with (fail)
                  go_ret
                  exact ⟨rfl, below_join HB.out HKX359.out HB.out.size⟩
      · go_simp
        obtain ⟨X360, hX360⟩ : ∃ Y, Y = X302.alloc (.cells #[.int .u8 3, .int .i64 0, .int .i64 0] 44) := ⟨_, rfl⟩
        have bb : Below X302.heap.size X302 X360 := by rw [hX360]; exact (Below.refl _ _).alloc (Nat.le_refl _) _
        have HKX360 := Lib.hid (below_join HKX302.out bb HKX302.out.size)
        have S1X360 := Lib.hid (S1X302.out.on bb (Nat.le_refl _))
        have S2X360 := Lib.hid (S2X302.out.on bb (Nat.le_refl _))
        have hbx : X360.heap[X302.heap.size]? = some (.cells #[.int .u8 3, .int .i64 0, .int .i64 0] 44 (0, 0)) := by rw [hX360]; exact box_new _ _ _
        have RTX360 := Lib.hid (rv_block (k := 3) (F := bnF) (l := [⟨3, 0, 0⟩]) hbx (by simp [maxLen]))
        obtain ⟨gt, hgt⟩ : ∃ g, X302.heap.size = g := ⟨_, rfl⟩
        rw [hgt] at RTX360 ⊢
        clear hgt
        rw [← hX360]
        clear bb hX360 hbx
        try dsimp only
        clear hHeld
        refine hK.out _ _ (HS.out _ HKX360.out) (fun hHeld => ?_)
        clear hK K
        try simp only [Act.put, List.setIfInBounds_toArray, List.set_cons_zero, List.set_cons_succ]
        refine wpAnyH_ready (rs := [2]) (by kernel_rfl) (by simp) ?_
        refine AllReadyH.cons rfl (fun K hK => ?_) (AllReadyH.nil)
        go_simp
        go_at_call 24
        refine (c_worldN none 0 [] 0 rfl X360 (Rv.nil _)).mono ?_
        rintro e X361 ⟨q, rfl, h1, bb⟩
        have HKX361 := Lib.hid (below_join HKX360.out bb HKX360.out.size)
        have S1X361 := Lib.hid (S1X360.out.on bb (Nat.le_refl _))
        have S2X361 := Lib.hid (S2X360.out.on bb (Nat.le_refl _))
        have RTX361 := Lib.hid (RTX360.out.on bb (Nat.le_refl _))
        have WQX361 := Lib.hid h1
        clear h1
        clear bb
        try dsimp only
        clear hHeld
        refine hK.out _ _ (HS.out _ HKX361.out) (fun hHeld => ?_)
        clear hK K
        try simp only [Act.put, List.setIfInBounds_toArray, List.set_cons_zero, List.set_cons_succ]
        refine wpAnyH_ready (rs := [3]) (by kernel_rfl) (by simp) ?_
        refine AllReadyH.cons rfl (fun K hK => ?_) (AllReadyH.nil)
        go_simp
        go_at_call 13
        refine (c_Broken ⟨p, exD, A, c, wxs b, q, W0⟩ true ⟨fun _ => ok0, fun _ => rfl⟩ [⟨3, 0, 0⟩] br0 X361 ⟨S1X361.out, S2X361.out, WQX361.out⟩).mono ?_
        rintro e X362 ⟨A8, c8, rfl, h1, bb⟩
        have HKX362 := Lib.hid (below_join HKX361.out bb HKX361.out.size)
        have RTX362 := Lib.hid (RTX361.out.on bb (Nat.le_refl _))
        have R8X362 := Lib.hid h1
        clear h1
        clear bb
        try dsimp only
        clear hHeld
        refine hK.out _ _ (HS.out _ HKX362.out) (fun hHeld => ?_)
        clear hK K
        try simp only [Act.put, List.setIfInBounds_toArray, List.set_cons_zero, List.set_cons_succ]
        as_aux_lemma =>
          refine wpAnyH_ready (rs := [6]) (by kernel_rfl) (by simp) ?_
          refine AllReadyH.cons rfl (fun K hK => ?_) (AllReadyH.nil)
          go_simp
          go_at_call 12
          refine (c_irSame A8 c8 [⟨3, 0, 0⟩] (some ⟨gt, 0, none⟩) 1 [⟨3, 0, 0⟩] true (by decide) X362 R8X362.out RTX362.out).mono ?_
          rintro e X363 ⟨rfl, bb⟩
          have HKX363 := Lib.hid (below_join HKX362.out bb HKX362.out.size)
          clear bb
          try dsimp only
          clear hHeld
          refine hK.out _ _ (HS.out _ HKX363.out) (fun hHeld => ?_)
          clear hK K
          try simp only [Act.put, List.setIfInBounds_toArray, List.set_cons_zero, List.set_cons_succ]
          refine takeH (i := 7) 33 (v := ?_) rfl rfl (by kernel_rfl) (by kernel_rfl) (by kernel_rfl) (fun _ _ _ h => h) (by rfl) ?_ hHeld ?_
          rotate_left
          · intro X hX; first | (go_simp; done) | (go_simp; with_reducible rfl)
          try simp only [Act.put, List.setIfInBounds_toArray, List.set_cons_zero, List.set_cons_succ]
          refine takeH (i := 10) 36 (v := ?_) rfl rfl (by kernel_rfl) (by kernel_rfl) (by kernel_rfl) (fun _ _ _ h => h) (by rfl) ?_ hHeld ?_
          rotate_left
          · intro X hX; obtain ⟨hq0, hq1⟩ := hX; first | (go_simp; done) | (go_simp; with_reducible rfl)
          try simp only [Act.put, List.setIfInBounds_toArray, List.set_cons_zero, List.set_cons_succ]
          refine takeH (i := 12) 38 (v := ?_) rfl rfl (by kernel_rfl) (by kernel_rfl) (by kernel_rfl) (fun _ _ _ h => h) (by rfl) ?_ hHeld ?_
          rotate_left
          · intro X hX; first | (go_simp; done) | (go_simp; with_reducible rfl)
          try simp only [Act.put, List.setIfInBounds_toArray, List.set_cons_zero, List.set_cons_succ]
          as_aux_lemma =>
            refine wpAnyH_ready (rs := [8, 13]) (by kernel_rfl) (by simp) ?_
            refine AllReadyH.cons rfl (fun K hK => ?_) (AllReadyH.cons rfl (fun K hK => ?_) (AllReadyH.nil))
            · go_simp
              go_at_call 25
              refine (c_siteTo X363).mono ?_
              rintro e X364 ⟨p2, rfl, h1, bb⟩
              have HKX364 := Lib.hid (below_join HKX363.out bb HKX363.out.size)
              have T1X364 := Lib.hid h1
              clear h1
              clear bb
              try dsimp only
              clear hHeld
              refine hK.out _ _ (HS.out _ HKX364.out) (fun hHeld => ?_)
              clear hK K
              try simp only [Act.put, List.setIfInBounds_toArray, List.set_cons_zero, List.set_cons_succ]
              refine wpAnyH_ready (rs := [9, 13]) (by kernel_rfl) (by simp) ?_
              refine AllReadyH.cons rfl (fun K hK => ?_) (AllReadyH.cons rfl (fun K hK => ?_) (AllReadyH.nil))
              · go_simp
                go_at_call 26
                refine (c_wishTo X364).mono ?_
                rintro e X365 ⟨A2, c2, b2, rfl, h1, bb⟩
                have HKX365 := Lib.hid (below_join HKX364.out bb HKX364.out.size)
                have T1X365 := Lib.hid (T1X364.out.on bb (Nat.le_refl _))
                have T2X365 := Lib.hid h1
                clear h1
                clear bb
                try dsimp only
                clear hHeld
                refine hK.out _ _ (HS.out _ HKX365.out) (fun hHeld => ?_)
                clear hK K
                try simp only [Act.put, List.setIfInBounds_toArray, List.set_cons_zero, List.set_cons_succ]
                refine wpAnyH_ready (rs := [11, 13]) (by kernel_rfl) (by simp) ?_
                refine AllReadyH.cons rfl (fun K hK => ?_) (AllReadyH.cons rfl (fun K hK => ?_) (AllReadyH.nil))
                · go_simp
                  go_at_call 13
                  refine (c_Broken ⟨p2, exD, A2, c2, wxs b2, qw, W3⟩ true ⟨fun _ => ok3, fun _ => rfl⟩ [⟨2, 0, 0⟩] br3 X365 ⟨T1X365.out, T2X365.out, HW.out _ HKX365.out⟩).mono ?_
                  rintro e X366 ⟨A9, c9, rfl, h1, bb⟩
                  have HKX366 := Lib.hid (below_join HKX365.out bb HKX365.out.size)
                  have R9X366 := Lib.hid h1
                  clear h1
                  clear bb
                  try dsimp only
                  clear hHeld
                  refine hK.out _ _ (HS.out _ HKX366.out) (fun hHeld => ?_)
                  clear hK K
                  try simp only [Act.put, List.setIfInBounds_toArray, List.set_cons_zero, List.set_cons_succ]
                  refine wpAnyH_ready (rs := [13]) (by kernel_rfl) (by simp) ?_
                  refine AllReadyH.cons rfl (fun K hK => ?_) (AllReadyH.nil)
                  go_simp
                  obtain ⟨X367, hX367⟩ : ∃ Y, Y = X366.alloc (.cells #[.int .u8 2, .int .i64 0, .int .i64 0] 44) := ⟨_, rfl⟩
                  have bb : Below X366.heap.size X366 X367 := by rw [hX367]; exact (Below.refl _ _).alloc (Nat.le_refl _) _
                  have HKX367 := Lib.hid (below_join HKX366.out bb HKX366.out.size)
                  have R9X367 := Lib.hid (R9X366.out.on bb (Nat.le_refl _))
                  have hbx : X367.heap[X366.heap.size]? = some (.cells #[.int .u8 2, .int .i64 0, .int .i64 0] 44 (0, 0)) := by rw [hX367]; exact box_new _ _ _
                  have RUX367 := Lib.hid (rv_block (k := 3) (F := bnF) (l := [⟨2, 0, 0⟩]) hbx (by simp [maxLen]))
                  obtain ⟨gu, hgu⟩ : ∃ g, X366.heap.size = g := ⟨_, rfl⟩
                  rw [hgu] at RUX367 ⊢
                  clear hgu
                  rw [← hX367]
                  clear bb hX367 hbx
                  try dsimp only
                  clear hHeld
                  refine hK.out _ _ (HS.out _ HKX367.out) (fun hHeld => ?_)
                  clear hK K
                  try simp only [Act.put, List.setIfInBounds_toArray, List.set_cons_zero, List.set_cons_succ]
                  as_aux_lemma =>
                    refine wpAnyH_ready (rs := [14]) (by kernel_rfl) (by simp) ?_
                    refine AllReadyH.cons rfl (fun K hK => ?_) (AllReadyH.nil)
                    go_simp
                    go_at_call 12
                    refine (c_irSame A9 c9 [⟨2, 0, 0⟩] (some ⟨gu, 0, none⟩) 1 [⟨2, 0, 0⟩] true (by decide) X367 R9X367.out RUX367.out).mono ?_
                    rintro e X368 ⟨rfl, bb⟩
                    have HKX368 := Lib.hid (below_join HKX367.out bb HKX367.out.size)
                    clear bb
                    try dsimp only
                    clear hHeld
                    refine hK.out _ _ (HS.out _ HKX368.out) (fun hHeld => ?_)
                    clear hK K
                    try simp only [Act.put, List.setIfInBounds_toArray, List.set_cons_zero, List.set_cons_succ]
                    refine takeH (i := 15) 41 (v := ?_) rfl rfl (by kernel_rfl) (by kernel_rfl) (by kernel_rfl) (fun _ _ _ h => h) (by rfl) ?_ hHeld ?_
                    rotate_left
                    · intro X hX; first | (go_simp; done) | (go_simp; with_reducible rfl)
                    try simp only [Act.put, List.setIfInBounds_toArray, List.set_cons_zero, List.set_cons_succ]
                    refine takeH (i := 16) 42 (v := ?_) rfl rfl (by kernel_rfl) (by kernel_rfl) (by kernel_rfl) (fun _ _ _ h => h) (by rfl) ?_ hHeld ?_
                    rotate_left
                    · intro X hX; first | (go_simp; done) | (go_simp; with_reducible rfl)
                    try simp only [Act.put, List.setIfInBounds_toArray, List.set_cons_zero, List.set_cons_succ]
                    refine takeH (i := 17) 43 (v := ?_) rfl rfl (by kernel_rfl) (by kernel_rfl) (by kernel_rfl) (fun _ _ _ h => h) (by rfl) ?_ hHeld ?_
                    rotate_left
                    · intro X hX; first | (go_simp; done) | (go_simp; with_reducible rfl)
                    try simp only [Act.put, List.setIfInBounds_toArray, List.set_cons_zero, List.set_cons_succ]
                    refine takeH (i := 18) 44 (v := ?_) rfl rfl (by kernel_rfl) (by kernel_rfl) (by kernel_rfl) (fun _ _ _ h => h) (by rfl) ?_ hHeld ?_
                    rotate_left
                    · intro X hX; first | (go_simp; done) | (go_simp; with_reducible rfl)
                    try simp only [Act.put, List.setIfInBounds_toArray, List.set_cons_zero, List.set_cons_succ]
                    refine takeH (i := 19) 45 (v := ?_) rfl rfl (by kernel_rfl) (by kernel_rfl) (by kernel_rfl) (fun _ _ _ h => h) (by rfl) ?_ hHeld ?_
                    rotate_left
                    · intro X hX; first | (go_simp; done) | (go_simp; with_reducible rfl)
                    try simp only [Act.put, List.setIfInBounds_toArray, List.set_cons_zero, List.set_cons_succ]
                    refine wpAnyH_ready (rs := [20]) (by kernel_rfl) (by simp) ?_
                    refine AllReadyH.cons rfl (fun K hK => ?_) (AllReadyH.nil)
                    go_simp
                    go_at_call 15
                    refine (c_ivHolds zN false ⟨fun h => (by cases h), fun h => absurd h zN_no⟩ [] rfl false rfl X368 (zN_at X368)).mono ?_
                    rintro e X369 ⟨rfl, bb⟩
                    have HKX369 := Lib.hid (below_join HKX368.out bb HKX368.out.size)
                    clear bb
                    try dsimp only
                    clear hHeld
                    refine hK.out _ _ (HS.out _ HKX369.out) (fun hHeld => ?_)
                    clear hK K
                    try simp only [Act.put, List.setIfInBounds_toArray, List.set_cons_zero, List.set_cons_succ]
                    refine takeH (i := 21) 47 (v := ?_) rfl rfl (by kernel_rfl) (by kernel_rfl) (by kernel_rfl) (fun _ _ _ h => h) (by rfl) ?_ hHeld ?_
                    rotate_left
                    · intro X hX; first | (go_simp; done) | (go_simp; with_reducible rfl)
                    try simp only [Act.put, List.setIfInBounds_toArray, List.set_cons_zero, List.set_cons_succ]
                    refine takeH (i := 22) 48 (v := ?_) rfl rfl (by kernel_rfl) (by kernel_rfl) (by kernel_rfl) (fun _ _ _ h => h) (by rfl) ?_ hHeld ?_
                    rotate_left
                    · intro X hX; first | (go_simp; done) | (go_simp; with_reducible rfl)
                    try simp only [Act.put, List.setIfInBounds_toArray, List.set_cons_zero, List.set_cons_succ]
                    refine takeH (i := 23) 49 (v := ?_) rfl rfl (by kernel_rfl) (by kernel_rfl) (by kernel_rfl) (fun _ _ _ h => h) (by rfl) ?_ hHeld ?_
                    rotate_left
                    · intro X hX; first | (go_simp; done) | (go_simp; with_reducible rfl)
                    try simp only [Act.put, List.setIfInBounds_toArray, List.set_cons_zero, List.set_cons_succ]
                    refine wpAnyH_ready (rs := [24]) (by kernel_rfl) (by simp) ?_
                    refine AllReadyH.cons rfl (fun K hK => ?_) (AllReadyH.nil)
                    go_simp
                    go_at_call 11
                    refine (c_live X369).mono ?_
                    rintro e X370 ⟨rfl, bb⟩
                    have HKX370 := Lib.hid (below_join HKX369.out bb HKX369.out.size)
                    clear bb
                    try dsimp only
                    clear hHeld
                    refine hK.out _ _ (HS.out _ HKX370.out) (fun hHeld => ?_)
                    clear hK K
                    try simp only [Act.put, List.setIfInBounds_toArray, List.set_cons_zero, List.set_cons_succ]
                    refine takeH (i := 25) 51 (v := ?_) rfl rfl (by kernel_rfl) (by kernel_rfl) (by kernel_rfl) (fun _ _ _ h => h) (by rfl) ?_ hHeld ?_
                    rotate_left
                    · intro X hX; first | (go_simp; done) | (go_simp; with_reducible rfl)
                    try simp only [Act.put, List.setIfInBounds_toArray, List.set_cons_zero, List.set_cons_succ]
                    refine takeH (i := 26) 0 (v := ?_) rfl rfl (by kernel_rfl) (by kernel_rfl) (by kernel_rfl) (fun _ _ _ h => h) (by rfl) ?_ hHeld ?_
                    rotate_left
                    · intro X hX; first | (go_simp; done) | (go_simp; with_reducible rfl)
                    try simp only [Act.put, List.setIfInBounds_toArray, List.set_cons_zero, List.set_cons_succ]
                    refine wpAnyH_done (by kernel_rfl) ?_ _
                    go_wp2_with (fail)
                    go_ret
                    exact ⟨rfl, below_join HB.out HKX370.out HB.out.size⟩
                · go_simp
                  obtain ⟨X371, hX371⟩ : ∃ Y, Y = X365.alloc (.cells #[.int .u8 2, .int .i64 0, .int .i64 0] 44) := ⟨_, rfl⟩
                  have bb : Below X365.heap.size X365 X371 := by rw [hX371]; exact (Below.refl _ _).alloc (Nat.le_refl _) _
                  have HKX371 := Lib.hid (below_join HKX365.out bb HKX365.out.size)
                  have T1X371 := Lib.hid (T1X365.out.on bb (Nat.le_refl _))
                  have T2X371 := Lib.hid (T2X365.out.on bb (Nat.le_refl _))
                  have hbx : X371.heap[X365.heap.size]? = some (.cells #[.int .u8 2, .int .i64 0, .int .i64 0] 44 (0, 0)) := by rw [hX371]; exact box_new _ _ _
                  have RUX371 := Lib.hid (rv_block (k := 3) (F := bnF) (l := [⟨2, 0, 0⟩]) hbx (by simp [maxLen]))
                  obtain ⟨gu, hgu⟩ : ∃ g, X365.heap.size = g := ⟨_, rfl⟩
                  rw [hgu] at RUX371 ⊢
                  clear hgu
                  rw [← hX371]
                  clear bb hX371 hbx
                  try dsimp only
                  clear hHeld
                  refine hK.out _ _ (HS.out _ HKX371.out) (fun hHeld => ?_)
                  clear hK K
                  try simp only [Act.put, List.setIfInBounds_toArray, List.set_cons_zero, List.set_cons_succ]
                  refine wpAnyH_ready (rs := [11]) (by kernel_rfl) (by simp) ?_
                  refine AllReadyH.cons rfl (fun K hK => ?_) (AllReadyH.nil)
                  go_simp
                  go_at_call 13
                  refine (c_Broken ⟨p2, exD, A2, c2, wxs b2, qw, W3⟩ true ⟨fun _ => ok3, fun _ => rfl⟩ [⟨2, 0, 0⟩] br3 X371 ⟨T1X371.out, T2X371.out, HW.out _ HKX371.out⟩).mono ?_
                  rintro e X372 ⟨A9, c9, rfl, h1, bb⟩
                  have HKX372 := Lib.hid (below_join HKX371.out bb HKX371.out.size)
                  have RUX372 := Lib.hid (RUX371.out.on bb (Nat.le_refl _))
                  have R9X372 := Lib.hid h1
                  clear h1
                  clear bb
                  try dsimp only
                  clear hHeld
                  refine hK.out _ _ (HS.out _ HKX372.out) (fun hHeld => ?_)
                  clear hK K
                  try simp only [Act.put, List.setIfInBounds_toArray, List.set_cons_zero, List.set_cons_succ]
                  as_aux_lemma =>
                    refine wpAnyH_ready (rs := [14]) (by kernel_rfl) (by simp) ?_
                    refine AllReadyH.cons rfl (fun K hK => ?_) (AllReadyH.nil)
                    go_simp
                    go_at_call 12
                    refine (c_irSame A9 c9 [⟨2, 0, 0⟩] (some ⟨gu, 0, none⟩) 1 [⟨2, 0, 0⟩] true (by decide) X372 R9X372.out RUX372.out).mono ?_
                    rintro e X373 ⟨rfl, bb⟩
                    have HKX373 := Lib.hid (below_join HKX372.out bb HKX372.out.size)
                    clear bb
                    try dsimp only
                    clear hHeld
                    refine hK.out _ _ (HS.out _ HKX373.out) (fun hHeld => ?_)
                    clear hK K
                    try simp only [Act.put, List.setIfInBounds_toArray, List.set_cons_zero, List.set_cons_succ]
                    refine takeH (i := 15) 41 (v := ?_) rfl rfl (by kernel_rfl) (by kernel_rfl) (by kernel_rfl) (fun _ _ _ h => h) (by rfl) ?_ hHeld ?_
                    rotate_left
                    · intro X hX; first | (go_simp; done) | (go_simp; with_reducible rfl)
                    try simp only [Act.put, List.setIfInBounds_toArray, List.set_cons_zero, List.set_cons_succ]
                    refine takeH (i := 16) 42 (v := ?_) rfl rfl (by kernel_rfl) (by kernel_rfl) (by kernel_rfl) (fun _ _ _ h => h) (by rfl) ?_ hHeld ?_
                    rotate_left
                    · intro X hX; first | (go_simp; done) | (go_simp; with_reducible rfl)
                    try simp only [Act.put, List.setIfInBounds_toArray, List.set_cons_zero, List.set_cons_succ]
                    refine takeH (i := 17) 43 (v := ?_) rfl rfl (by kernel_rfl) (by kernel_rfl) (by kernel_rfl) (fun _ _ _ h => h) (by rfl) ?_ hHeld ?_
                    rotate_left
                    · intro X hX; first | (go_simp; done) | (go_simp; with_reducible rfl)
                    try simp only [Act.put, List.setIfInBounds_toArray, List.set_cons_zero, List.set_cons_succ]
                    refine takeH (i := 18) 44 (v := ?_) rfl rfl (by kernel_rfl) (by kernel_rfl) (by kernel_rfl) (fun _ _ _ h => h) (by rfl) ?_ hHeld ?_
                    rotate_left
                    · intro X hX; first | (go_simp; done) | (go_simp; with_reducible rfl)
                    try simp only [Act.put, List.setIfInBounds_toArray, List.set_cons_zero, List.set_cons_succ]
                    refine takeH (i := 19) 45 (v := ?_) rfl rfl (by kernel_rfl) (by kernel_rfl) (by kernel_rfl) (fun _ _ _ h => h) (by rfl) ?_ hHeld ?_
                    rotate_left
                    · intro X hX; first | (go_simp; done) | (go_simp; with_reducible rfl)
                    try simp only [Act.put, List.setIfInBounds_toArray, List.set_cons_zero, List.set_cons_succ]
                    refine wpAnyH_ready (rs := [20]) (by kernel_rfl) (by simp) ?_
                    refine AllReadyH.cons rfl (fun K hK => ?_) (AllReadyH.nil)
                    go_simp
                    go_at_call 15
                    refine (c_ivHolds zN false ⟨fun h => (by cases h), fun h => absurd h zN_no⟩ [] rfl false rfl X373 (zN_at X373)).mono ?_
                    rintro e X374 ⟨rfl, bb⟩
                    have HKX374 := Lib.hid (below_join HKX373.out bb HKX373.out.size)
                    clear bb
                    try dsimp only
                    clear hHeld
                    refine hK.out _ _ (HS.out _ HKX374.out) (fun hHeld => ?_)
                    clear hK K
                    try simp only [Act.put, List.setIfInBounds_toArray, List.set_cons_zero, List.set_cons_succ]
                    refine takeH (i := 21) 47 (v := ?_) rfl rfl (by kernel_rfl) (by kernel_rfl) (by kernel_rfl) (fun _ _ _ h => h) (by rfl) ?_ hHeld ?_
                    rotate_left
                    · intro X hX; first | (go_simp; done) | (go_simp; with_reducible rfl)
                    try simp only [Act.put, List.setIfInBounds_toArray, List.set_cons_zero, List.set_cons_succ]
                    refine takeH (i := 22) 48 (v := ?_) rfl rfl (by kernel_rfl) (by kernel_rfl) (by kernel_rfl) (fun _ _ _ h => h) (by rfl) ?_ hHeld ?_
                    rotate_left
                    · intro X hX; first | (go_simp; done) | (go_simp; with_reducible rfl)
                    try simp only [Act.put, List.setIfInBounds_toArray, List.set_cons_zero, List.set_cons_succ]
                    refine takeH (i := 23) 49 (v := ?_) rfl rfl (by kernel_rfl) (by kernel_rfl) (by kernel_rfl) (fun _ _ _ h => h) (by rfl) ?_ hHeld ?_
                    rotate_left
                    · intro X hX; first | (go_simp; done) | (go_simp; with_reducible rfl)
                    try simp only [Act.put, List.setIfInBounds_toArray, List.set_cons_zero, List.set_cons_succ]
                    refine wpAnyH_ready (rs := [24]) (by kernel_rfl) (by simp) ?_
                    refine AllReadyH.cons rfl (fun K hK => ?_) (AllReadyH.nil)
                    go_simp
                    go_at_call 11
                    refine (c_live X374).mono ?_
                    rintro e X375 ⟨rfl, bb⟩
                    have HKX375 := Lib.hid (below_join HKX374.out bb HKX374.out.size)
                    clear bb
                    try dsimp only
                    clear hHeld
                    refine hK.out _ _ (HS.out _ HKX375.out) (fun hHeld => ?_)
                    clear hK K
                    try simp only [Act.put, List.setIfInBounds_toArray, List.set_cons_zero, List.set_cons_succ]
                    refine takeH (i := 25) 51 (v := ?_) rfl rfl (by kernel_rfl) (by kernel_rfl) (by kernel_rfl) (fun _ _ _ h => h) (by rfl) ?_ hHeld ?_
                    rotate_left
                    · intro X hX; first | (go_simp; done) | (go_simp; with_reducible rfl)
                    try simp only [Act.put, List.setIfInBounds_toArray, List.set_cons_zero, List.set_cons_succ]
                    refine takeH (i := 26) 0 (v := ?_) rfl rfl (by kernel_rfl) (by kernel_rfl) (by kernel_rfl) (fun _ _ _ h => h) (by rfl) ?_ hHeld ?_
                    rotate_left
                    · intro X hX; first | (go_simp; done) | (go_simp; with_reducible rfl)
                    try simp only [Act.put, List.setIfInBounds_toArray, List.set_cons_zero, List.set_cons_succ]
                    refine wpAnyH_done (by kernel_rfl) ?_ _
                    go_wp2_with (fail)
                    go_ret
                    exact ⟨rfl, below_join HB.out HKX375.out HB.out.size⟩
              · go_simp
                obtain ⟨X376, hX376⟩ : ∃ Y, Y = X364.alloc (.cells #[.int .u8 2, .int .i64 0, .int .i64 0] 44) := ⟨_, rfl⟩
                have bb : Below X364.heap.size X364 X376 := by rw [hX376]; exact (Below.refl _ _).alloc (Nat.le_refl _) _
                have HKX376 := Lib.hid (below_join HKX364.out bb HKX364.out.size)
                have T1X376 := Lib.hid (T1X364.out.on bb (Nat.le_refl _))
                have hbx : X376.heap[X364.heap.size]? = some (.cells #[.int .u8 2, .int .i64 0, .int .i64 0] 44 (0, 0)) := by rw [hX376]; exact box_new _ _ _
                have RUX376 := Lib.hid (rv_block (k := 3) (F := bnF) (l := [⟨2, 0, 0⟩]) hbx (by simp [maxLen]))
                obtain ⟨gu, hgu⟩ : ∃ g, X364.heap.size = g := ⟨_, rfl⟩
                rw [hgu] at RUX376 ⊢
                clear hgu
                rw [← hX376]
                clear bb hX376 hbx
                try dsimp only
                clear hHeld
                refine hK.out _ _ (HS.out _ HKX376.out) (fun hHeld => ?_)
                clear hK K
                try simp only [Act.put, List.setIfInBounds_toArray, List.set_cons_zero, List.set_cons_succ]
                refine wpAnyH_ready (rs := [9]) (by kernel_rfl) (by simp) ?_
                refine AllReadyH.cons rfl (fun K hK => ?_) (AllReadyH.nil)
                go_simp
                go_at_call 26
                refine (c_wishTo X376).mono ?_
                rintro e X377 ⟨A2, c2, b2, rfl, h1, bb⟩
                have HKX377 := Lib.hid (below_join HKX376.out bb HKX376.out.size)
                have T1X377 := Lib.hid (T1X376.out.on bb (Nat.le_refl _))
                have RUX377 := Lib.hid (RUX376.out.on bb (Nat.le_refl _))
                have T2X377 := Lib.hid h1
                clear h1
                clear bb
                try dsimp only
                clear hHeld
                refine hK.out _ _ (HS.out _ HKX377.out) (fun hHeld => ?_)
                clear hK K
                try simp only [Act.put, List.setIfInBounds_toArray, List.set_cons_zero, List.set_cons_succ]
                refine wpAnyH_ready (rs := [11]) (by kernel_rfl) (by simp) ?_
                refine AllReadyH.cons rfl (fun K hK => ?_) (AllReadyH.nil)
                go_simp
                go_at_call 13
                refine (c_Broken ⟨p2, exD, A2, c2, wxs b2, qw, W3⟩ true ⟨fun _ => ok3, fun _ => rfl⟩ [⟨2, 0, 0⟩] br3 X377 ⟨T1X377.out, T2X377.out, HW.out _ HKX377.out⟩).mono ?_
                rintro e X378 ⟨A9, c9, rfl, h1, bb⟩
                have HKX378 := Lib.hid (below_join HKX377.out bb HKX377.out.size)
                have RUX378 := Lib.hid (RUX377.out.on bb (Nat.le_refl _))
                have R9X378 := Lib.hid h1
                clear h1
                clear bb
                try dsimp only
                clear hHeld
                refine hK.out _ _ (HS.out _ HKX378.out) (fun hHeld => ?_)
                clear hK K
                try simp only [Act.put, List.setIfInBounds_toArray, List.set_cons_zero, List.set_cons_succ]
                as_aux_lemma =>
                  refine wpAnyH_ready (rs := [14]) (by kernel_rfl) (by simp) ?_
                  refine AllReadyH.cons rfl (fun K hK => ?_) (AllReadyH.nil)
                  go_simp
                  go_at_call 12
                  refine (c_irSame A9 c9 [⟨2, 0, 0⟩] (some ⟨gu, 0, none⟩) 1 [⟨2, 0, 0⟩] true (by decide) X378 R9X378.out RUX378.out).mono ?_
                  rintro e X379 ⟨rfl, bb⟩
                  have HKX379 := Lib.hid (below_join HKX378.out bb HKX378.out.size)
                  clear bb
                  try dsimp only
                  clear hHeld
                  refine hK.out _ _ (HS.out _ HKX379.out) (fun hHeld => ?_)
                  clear hK K
                  try simp only [Act.put, List.setIfInBounds_toArray, List.set_cons_zero, List.set_cons_succ]
                  refine takeH (i := 15) 41 (v := ?_) rfl rfl (by kernel_rfl) (by kernel_rfl) (by kernel_rfl) (fun _ _ _ h => h) (by rfl) ?_ hHeld ?_
                  rotate_left
                  · intro X hX; first | (go_simp; done) | (go_simp; with_reducible rfl)
                  try simp only [Act.put, List.setIfInBounds_toArray, List.set_cons_zero, List.set_cons_succ]
                  refine takeH (i := 16) 42 (v := ?_) rfl rfl (by kernel_rfl) (by kernel_rfl) (by kernel_rfl) (fun _ _ _ h => h) (by rfl) ?_ hHeld ?_
                  rotate_left
                  · intro X hX; first | (go_simp; done) | (go_simp; with_reducible rfl)
                  try simp only [Act.put, List.setIfInBounds_toArray, List.set_cons_zero, List.set_cons_succ]
                  refine takeH (i := 17) 43 (v := ?_) rfl rfl (by kernel_rfl) (by kernel_rfl) (by kernel_rfl) (fun _ _ _ h => h) (by rfl) ?_ hHeld ?_
                  rotate_left
                  · intro X hX; first | (go_simp; done) | (go_simp; with_reducible rfl)
                  try simp only [Act.put, List.setIfInBounds_toArray, List.set_cons_zero, List.set_cons_succ]
                  refine takeH (i := 18) 44 (v := ?_) rfl rfl (by kernel_rfl) (by kernel_rfl) (by kernel_rfl) (fun _ _ _ h => h) (by rfl) ?_ hHeld ?_
                  rotate_left
                  · intro X hX; first | (go_simp; done) | (go_simp; with_reducible rfl)
                  try simp only [Act.put, List.setIfInBounds_toArray, List.set_cons_zero, List.set_cons_succ]
                  refine takeH (i := 19) 45 (v := ?_) rfl rfl (by kernel_rfl) (by kernel_rfl) (by kernel_rfl) (fun _ _ _ h => h) (by rfl) ?_ hHeld ?_
                  rotate_left
                  · intro X hX; first | (go_simp; done) | (go_simp; with_reducible rfl)
                  try simp only [Act.put, List.setIfInBounds_toArray, List.set_cons_zero, List.set_cons_succ]
                  refine wpAnyH_ready (rs := [20]) (by kernel_rfl) (by simp) ?_
                  refine AllReadyH.cons rfl (fun K hK => ?_) (AllReadyH.nil)
                  go_simp
                  go_at_call 15
                  refine (c_ivHolds zN false ⟨fun h => (by cases h), fun h => absurd h zN_no⟩ [] rfl false rfl X379 (zN_at X379)).mono ?_
                  rintro e X380 ⟨rfl, bb⟩
                  have HKX380 := Lib.hid (below_join HKX379.out bb HKX379.out.size)
                  clear bb
                  try dsimp only
                  clear hHeld
                  refine hK.out _ _ (HS.out _ HKX380.out) (fun hHeld => ?_)
                  clear hK K
                  try simp only [Act.put, List.setIfInBounds_toArray, List.set_cons_zero, List.set_cons_succ]
                  refine takeH (i := 21) 47 (v := ?_) rfl rfl (by kernel_rfl) (by kernel_rfl) (by kernel_rfl) (fun _ _ _ h => h) (by rfl) ?_ hHeld ?_
                  rotate_left
                  · intro X hX; first | (go_simp; done) | (go_simp; with_reducible rfl)
                  try simp only [Act.put, List.setIfInBounds_toArray, List.set_cons_zero, List.set_cons_succ]
                  refine takeH (i := 22) 48 (v := ?_) rfl rfl (by kernel_rfl) (by kernel_rfl) (by kernel_rfl) (fun _ _ _ h => h) (by rfl) ?_ hHeld ?_
                  rotate_left
                  · intro X hX; first | (go_simp; done) | (go_simp; with_reducible rfl)
                  try simp only [Act.put, List.setIfInBounds_toArray, List.set_cons_zero, List.set_cons_succ]
                  refine takeH (i := 23) 49 (v := ?_) rfl rfl (by kernel_rfl) (by kernel_rfl) (by kernel_rfl) (fun _ _ _ h => h) (by rfl) ?_ hHeld ?_
                  rotate_left
                  · intro X hX; first | (go_simp; done) | (go_simp; with_reducible rfl)
                  try simp only [Act.put, List.setIfInBounds_toArray, List.set_cons_zero, List.set_cons_succ]
                  refine wpAnyH_ready (rs := [24]) (by kernel_rfl) (by simp) ?_
                  refine AllReadyH.cons rfl (fun K hK => ?_) (AllReadyH.nil)
                  go_simp
                  go_at_call 11
                  refine (c_live X380).mono ?_
                  rintro e X381 ⟨rfl, bb⟩
                  have HKX381 := Lib.hid (below_join HKX380.out bb HKX380.out.size)
                  clear bb
                  try dsimp only
                  clear hHeld
                  refine hK.out _ _ (HS.out _ HKX381.out) (fun hHeld => ?_)
                  clear hK K
                  try simp only [Act.put, List.setIfInBounds_toArray, List.set_cons_zero, List.set_cons_succ]
                  refine takeH (i := 25) 51 (v := ?_) rfl rfl (by kernel_rfl) (by kernel_rfl) (by kernel_rfl) (fun _ _ _ h => h) (by rfl) ?_ hHeld ?_
                  rotate_left
                  · intro X hX; first | (go_simp; done) | (go_simp; with_reducible rfl)
                  try simp only [Act.put, List.setIfInBounds_toArray, List.set_cons_zero, List.set_cons_succ]
                  refine takeH (i := 26) 0 (v := ?_) rfl rfl (by kernel_rfl) (by kernel_rfl) (by kernel_rfl) (fun _ _ _ h => h) (by rfl) ?_ hHeld ?_
                  rotate_left
                  · intro X hX; first | (go_simp; done) | (go_simp; with_reducible rfl)
                  try simp only [Act.put, List.setIfInBounds_toArray, List.set_cons_zero, List.set_cons_succ]
                  refine wpAnyH_done (by kernel_rfl) ?_ _
                  go_wp2_with (fail)
                  go_ret
                  exact ⟨rfl, below_join HB.out HKX381.out HB.out.size⟩
            · go_simp
              obtain ⟨X382, hX382⟩ : ∃ Y, Y = X363.alloc (.cells #[.int .u8 2, .int .i64 0, .int .i64 0] 44) := ⟨_, rfl⟩
              have bb : Below X363.heap.size X363 X382 := by rw [hX382]; exact (Below.refl _ _).alloc (Nat.le_refl _) _
              have HKX382 := Lib.hid (below_join HKX363.out bb HKX363.out.size)
              have hbx : X382.heap[X363.heap.size]? = some (.cells #[.int .u8 2, .int .i64 0, .int .i64 0] 44 (0, 0)) := by rw [hX382]; exact box_new _ _ _
              have RUX382 := Lib.hid (rv_block (k := 3) (F := bnF) (l := [⟨2, 0, 0⟩]) hbx (by simp [maxLen]))
              obtain ⟨gu, hgu⟩ : ∃ g, X363.heap.size = g := ⟨_, rfl⟩
              rw [hgu] at RUX382 ⊢
              clear hgu
              rw [← hX382]
              clear bb hX382 hbx
              try dsimp only
              clear hHeld
              refine hK.out _ _ (HS.out _ HKX382.out) (fun hHeld => ?_)
              clear hK K
              try simp only [Act.put, List.setIfInBounds_toArray, List.set_cons_zero, List.set_cons_succ]
              refine wpAnyH_ready (rs := [8]) (by kernel_rfl) (by simp) ?_
              refine AllReadyH.cons rfl (fun K hK => ?_) (AllReadyH.nil)
              go_simp
              go_at_call 25
              refine (c_siteTo X382).mono ?_
              rintro e X383 ⟨p2, rfl, h1, bb⟩
              have HKX383 := Lib.hid (below_join HKX382.out bb HKX382.out.size)
              have RUX383 := Lib.hid (RUX382.out.on bb (Nat.le_refl _))
              have T1X383 := Lib.hid h1
              clear h1
              clear bb
              try dsimp only
              clear hHeld
              refine hK.out _ _ (HS.out _ HKX383.out) (fun hHeld => ?_)
              clear hK K
              try simp only [Act.put, List.setIfInBounds_toArray, List.set_cons_zero, List.set_cons_succ]
              refine wpAnyH_ready (rs := [9]) (by kernel_rfl) (by simp) ?_
              refine AllReadyH.cons rfl (fun K hK => ?_) (AllReadyH.nil)
              go_simp
              go_at_call 26
              refine (c_wishTo X383).mono ?_
              rintro e X384 ⟨A2, c2, b2, rfl, h1, bb⟩
              have HKX384 := Lib.hid (below_join HKX383.out bb HKX383.out.size)
              have RUX384 := Lib.hid (RUX383.out.on bb (Nat.le_refl _))
              have T1X384 := Lib.hid (T1X383.out.on bb (Nat.le_refl _))
              have T2X384 := Lib.hid h1
              clear h1
              clear bb
              try dsimp only
              clear hHeld
              refine hK.out _ _ (HS.out _ HKX384.out) (fun hHeld => ?_)
              clear hK K
              try simp only [Act.put, List.setIfInBounds_toArray, List.set_cons_zero, List.set_cons_succ]
              refine wpAnyH_ready (rs := [11]) (by kernel_rfl) (by simp) ?_
              refine AllReadyH.cons rfl (fun K hK => ?_) (AllReadyH.nil)
              go_simp
              go_at_call 13
              refine (c_Broken ⟨p2, exD, A2, c2, wxs b2, qw, W3⟩ true ⟨fun _ => ok3, fun _ => rfl⟩ [⟨2, 0, 0⟩] br3 X384 ⟨T1X384.out, T2X384.out, HW.out _ HKX384.out⟩).mono ?_
              rintro e X385 ⟨A9, c9, rfl, h1, bb⟩
              have HKX385 := Lib.hid (below_join HKX384.out bb HKX384.out.size)
              have RUX385 := Lib.hid (RUX384.out.on bb (Nat.le_refl _))
              have R9X385 := Lib.hid h1
              clear h1
              clear bb
              try dsimp only
              clear hHeld
              refine hK.out _ _ (HS.out _ HKX385.out) (fun hHeld => ?_)
              clear hK K
              try simp only [Act.put, List.setIfInBounds_toArray, List.set_cons_zero, List.set_cons_succ]
              as_aux_lemma =>
                refine wpAnyH_ready (rs := [14]) (by kernel_rfl) (by simp) ?_
                refine AllReadyH.cons rfl (fun K hK => ?_) (AllReadyH.nil)
                go_simp
                go_at_call 12
                refine (c_irSame A9 c9 [⟨2, 0, 0⟩] (some ⟨gu, 0, none⟩) 1 [⟨2, 0, 0⟩] true (by decide) X385 R9X385.out RUX385.out).mono ?_
                rintro e X386 ⟨rfl, bb⟩
                have HKX386 := Lib.hid (below_join HKX385.out bb HKX385.out.size)
                clear bb
                try dsimp only
                clear hHeld
                refine hK.out _ _ (HS.out _ HKX386.out) (fun hHeld => ?_)
                clear hK K
                try simp only [Act.put, List.setIfInBounds_toArray, List.set_cons_zero, List.set_cons_succ]
                refine takeH (i := 15) 41 (v := ?_) rfl rfl (by kernel_rfl) (by kernel_rfl) (by kernel_rfl) (fun _ _ _ h => h) (by rfl) ?_ hHeld ?_
                rotate_left
                · intro X hX; first | (go_simp; done) | (go_simp; with_reducible rfl)
                try simp only [Act.put, List.setIfInBounds_toArray, List.set_cons_zero, List.set_cons_succ]
                refine takeH (i := 16) 42 (v := ?_) rfl rfl (by kernel_rfl) (by kernel_rfl) (by kernel_rfl) (fun _ _ _ h => h) (by rfl) ?_ hHeld ?_
                rotate_left
                · intro X hX; first | (go_simp; done) | (go_simp; with_reducible rfl)
                try simp only [Act.put, List.setIfInBounds_toArray, List.set_cons_zero, List.set_cons_succ]
                refine takeH (i := 17) 43 (v := ?_) rfl rfl (by kernel_rfl) (by kernel_rfl) (by kernel_rfl) (fun _ _ _ h => h) (by rfl) ?_ hHeld ?_
                rotate_left
                · intro X hX; first | (go_simp; done) | (go_simp; with_reducible rfl)
                try simp only [Act.put, List.setIfInBounds_toArray, List.set_cons_zero, List.set_cons_succ]
                refine takeH (i := 18) 44 (v := ?_) rfl rfl (by kernel_rfl) (by kernel_rfl) (by kernel_rfl) (fun _ _ _ h => h) (by rfl) ?_ hHeld ?_
                rotate_left
                · intro X hX; first | (go_simp; done) | (go_simp; with_reducible rfl)
                try simp only [Act.put, List.setIfInBounds_toArray, List.set_cons_zero, List.set_cons_succ]
                refine takeH (i := 19) 45 (v := ?_) rfl rfl (by kernel_rfl) (by kernel_rfl) (by kernel_rfl) (fun _ _ _ h => h) (by rfl) ?_ hHeld ?_
                rotate_left
                · intro X hX; first | (go_simp; done) | (go_simp; with_reducible rfl)
                try simp only [Act.put, List.setIfInBounds_toArray, List.set_cons_zero, List.set_cons_succ]
                refine wpAnyH_ready (rs := [20]) (by kernel_rfl) (by simp) ?_
                refine AllReadyH.cons rfl (fun K hK => ?_) (AllReadyH.nil)
                go_simp
                go_at_call 15
                refine (c_ivHolds zN false ⟨fun h => (by cases h), fun h => absurd h zN_no⟩ [] rfl false rfl X386 (zN_at X386)).mono ?_
                rintro e X387 ⟨rfl, bb⟩
                have HKX387 := Lib.hid (below_join HKX386.out bb HKX386.out.size)
                clear bb
                try dsimp only
                clear hHeld
                refine hK.out _ _ (HS.out _ HKX387.out) (fun hHeld => ?_)
                clear hK K
                try simp only [Act.put, List.setIfInBounds_toArray, List.set_cons_zero, List.set_cons_succ]
                refine takeH (i := 21) 47 (v := ?_) rfl rfl (by kernel_rfl) (by kernel_rfl) (by kernel_rfl) (fun _ _ _ h => h) (by rfl) ?_ hHeld ?_
                rotate_left
                · intro X hX; first | (go_simp; done) | (go_simp; with_reducible rfl)
                try simp only [Act.put, List.setIfInBounds_toArray, List.set_cons_zero, List.set_cons_succ]
                refine takeH (i := 22) 48 (v := ?_) rfl rfl (by kernel_rfl) (by kernel_rfl) (by kernel_rfl) (fun _ _ _ h => h) (by rfl) ?_ hHeld ?_
                rotate_left
                · intro X hX; first | (go_simp; done) | (go_simp; with_reducible rfl)
                try simp only [Act.put, List.setIfInBounds_toArray, List.set_cons_zero, List.set_cons_succ]
                refine takeH (i := 23) 49 (v := ?_) rfl rfl (by kernel_rfl) (by kernel_rfl) (by kernel_rfl) (fun _ _ _ h => h) (by rfl) ?_ hHeld ?_
                rotate_left
                · intro X hX; first | (go_simp; done) | (go_simp; with_reducible rfl)
                try simp only [Act.put, List.setIfInBounds_toArray, List.set_cons_zero, List.set_cons_succ]
                refine wpAnyH_ready (rs := [24]) (by kernel_rfl) (by simp) ?_
                refine AllReadyH.cons rfl (fun K hK => ?_) (AllReadyH.nil)
                go_simp
                go_at_call 11
                refine (c_live X387).mono ?_
                rintro e X388 ⟨rfl, bb⟩
                have HKX388 := Lib.hid (below_join HKX387.out bb HKX387.out.size)
                clear bb
                try dsimp only
                clear hHeld
                refine hK.out _ _ (HS.out _ HKX388.out) (fun hHeld => ?_)
                clear hK K
                try simp only [Act.put, List.setIfInBounds_toArray, List.set_cons_zero, List.set_cons_succ]
                refine takeH (i := 25) 51 (v := ?_) rfl rfl (by kernel_rfl) (by kernel_rfl) (by kernel_rfl) (fun _ _ _ h => h) (by rfl) ?_ hHeld ?_
                rotate_left
                · intro X hX; first | (go_simp; done) | (go_simp; with_reducible rfl)
                try simp only [Act.put, List.setIfInBounds_toArray, List.set_cons_zero, List.set_cons_succ]
                refine takeH (i := 26) 0 (v := ?_) rfl rfl (by kernel_rfl) (by kernel_rfl) (by kernel_rfl) (fun _ _ _ h => h) (by rfl) ?_ hHeld ?_
                rotate_left
                · intro X hX; first | (go_simp; done) | (go_simp; with_reducible rfl)
                try simp only [Act.put, List.setIfInBounds_toArray, List.set_cons_zero, List.set_cons_succ]
                refine wpAnyH_done (by kernel_rfl) ?_ _
                go_wp2_with (fail)
                go_ret
                exact ⟨rfl, below_join HB.out HKX388.out HB.out.size⟩
    · go_simp
      obtain ⟨X389, hX389⟩ : ∃ Y, Y = X301.alloc (.cells #[.int .u8 3, .int .i64 0, .int .i64 0] 44) := ⟨_, rfl⟩
      have bb : Below X301.heap.size X301 X389 := by rw [hX389]; exact (Below.refl _ _).alloc (Nat.le_refl _) _
      have HKX389 := Lib.hid (below_join HKX301.out bb HKX301.out.size)
      have S1X389 := Lib.hid (S1X301.out.on bb (Nat.le_refl _))
      have hbx : X389.heap[X301.heap.size]? = some (.cells #[.int .u8 3, .int .i64 0, .int .i64 0] 44 (0, 0)) := by rw [hX389]; exact box_new _ _ _
      have RTX389 := Lib.hid (rv_block (k := 3) (F := bnF) (l := [⟨3, 0, 0⟩]) hbx (by simp [maxLen]))
      obtain ⟨gt, hgt⟩ : ∃ g, X301.heap.size = g := ⟨_, rfl⟩
      rw [hgt] at RTX389 ⊢
      clear hgt
      rw [← hX389]
      clear bb hX389 hbx
      try dsimp only
      clear hHeld
      refine hK.out _ _ (HS.out _ HKX389.out) (fun hHeld => ?_)
      clear hK K
      try simp only [Act.put, List.setIfInBounds_toArray, List.set_cons_zero, List.set_cons_succ]
      refine wpAnyH_ready (rs := [1]) (by kernel_rfl) (by simp) ?_
      refine AllReadyH.cons rfl (fun K hK => ?_) (AllReadyH.nil)
      go_simp
      go_at_call 26
      refine (c_wishTo X389).mono ?_
      rintro e X390 ⟨A, c, b, rfl, h1, bb⟩
      have HKX390 := Lib.hid (below_join HKX389.out bb HKX389.out.size)
      have S1X390 := Lib.hid (S1X389.out.on bb (Nat.le_refl _))
      have RTX390 := Lib.hid (RTX389.out.on bb (Nat.le_refl _))
      have S2X390 := Lib.hid h1
      clear h1
      clear bb
      try dsimp only
      clear hHeld
      refine hK.out _ _ (HS.out _ HKX390.out) (fun hHeld => ?_)
      clear hK K
      try simp only [Act.put, List.setIfInBounds_toArray, List.set_cons_zero, List.set_cons_succ]
      refine wpAnyH_ready (rs := [2]) (by kernel_rfl) (by simp) ?_
      refine AllReadyH.cons rfl (fun K hK => ?_) (AllReadyH.nil)
      go_simp
      go_at_call 24
      refine (c_worldN none 0 [] 0 rfl X390 (Rv.nil _)).mono ?_
      rintro e X391 ⟨q, rfl, h1, bb⟩
      have HKX391 := Lib.hid (below_join HKX390.out bb HKX390.out.size)
      have S1X391 := Lib.hid (S1X390.out.on bb (Nat.le_refl _))
      have RTX391 := Lib.hid (RTX390.out.on bb (Nat.le_refl _))
      have S2X391 := Lib.hid (S2X390.out.on bb (Nat.le_refl _))
      have WQX391 := Lib.hid h1
      clear h1
      clear bb
      try dsimp only
      clear hHeld
      refine hK.out _ _ (HS.out _ HKX391.out) (fun hHeld => ?_)
      clear hK K
      try simp only [Act.put, List.setIfInBounds_toArray, List.set_cons_zero, List.set_cons_succ]
      refine wpAnyH_ready (rs := [3]) (by kernel_rfl) (by simp) ?_
      refine AllReadyH.cons rfl (fun K hK => ?_) (AllReadyH.nil)
      go_simp
      go_at_call 13
      refine (c_Broken ⟨p, exD, A, c, wxs b, q, W0⟩ true ⟨fun _ => ok0, fun _ => rfl⟩ [⟨3, 0, 0⟩] br0 X391 ⟨S1X391.out, S2X391.out, WQX391.out⟩).mono ?_
      rintro e X392 ⟨A8, c8, rfl, h1, bb⟩
      have HKX392 := Lib.hid (below_join HKX391.out bb HKX391.out.size)
      have RTX392 := Lib.hid (RTX391.out.on bb (Nat.le_refl _))
      have R8X392 := Lib.hid h1
      clear h1
      clear bb
      try dsimp only
      clear hHeld
      refine hK.out _ _ (HS.out _ HKX392.out) (fun hHeld => ?_)
      clear hK K
      try simp only [Act.put, List.setIfInBounds_toArray, List.set_cons_zero, List.set_cons_succ]
      as_aux_lemma =>
        refine wpAnyH_ready (rs := [6]) (by kernel_rfl) (by simp) ?_
        refine AllReadyH.cons rfl (fun K hK => ?_) (AllReadyH.nil)
        go_simp
        go_at_call 12
        refine (c_irSame A8 c8 [⟨3, 0, 0⟩] (some ⟨gt, 0, none⟩) 1 [⟨3, 0, 0⟩] true (by decide) X392 R8X392.out RTX392.out).mono ?_
        rintro e X393 ⟨rfl, bb⟩
        have HKX393 := Lib.hid (below_join HKX392.out bb HKX392.out.size)
        clear bb
        try dsimp only
        clear hHeld
        refine hK.out _ _ (HS.out _ HKX393.out) (fun hHeld => ?_)
        clear hK K
        try simp only [Act.put, List.setIfInBounds_toArray, List.set_cons_zero, List.set_cons_succ]
        refine takeH (i := 7) 33 (v := ?_) rfl rfl (by kernel_rfl) (by kernel_rfl) (by kernel_rfl) (fun _ _ _ h => h) (by rfl) ?_ hHeld ?_
        rotate_left
        · intro X hX; first | (go_simp; done) | (go_simp; with_reducible rfl)
        try simp only [Act.put, List.setIfInBounds_toArray, List.set_cons_zero, List.set_cons_succ]
        refine takeH (i := 10) 36 (v := ?_) rfl rfl (by kernel_rfl) (by kernel_rfl) (by kernel_rfl) (fun _ _ _ h => h) (by rfl) ?_ hHeld ?_
        rotate_left
        · intro X hX; obtain ⟨hq0, hq1⟩ := hX; first | (go_simp; done) | (go_simp; with_reducible rfl)
        try simp only [Act.put, List.setIfInBounds_toArray, List.set_cons_zero, List.set_cons_succ]
        refine takeH (i := 12) 38 (v := ?_) rfl rfl (by kernel_rfl) (by kernel_rfl) (by kernel_rfl) (fun _ _ _ h => h) (by rfl) ?_ hHeld ?_
        rotate_left
        · intro X hX; first | (go_simp; done) | (go_simp; with_reducible rfl)
        try simp only [Act.put, List.setIfInBounds_toArray, List.set_cons_zero, List.set_cons_succ]
        as_aux_lemma =>
          refine wpAnyH_ready (rs := [8, 13]) (by kernel_rfl) (by simp) ?_
          refine AllReadyH.cons rfl (fun K hK => ?_) (AllReadyH.cons rfl (fun K hK => ?_) (AllReadyH.nil))
          · go_simp
            go_at_call 25
            refine (c_siteTo X393).mono ?_
            rintro e X394 ⟨p2, rfl, h1, bb⟩
            have HKX394 := Lib.hid (below_join HKX393.out bb HKX393.out.size)
            have T1X394 := Lib.hid h1
            clear h1
            clear bb
            try dsimp only
            clear hHeld
            refine hK.out _ _ (HS.out _ HKX394.out) (fun hHeld => ?_)
            clear hK K
            try simp only [Act.put, List.setIfInBounds_toArray, List.set_cons_zero, List.set_cons_succ]
            refine wpAnyH_ready (rs := [9, 13]) (by kernel_rfl) (by simp) ?_
            refine AllReadyH.cons rfl (fun K hK => ?_) (AllReadyH.cons rfl (fun K hK => ?_) (AllReadyH.nil))
            · go_simp
              go_at_call 26
              refine (c_wishTo X394).mono ?_
              rintro e X395 ⟨A2, c2, b2, rfl, h1, bb⟩
              have HKX395 := Lib.hid (below_join HKX394.out bb HKX394.out.size)
              have T1X395 := Lib.hid (T1X394.out.on bb (Nat.le_refl _))
              have T2X395 := Lib.hid h1
              clear h1
              clear bb
              try dsimp only
              clear hHeld
              refine hK.out _ _ (HS.out _ HKX395.out) (fun hHeld => ?_)
              clear hK K
              try simp only [Act.put, List.setIfInBounds_toArray, List.set_cons_zero, List.set_cons_succ]
              refine wpAnyH_ready (rs := [11, 13]) (by kernel_rfl) (by simp) ?_
              refine AllReadyH.cons rfl (fun K hK => ?_) (AllReadyH.cons rfl (fun K hK => ?_) (AllReadyH.nil))
              · go_simp
                go_at_call 13
                refine (c_Broken ⟨p2, exD, A2, c2, wxs b2, qw, W3⟩ true ⟨fun _ => ok3, fun _ => rfl⟩ [⟨2, 0, 0⟩] br3 X395 ⟨T1X395.out, T2X395.out, HW.out _ HKX395.out⟩).mono ?_
                rintro e X396 ⟨A9, c9, rfl, h1, bb⟩
                have HKX396 := Lib.hid (below_join HKX395.out bb HKX395.out.size)
                have R9X396 := Lib.hid h1
                clear h1
                clear bb
                try dsimp only
                clear hHeld
                refine hK.out _ _ (HS.out _ HKX396.out) (fun hHeld => ?_)
                clear hK K
                try simp only [Act.put, List.setIfInBounds_toArray, List.set_cons_zero, List.set_cons_succ]
                refine wpAnyH_ready (rs := [13]) (by kernel_rfl) (by simp) ?_
                refine AllReadyH.cons rfl (fun K hK => ?_) (AllReadyH.nil)
                go_simp
                obtain ⟨X397, hX397⟩ : ∃ Y, Y = X396.alloc (.cells #[.int .u8 2, .int .i64 0, .int .i64 0] 44) := ⟨_, rfl⟩
                have bb : Below X396.heap.size X396 X397 := by rw [hX397]; exact (Below.refl _ _).alloc (Nat.le_refl _) _
                have HKX397 := Lib.hid (below_join HKX396.out bb HKX396.out.size)
                have R9X397 := Lib.hid (R9X396.out.on bb (Nat.le_refl _))
                have hbx : X397.heap[X396.heap.size]? = some (.cells #[.int .u8 2, .int .i64 0, .int .i64 0] 44 (0, 0)) := by rw [hX397]; exact box_new _ _ _
                have RUX397 := Lib.hid (rv_block (k := 3) (F := bnF) (l := [⟨2, 0, 0⟩]) hbx (by simp [maxLen]))
                obtain ⟨gu, hgu⟩ : ∃ g, X396.heap.size = g := ⟨_, rfl⟩
                rw [hgu] at RUX397 ⊢
                clear hgu
                rw [← hX397]
                clear bb hX397 hbx
                try dsimp only
                clear hHeld
                refine hK.out _ _ (HS.out _ HKX397.out) (fun hHeld => ?_)
                clear hK K
                try simp only [Act.put, List.setIfInBounds_toArray, List.set_cons_zero, List.set_cons_succ]
                as_aux_lemma =>
                  refine wpAnyH_ready (rs := [14]) (by kernel_rfl) (by simp) ?_
                  refine AllReadyH.cons rfl (fun K hK => ?_) (AllReadyH.nil)
                  go_simp
                  go_at_call 12
                  refine (c_irSame A9 c9 [⟨2, 0, 0⟩] (some ⟨gu, 0, none⟩) 1 [⟨2, 0, 0⟩] true (by decide) X397 R9X397.out RUX397.out).mono ?_
                  rintro e X398 ⟨rfl, bb⟩
                  have HKX398 := Lib.hid (below_join HKX397.out bb HKX397.out.size)
                  clear bb
                  try dsimp only
                  clear hHeld
                  refine hK.out _ _ (HS.out _ HKX398.out) (fun hHeld => ?_)
                  clear hK K
                  try simp only [Act.put, List.setIfInBounds_toArray, List.set_cons_zero, List.set_cons_succ]
                  refine takeH (i := 15) 41 (v := ?_) rfl rfl (by kernel_rfl) (by kernel_rfl) (by kernel_rfl) (fun _ _ _ h => h) (by rfl) ?_ hHeld ?_
                  rotate_left
                  · intro X hX; first | (go_simp; done) | (go_simp; with_reducible rfl)
                  try simp only [Act.put, List.setIfInBounds_toArray, List.set_cons_zero, List.set_cons_succ]
                  refine takeH (i := 16) 42 (v := ?_) rfl rfl (by kernel_rfl) (by kernel_rfl) (by kernel_rfl) (fun _ _ _ h => h) (by rfl) ?_ hHeld ?_
                  rotate_left
                  · intro X hX; first | (go_simp; done) | (go_simp; with_reducible rfl)
                  try simp only [Act.put, List.setIfInBounds_toArray, List.set_cons_zero, List.set_cons_succ]
                  refine takeH (i := 17) 43 (v := ?_) rfl rfl (by kernel_rfl) (by kernel_rfl) (by kernel_rfl) (fun _ _ _ h => h) (by rfl) ?_ hHeld ?_
                  rotate_left
                  · intro X hX; first | (go_simp; done) | (go_simp; with_reducible rfl)
                  try simp only [Act.put, List.setIfInBounds_toArray, List.set_cons_zero, List.set_cons_succ]
                  refine takeH (i := 18) 44 (v := ?_) rfl rfl (by kernel_rfl) (by kernel_rfl) (by kernel_rfl) (fun _ _ _ h => h) (by rfl) ?_ hHeld ?_
                  rotate_left
                  · intro X hX; first | (go_simp; done) | (go_simp; with_reducible rfl)
                  try simp only [Act.put, List.setIfInBounds_toArray, List.set_cons_zero, List.set_cons_succ]
                  refine takeH (i := 19) 45 (v := ?_) rfl rfl (by kernel_rfl) (by kernel_rfl) (by kernel_rfl) (fun _ _ _ h => h) (by rfl) ?_ hHeld ?_
                  rotate_left
                  · intro X hX; first | (go_simp; done) | (go_simp; with_reducible rfl)
                  try simp only [Act.put, List.setIfInBounds_toArray, List.set_cons_zero, List.set_cons_succ]
                  refine wpAnyH_ready (rs := [20]) (by kernel_rfl) (by simp) ?_
                  refine AllReadyH.cons rfl (fun K hK => ?_) (AllReadyH.nil)
                  go_simp
                  go_at_call 15
                  refine (c_ivHolds zN false ⟨fun h => (by cases h), fun h => absurd h zN_no⟩ [] rfl false rfl X398 (zN_at X398)).mono ?_
                  rintro e X399 ⟨rfl, bb⟩
                  have HKX399 := Lib.hid (below_join HKX398.out bb HKX398.out.size)
                  clear bb
                  try dsimp only
                  clear hHeld
                  refine hK.out _ _ (HS.out _ HKX399.out) (fun hHeld => ?_)
                  clear hK K
                  try simp only [Act.put, List.setIfInBounds_toArray, List.set_cons_zero, List.set_cons_succ]
                  refine takeH (i := 21) 47 (v := ?_) rfl rfl (by kernel_rfl) (by kernel_rfl) (by kernel_rfl) (fun _ _ _ h => h) (by rfl) ?_ hHeld ?_
                  rotate_left
                  · intro X hX; first | (go_simp; done) | (go_simp; with_reducible rfl)
                  try simp only [Act.put, List.setIfInBounds_toArray, List.set_cons_zero, List.set_cons_succ]
                  refine takeH (i := 22) 48 (v := ?_) rfl rfl (by kernel_rfl) (by kernel_rfl) (by kernel_rfl) (fun _ _ _ h => h) (by rfl) ?_ hHeld ?_
                  rotate_left
                  · intro X hX; first | (go_simp; done) | (go_simp; with_reducible rfl)
                  try simp only [Act.put, List.setIfInBounds_toArray, List.set_cons_zero, List.set_cons_succ]
                  refine takeH (i := 23) 49 (v := ?_) rfl rfl (by kernel_rfl) (by kernel_rfl) (by kernel_rfl) (fun _ _ _ h => h) (by rfl) ?_ hHeld ?_
                  rotate_left
                  · intro X hX; first | (go_simp; done) | (go_simp; with_reducible rfl)
                  try simp only [Act.put, List.setIfInBounds_toArray, List.set_cons_zero, List.set_cons_succ]
                  refine wpAnyH_ready (rs := [24]) (by kernel_rfl) (by simp) ?_
                  refine AllReadyH.cons rfl (fun K hK => ?_) (AllReadyH.nil)
                  go_simp
                  go_at_call 11
                  refine (c_live X399).mono ?_
                  rintro e X400 ⟨rfl, bb⟩
                  have HKX400 := Lib.hid (below_join HKX399.out bb HKX399.out.size)
                  clear bb
                  try dsimp only
                  clear hHeld
                  refine hK.out _ _ (HS.out _ HKX400.out) (fun hHeld => ?_)
                  clear hK K
                  try simp only [Act.put, List.setIfInBounds_toArray, List.set_cons_zero, List.set_cons_succ]
                  refine takeH (i := 25) 51 (v := ?_) rfl rfl (by kernel_rfl) (by kernel_rfl) (by kernel_rfl) (fun _ _ _ h => h) (by rfl) ?_ hHeld ?_
                  rotate_left
                  · intro X hX; first | (go_simp; done) | (go_simp; with_reducible rfl)
                  try simp only [Act.put, List.setIfInBounds_toArray, List.set_cons_zero, List.set_cons_succ]
                  refine takeH (i := 26) 0 (v := ?_) rfl rfl (by kernel_rfl) (by kernel_rfl) (by kernel_rfl) (fun _ _ _ h => h) (by rfl) ?_ hHeld ?_
                  rotate_left
                  · intro X hX; first | (go_simp; done) | (go_simp; with_reducible rfl)
                  try simp only [Act.put, List.setIfInBounds_toArray, List.set_cons_zero, List.set_cons_succ]
                  refine wpAnyH_done (by kernel_rfl) ?_ _
                  go_wp2_with (fail)
                  go_ret
                  exact ⟨rfl, below_join HB.out HKX400.out HB.out.size⟩
              · go_simp
                obtain ⟨X401, hX401⟩ : ∃ Y, Y = X395.alloc (.cells #[.int .u8 2, .int .i64 0, .int .i64 0] 44) := ⟨_, rfl⟩
                have bb : Below X395.heap.size X395 X401 := by rw [hX401]; exact (Below.refl _ _).alloc (Nat.le_refl _) _
                have HKX401 := Lib.hid (below_join HKX395.out bb HKX395.out.size)
                have T1X401 := Lib.hid (T1X395.out.on bb (Nat.le_refl _))
                have T2X401 := Lib.hid (T2X395.out.on bb (Nat.le_refl _))
                have hbx : X401.heap[X395.heap.size]? = some (.cells #[.int .u8 2, .int .i64 0, .int .i64 0] 44 (0, 0)) := by rw [hX401]; exact box_new _ _ _
                have RUX401 := Lib.hid (rv_block (k := 3) (F := bnF) (l := [⟨2, 0, 0⟩]) hbx (by simp [maxLen]))
                obtain ⟨gu, hgu⟩ : ∃ g, X395.heap.size = g := ⟨_, rfl⟩
                rw [hgu] at RUX401 ⊢
                clear hgu
                rw [← hX401]
                clear bb hX401 hbx
                try dsimp only
                clear hHeld
                refine hK.out _ _ (HS.out _ HKX401.out) (fun hHeld => ?_)
                clear hK K
                try simp only [Act.put, List.setIfInBounds_toArray, List.set_cons_zero, List.set_cons_succ]
                refine wpAnyH_ready (rs := [11]) (by kernel_rfl) (by simp) ?_
                refine AllReadyH.cons rfl (fun K hK => ?_) (AllReadyH.nil)
                go_simp
                go_at_call 13
                refine (c_Broken ⟨p2, exD, A2, c2, wxs b2, qw, W3⟩ true ⟨fun _ => ok3, fun _ => rfl⟩ [⟨2, 0, 0⟩] br3 X401 ⟨T1X401.out, T2X401.out, HW.out _ HKX401.out⟩).mono ?_
                rintro e X402 ⟨A9, c9, rfl, h1, bb⟩
                have HKX402 := Lib.hid (below_join HKX401.out bb HKX401.out.size)
                have RUX402 := Lib.hid (RUX401.out.on bb (Nat.le_refl _))
                have R9X402 := Lib.hid h1
                clear h1
                clear bb
                try dsimp only
                clear hHeld
                refine hK.out _ _ (HS.out _ HKX402.out) (fun hHeld => ?_)
                clear hK K
                try simp only [Act.put, List.setIfInBounds_toArray, List.set_cons_zero, List.set_cons_succ]
                as_aux_lemma =>
                  refine wpAnyH_ready (rs := [14]) (by kernel_rfl) (by simp) ?_
                  refine AllReadyH.cons rfl (fun K hK => ?_) (AllReadyH.nil)
                  go_simp
                  go_at_call 12
                  refine (c_irSame A9 c9 [⟨2, 0, 0⟩] (some ⟨gu, 0, none⟩) 1 [⟨2, 0, 0⟩] true (by decide) X402 R9X402.out RUX402.out).mono ?_
                  rintro e X403 ⟨rfl, bb⟩
                  have HKX403 := Lib.hid (below_join HKX402.out bb HKX402.out.size)
                  clear bb
                  try dsimp only
                  clear hHeld
                  refine hK.out _ _ (HS.out _ HKX403.out) (fun hHeld => ?_)
                  clear hK K
                  try simp only [Act.put, List.setIfInBounds_toArray, List.set_cons_zero, List.set_cons_succ]
                  refine takeH (i := 15) 41 (v := ?_) rfl rfl (by kernel_rfl) (by kernel_rfl) (by kernel_rfl) (fun _ _ _ h => h) (by rfl) ?_ hHeld ?_
                  rotate_left
                  · intro X hX; first | (go_simp; done) | (go_simp; with_reducible rfl)
                  try simp only [Act.put, List.setIfInBounds_toArray, List.set_cons_zero, List.set_cons_succ]
                  refine takeH (i := 16) 42 (v := ?_) rfl rfl (by kernel_rfl) (by kernel_rfl) (by kernel_rfl) (fun _ _ _ h => h) (by rfl) ?_ hHeld ?_
                  rotate_left
                  · intro X hX; first | (go_simp; done) | (go_simp; with_reducible rfl)
                  try simp only [Act.put, List.setIfInBounds_toArray, List.set_cons_zero, List.set_cons_succ]
                  refine takeH (i := 17) 43 (v := ?_) rfl rfl (by kernel_rfl) (by kernel_rfl) (by kernel_rfl) (fun _ _ _ h => h) (by rfl) ?_ hHeld ?_
                  rotate_left
                  · intro X hX; first | (go_simp; done) | (go_simp; with_reducible rfl)
                  try simp only [Act.put, List.setIfInBounds_toArray, List.set_cons_zero, List.set_cons_succ]
                  refine takeH (i := 18) 44 (v := ?_) rfl rfl (by kernel_rfl) (by kernel_rfl) (by kernel_rfl) (fun _ _ _ h => h) (by rfl) ?_ hHeld ?_
                  rotate_left
                  · intro X hX; first | (go_simp; done) | (go_simp; with_reducible rfl)
                  try simp only [Act.put, List.setIfInBounds_toArray, List.set_cons_zero, List.set_cons_succ]
                  refine takeH (i := 19) 45 (v := ?_) rfl rfl (by kernel_rfl) (by kernel_rfl) (by kernel_rfl) (fun _ _ _ h => h) (by rfl) ?_ hHeld ?_
                  rotate_left
                  · intro X hX; first | (go_simp; done) | (go_simp; with_reducible rfl)
                  try simp only [Act.put, List.setIfInBounds_toArray, List.set_cons_zero, List.set_cons_succ]
                  refine wpAnyH_ready (rs := [20]) (by kernel_rfl) (by simp) ?_
                  refine AllReadyH.cons rfl (fun K hK => ?_) (AllReadyH.nil)
                  go_simp
                  go_at_call 15
                  refine (c_ivHolds zN false ⟨fun h => (by cases h), fun h => absurd h zN_no⟩ [] rfl false rfl X403 (zN_at X403)).mono ?_
                  rintro e X404 ⟨rfl, bb⟩
                  have HKX404 := Lib.hid (below_join HKX403.out bb HKX403.out.size)
                  clear bb
                  try dsimp only
                  clear hHeld
                  refine hK.out _ _ (HS.out _ HKX404.out) (fun hHeld => ?_)
                  clear hK K
                  try simp only [Act.put, List.setIfInBounds_toArray, List.set_cons_zero, List.set_cons_succ]
                  refine takeH (i := 21) 47 (v := ?_) rfl rfl (by kernel_rfl) (by kernel_rfl) (by kernel_rfl) (fun _ _ _ h => h) (by rfl) ?_ hHeld ?_
                  rotate_left
                  · intro X hX; first | (go_simp; done) | (go_simp; with_reducible rfl)
                  try simp only [Act.put, List.setIfInBounds_toArray, List.set_cons_zero, List.set_cons_succ]
                  refine takeH (i := 22) 48 (v := ?_) rfl rfl (by kernel_rfl) (by kernel_rfl) (by kernel_rfl) (fun _ _ _ h => h) (by rfl) ?_ hHeld ?_
                  rotate_left
                  · intro X hX; first | (go_simp; done) | (go_simp; with_reducible rfl)
                  try simp only [Act.put, List.setIfInBounds_toArray, List.set_cons_zero, List.set_cons_succ]
                  refine takeH (i := 23) 49 (v := ?_) rfl rfl (by kernel_rfl) (by kernel_rfl) (by kernel_rfl) (fun _ _ _ h => h) (by rfl) ?_ hHeld ?_
                  rotate_left
                  · intro X hX; first | (go_simp; done) | (go_simp; with_reducible rfl)
                  try simp only [Act.put, List.setIfInBounds_toArray, List.set_cons_zero, List.set_cons_succ]
                  refine wpAnyH_ready (rs := [24]) (by kernel_rfl) (by simp) ?_
                  refine AllReadyH.cons rfl (fun K hK => ?_) (AllReadyH.nil)
                  go_simp
                  go_at_call 11
                  refine (c_live X404).mono ?_
                  rintro e X405 ⟨rfl, bb⟩
                  have HKX405 := Lib.hid (below_join HKX404.out bb HKX404.out.size)
                  clear bb
                  try dsimp only
                  clear hHeld
                  refine hK.out _ _ (HS.out _ HKX405.out) (fun hHeld => ?_)
                  clear hK K
                  try simp only [Act.put, List.setIfInBounds_toArray, List.set_cons_zero, List.set_cons_succ]
                  refine takeH (i := 25) 51 (v := ?_) rfl rfl (by kernel_rfl) (by kernel_rfl) (by kernel_rfl) (fun _ _ _ h => h) (by rfl) ?_ hHeld ?_
                  rotate_left
                  · intro X hX; first | (go_simp; done) | (go_simp; with_reducible rfl)
                  try simp only [Act.put, List.setIfInBounds_toArray, List.set_cons_zero, List.set_cons_succ]
                  refine takeH (i := 26) 0 (v := ?_) rfl rfl (by kernel_rfl) (by kernel_rfl) (by kernel_rfl) (fun _ _ _ h => h) (by rfl) ?_ hHeld ?_
                  rotate_left
                  · intro X hX; first | (go_simp; done) | (go_simp; with_reducible rfl)
                  try simp only [Act.put, List.setIfInBounds_toArray, List.set_cons_zero, List.set_cons_succ]
                  refine wpAnyH_done (by kernel_rfl) ?_ _
                  go_wp2_with (fail)
                  go_ret
                  exact ⟨rfl, below_join HB.out HKX405.out HB.out.size⟩
            · go_simp
              obtain ⟨X406, hX406⟩ : ∃ Y, Y = X394.alloc (.cells #[.int .u8 2, .int .i64 0, .int .i64 0] 44) := ⟨_, rfl⟩
              have bb : Below X394.heap.size X394 X406 := by rw [hX406]; exact (Below.refl _ _).alloc (Nat.le_refl _) _
              have HKX406 := Lib.hid (below_join HKX394.out bb HKX394.out.size)
              have T1X406 := Lib.hid (T1X394.out.on bb (Nat.le_refl _))
              have hbx : X406.heap[X394.heap.size]? = some (.cells #[.int .u8 2, .int .i64 0, .int .i64 0] 44 (0, 0)) := by rw [hX406]; exact box_new _ _ _
              have RUX406 := Lib.hid (rv_block (k := 3) (F := bnF) (l := [⟨2, 0, 0⟩]) hbx (by simp [maxLen]))
              obtain ⟨gu, hgu⟩ : ∃ g, X394.heap.size = g := ⟨_, rfl⟩
              rw [hgu] at RUX406 ⊢
              clear hgu
              rw [← hX406]
              clear bb hX406 hbx
              try dsimp only
              clear hHeld
              refine hK.out _ _ (HS.out _ HKX406.out) (fun hHeld => ?_)
              clear hK K
              try simp only [Act.put, List.setIfInBounds_toArray, List.set_cons_zero, List.set_cons_succ]
              refine wpAnyH_ready (rs := [9]) (by kernel_rfl) (by simp) ?_
              refine AllReadyH.cons rfl (fun K hK => ?_) (AllReadyH.nil)
              go_simp
              go_at_call 26
              refine (c_wishTo X406).mono ?_
              rintro e X407 ⟨A2, c2, b2, rfl, h1, bb⟩
              have HKX407 := Lib.hid (below_join HKX406.out bb HKX406.out.size)
              have T1X407 := Lib.hid (T1X406.out.on bb (Nat.le_refl _))
              have RUX407 := Lib.hid (RUX406.out.on bb (Nat.le_refl _))
              have T2X407 := Lib.hid h1
              clear h1
              clear bb
              try dsimp only
              clear hHeld
              refine hK.out _ _ (HS.out _ HKX407.out) (fun hHeld => ?_)
              clear hK K
              try simp only [Act.put, List.setIfInBounds_toArray, List.set_cons_zero, List.set_cons_succ]
              refine wpAnyH_ready (rs := [11]) (by kernel_rfl) (by simp) ?_
              refine AllReadyH.cons rfl (fun K hK => ?_) (AllReadyH.nil)
              go_simp
              go_at_call 13
              refine (c_Broken ⟨p2, exD, A2, c2, wxs b2, qw, W3⟩ true ⟨fun _ => ok3, fun _ => rfl⟩ [⟨2, 0, 0⟩] br3 X407 ⟨T1X407.out, T2X407.out, HW.out _ HKX407.out⟩).mono ?_
              rintro e X408 ⟨A9, c9, rfl, h1, bb⟩
              have HKX408 := Lib.hid (below_join HKX407.out bb HKX407.out.size)
              have RUX408 := Lib.hid (RUX407.out.on bb (Nat.le_refl _))
              have R9X408 := Lib.hid h1
              clear h1
              clear bb
              try dsimp only
              clear hHeld
              refine hK.out _ _ (HS.out _ HKX408.out) (fun hHeld => ?_)
              clear hK K
              try simp only [Act.put, List.setIfInBounds_toArray, List.set_cons_zero, List.set_cons_succ]
              as_aux_lemma =>
                refine wpAnyH_ready (rs := [14]) (by kernel_rfl) (by simp) ?_
                refine AllReadyH.cons rfl (fun K hK => ?_) (AllReadyH.nil)
                go_simp
                go_at_call 12
                refine (c_irSame A9 c9 [⟨2, 0, 0⟩] (some ⟨gu, 0, none⟩) 1 [⟨2, 0, 0⟩] true (by decide) X408 R9X408.out RUX408.out).mono ?_
                rintro e X409 ⟨rfl, bb⟩
                have HKX409 := Lib.hid (below_join HKX408.out bb HKX408.out.size)
                clear bb
                try dsimp only
                clear hHeld
                refine hK.out _ _ (HS.out _ HKX409.out) (fun hHeld => ?_)
                clear hK K
                try simp only [Act.put, List.setIfInBounds_toArray, List.set_cons_zero, List.set_cons_succ]
                refine takeH (i := 15) 41 (v := ?_) rfl rfl (by kernel_rfl) (by kernel_rfl) (by kernel_rfl) (fun _ _ _ h => h) (by rfl) ?_ hHeld ?_
                rotate_left
                · intro X hX; first | (go_simp; done) | (go_simp; with_reducible rfl)
                try simp only [Act.put, List.setIfInBounds_toArray, List.set_cons_zero, List.set_cons_succ]
                refine takeH (i := 16) 42 (v := ?_) rfl rfl (by kernel_rfl) (by kernel_rfl) (by kernel_rfl) (fun _ _ _ h => h) (by rfl) ?_ hHeld ?_
                rotate_left
                · intro X hX; first | (go_simp; done) | (go_simp; with_reducible rfl)
                try simp only [Act.put, List.setIfInBounds_toArray, List.set_cons_zero, List.set_cons_succ]
                refine takeH (i := 17) 43 (v := ?_) rfl rfl (by kernel_rfl) (by kernel_rfl) (by kernel_rfl) (fun _ _ _ h => h) (by rfl) ?_ hHeld ?_
                rotate_left
                · intro X hX; first | (go_simp; done) | (go_simp; with_reducible rfl)
                try simp only [Act.put, List.setIfInBounds_toArray, List.set_cons_zero, List.set_cons_succ]
                refine takeH (i := 18) 44 (v := ?_) rfl rfl (by kernel_rfl) (by kernel_rfl) (by kernel_rfl) (fun _ _ _ h => h) (by rfl) ?_ hHeld ?_
                rotate_left
                · intro X hX; first | (go_simp; done) | (go_simp; with_reducible rfl)
                try simp only [Act.put, List.setIfInBounds_toArray, List.set_cons_zero, List.set_cons_succ]
                refine takeH (i := 19) 45 (v := ?_) rfl rfl (by kernel_rfl) (by kernel_rfl) (by kernel_rfl) (fun _ _ _ h => h) (by rfl) ?_ hHeld ?_
                rotate_left
                · intro X hX; first | (go_simp; done) | (go_simp; with_reducible rfl)
                try simp only [Act.put, List.setIfInBounds_toArray, List.set_cons_zero, List.set_cons_succ]
                refine wpAnyH_ready (rs := [20]) (by kernel_rfl) (by simp) ?_
                refine AllReadyH.cons rfl (fun K hK => ?_) (AllReadyH.nil)
                go_simp
                go_at_call 15
                refine (c_ivHolds zN false ⟨fun h => (by cases h), fun h => absurd h zN_no⟩ [] rfl false rfl X409 (zN_at X409)).mono ?_
                rintro e X410 ⟨rfl, bb⟩
                have HKX410 := Lib.hid (below_join HKX409.out bb HKX409.out.size)
                clear bb
                try dsimp only
                clear hHeld
                refine hK.out _ _ (HS.out _ HKX410.out) (fun hHeld => ?_)
                clear hK K
                try simp only [Act.put, List.setIfInBounds_toArray, List.set_cons_zero, List.set_cons_succ]
                refine takeH (i := 21) 47 (v := ?_) rfl rfl (by kernel_rfl) (by kernel_rfl) (by kernel_rfl) (fun _ _ _ h => h) (by rfl) ?_ hHeld ?_
                rotate_left
                · intro X hX; first | (go_simp; done) | (go_simp; with_reducible rfl)
                try simp only [Act.put, List.setIfInBounds_toArray, List.set_cons_zero, List.set_cons_succ]
                refine takeH (i := 22) 48 (v := ?_) rfl rfl (by kernel_rfl) (by kernel_rfl) (by kernel_rfl) (fun _ _ _ h => h) (by rfl) ?_ hHeld ?_
                rotate_left
                · intro X hX; first | (go_simp; done) | (go_simp; with_reducible rfl)
                try simp only [Act.put, List.setIfInBounds_toArray, List.set_cons_zero, List.set_cons_succ]
                refine takeH (i := 23) 49 (v := ?_) rfl rfl (by kernel_rfl) (by kernel_rfl) (by kernel_rfl) (fun _ _ _ h => h) (by rfl) ?_ hHeld ?_
                rotate_left
                · intro X hX; first | (go_simp; done) | (go_simp; with_reducible rfl)
                try simp only [Act.put, List.setIfInBounds_toArray, List.set_cons_zero, List.set_cons_succ]
                refine wpAnyH_ready (rs := [24]) (by kernel_rfl) (by simp) ?_
                refine AllReadyH.cons rfl (fun K hK => ?_) (AllReadyH.nil)
                go_simp
                go_at_call 11
                refine (c_live X410).mono ?_
                rintro e X411 ⟨rfl, bb⟩
                have HKX411 := Lib.hid (below_join HKX410.out bb HKX410.out.size)
                clear bb
                try dsimp only
                clear hHeld
                refine hK.out _ _ (HS.out _ HKX411.out) (fun hHeld => ?_)
                clear hK K
                try simp only [Act.put, List.setIfInBounds_toArray, List.set_cons_zero, List.set_cons_succ]
                refine takeH (i := 25) 51 (v := ?_) rfl rfl (by kernel_rfl) (by kernel_rfl) (by kernel_rfl) (fun _ _ _ h => h) (by rfl) ?_ hHeld ?_
                rotate_left
                · intro X hX; first | (go_simp; done) | (go_simp; with_reducible rfl)
                try simp only [Act.put, List.setIfInBounds_toArray, List.set_cons_zero, List.set_cons_succ]
                refine takeH (i := 26) 0 (v := ?_) rfl rfl (by kernel_rfl) (by kernel_rfl) (by kernel_rfl) (fun _ _ _ h => h) (by rfl) ?_ hHeld ?_
                rotate_left
                · intro X hX; first | (go_simp; done) | (go_simp; with_reducible rfl)
                try simp only [Act.put, List.setIfInBounds_toArray, List.set_cons_zero, List.set_cons_succ]
                refine wpAnyH_done (by kernel_rfl) ?_ _
                go_wp2_with (fail)
                go_ret
                exact ⟨rfl, below_join HB.out HKX411.out HB.out.size⟩
          · go_simp
            obtain ⟨X412, hX412⟩ : ∃ Y, Y = X393.alloc (.cells #[.int .u8 2, .int .i64 0, .int .i64 0] 44) := ⟨_, rfl⟩
            have bb : Below X393.heap.size X393 X412 := by rw [hX412]; exact (Below.refl _ _).alloc (Nat.le_refl _) _
            have HKX412 := Lib.hid (below_join HKX393.out bb HKX393.out.size)
            have hbx : X412.heap[X393.heap.size]? = some (.cells #[.int .u8 2, .int .i64 0, .int .i64 0] 44 (0, 0)) := by rw [hX412]; exact box_new _ _ _
            have RUX412 := Lib.hid (rv_block (k := 3) (F := bnF) (l := [⟨2, 0, 0⟩]) hbx (by simp [maxLen]))
            obtain ⟨gu, hgu⟩ : ∃ g, X393.heap.size = g := ⟨_, rfl⟩
            rw [hgu] at RUX412 ⊢
            clear hgu
            rw [← hX412]
            clear bb hX412 hbx
            try dsimp only
            clear hHeld
            refine hK.out _ _ (HS.out _ HKX412.out) (fun hHeld => ?_)
            clear hK K
            try simp only [Act.put, List.setIfInBounds_toArray, List.set_cons_zero, List.set_cons_succ]
            refine wpAnyH_ready (rs := [8]) (by kernel_rfl) (by simp) ?_
            refine AllReadyH.cons rfl (fun K hK => ?_) (AllReadyH.nil)
            go_simp
            go_at_call 25
            refine (c_siteTo X412).mono ?_
            rintro e X413 ⟨p2, rfl, h1, bb⟩
            have HKX413 := Lib.hid (below_join HKX412.out bb HKX412.out.size)
            have RUX413 := Lib.hid (RUX412.out.on bb (Nat.le_refl _))
            have T1X413 := Lib.hid h1
            clear h1
            clear bb
            try dsimp only
            clear hHeld
            refine hK.out _ _ (HS.out _ HKX413.out) (fun hHeld => ?_)
            clear hK K
            try simp only [Act.put, List.setIfInBounds_toArray, List.set_cons_zero, List.set_cons_succ]
            refine wpAnyH_ready (rs := [9]) (by kernel_rfl) (by simp) ?_
            refine AllReadyH.cons rfl (fun K hK => ?_) (AllReadyH.nil)
            go_simp
            go_at_call 26
            refine (c_wishTo X413).mono ?_
            rintro e X414 ⟨A2, c2, b2, rfl, h1, bb⟩
            have HKX414 := Lib.hid (below_join HKX413.out bb HKX413.out.size)
            have RUX414 := Lib.hid (RUX413.out.on bb (Nat.le_refl _))
            have T1X414 := Lib.hid (T1X413.out.on bb (Nat.le_refl _))
            have T2X414 := Lib.hid h1
            clear h1
            clear bb
            try dsimp only
            clear hHeld
            refine hK.out _ _ (HS.out _ HKX414.out) (fun hHeld => ?_)
            clear hK K
            try simp only [Act.put, List.setIfInBounds_toArray, List.set_cons_zero, List.set_cons_succ]
            refine wpAnyH_ready (rs := [11]) (by kernel_rfl) (by simp) ?_
            refine AllReadyH.cons rfl (fun K hK => ?_) (AllReadyH.nil)
            go_simp
            go_at_call 13
            refine (c_Broken ⟨p2, exD, A2, c2, wxs b2, qw, W3⟩ true ⟨fun _ => ok3, fun _ => rfl⟩ [⟨2, 0, 0⟩] br3 X414 ⟨T1X414.out, T2X414.out, HW.out _ HKX414.out⟩).mono ?_
            rintro e X415 ⟨A9, c9, rfl, h1, bb⟩
            have HKX415 := Lib.hid (below_join HKX414.out bb HKX414.out.size)
            have RUX415 := Lib.hid (RUX414.out.on bb (Nat.le_refl _))
            have R9X415 := Lib.hid h1
            clear h1
            clear bb
            try dsimp only
            clear hHeld
            refine hK.out _ _ (HS.out _ HKX415.out) (fun hHeld => ?_)
            clear hK K
            try simp only [Act.put, List.setIfInBounds_toArray, List.set_cons_zero, List.set_cons_succ]
            as_aux_lemma =>
              refine wpAnyH_ready (rs := [14]) (by kernel_rfl) (by simp) ?_
              refine AllReadyH.cons rfl (fun K hK => ?_) (AllReadyH.nil)
              go_simp
              go_at_call 12
              refine (c_irSame A9 c9 [⟨2, 0, 0⟩] (some ⟨gu, 0, none⟩) 1 [⟨2, 0, 0⟩] true (by decide) X415 R9X415.out RUX415.out).mono ?_
              rintro e X416 ⟨rfl, bb⟩
              have HKX416 := Lib.hid (below_join HKX415.out bb HKX415.out.size)
              clear bb
              try dsimp only
              clear hHeld
              refine hK.out _ _ (HS.out _ HKX416.out) (fun hHeld => ?_)
              clear hK K
              try simp only [Act.put, List.setIfInBounds_toArray, List.set_cons_zero, List.set_cons_succ]
              refine takeH (i := 15) 41 (v := ?_) rfl rfl (by kernel_rfl) (by kernel_rfl) (by kernel_rfl) (fun _ _ _ h => h) (by rfl) ?_ hHeld ?_
              rotate_left
              · intro X hX; first | (go_simp; done) | (go_simp; with_reducible rfl)
              try simp only [Act.put, List.setIfInBounds_toArray, List.set_cons_zero, List.set_cons_succ]
              refine takeH (i := 16) 42 (v := ?_) rfl rfl (by kernel_rfl) (by kernel_rfl) (by kernel_rfl) (fun _ _ _ h => h) (by rfl) ?_ hHeld ?_
              rotate_left
              · intro X hX; first | (go_simp; done) | (go_simp; with_reducible rfl)
              try simp only [Act.put, List.setIfInBounds_toArray, List.set_cons_zero, List.set_cons_succ]
              refine takeH (i := 17) 43 (v := ?_) rfl rfl (by kernel_rfl) (by kernel_rfl) (by kernel_rfl) (fun _ _ _ h => h) (by rfl) ?_ hHeld ?_
              rotate_left
              · intro X hX; first | (go_simp; done) | (go_simp; with_reducible rfl)
              try simp only [Act.put, List.setIfInBounds_toArray, List.set_cons_zero, List.set_cons_succ]
              refine takeH (i := 18) 44 (v := ?_) rfl rfl (by kernel_rfl) (by kernel_rfl) (by kernel_rfl) (fun _ _ _ h => h) (by rfl) ?_ hHeld ?_
              rotate_left
              · intro X hX; first | (go_simp; done) | (go_simp; with_reducible rfl)
              try simp only [Act.put, List.setIfInBounds_toArray, List.set_cons_zero, List.set_cons_succ]
              refine takeH (i := 19) 45 (v := ?_) rfl rfl (by kernel_rfl) (by kernel_rfl) (by kernel_rfl) (fun _ _ _ h => h) (by rfl) ?_ hHeld ?_
              rotate_left
              · intro X hX; first | (go_simp; done) | (go_simp; with_reducible rfl)
              try simp only [Act.put, List.setIfInBounds_toArray, List.set_cons_zero, List.set_cons_succ]
              refine wpAnyH_ready (rs := [20]) (by kernel_rfl) (by simp) ?_
              refine AllReadyH.cons rfl (fun K hK => ?_) (AllReadyH.nil)
              go_simp
              go_at_call 15
              refine (c_ivHolds zN false ⟨fun h => (by cases h), fun h => absurd h zN_no⟩ [] rfl false rfl X416 (zN_at X416)).mono ?_
              rintro e X417 ⟨rfl, bb⟩
              have HKX417 := Lib.hid (below_join HKX416.out bb HKX416.out.size)
              clear bb
              try dsimp only
              clear hHeld
              refine hK.out _ _ (HS.out _ HKX417.out) (fun hHeld => ?_)
              clear hK K
              try simp only [Act.put, List.setIfInBounds_toArray, List.set_cons_zero, List.set_cons_succ]
              refine takeH (i := 21) 47 (v := ?_) rfl rfl (by kernel_rfl) (by kernel_rfl) (by kernel_rfl) (fun _ _ _ h => h) (by rfl) ?_ hHeld ?_
              rotate_left
              · intro X hX; first | (go_simp; done) | (go_simp; with_reducible rfl)
              try simp only [Act.put, List.setIfInBounds_toArray, List.set_cons_zero, List.set_cons_succ]
              refine takeH (i := 22) 48 (v := ?_) rfl rfl (by kernel_rfl) (by kernel_rfl) (by kernel_rfl) (fun _ _ _ h => h) (by rfl) ?_ hHeld ?_
              rotate_left
              · intro X hX; first | (go_simp; done) | (go_simp; with_reducible rfl)
              try simp only [Act.put, List.setIfInBounds_toArray, List.set_cons_zero, List.set_cons_succ]
              refine takeH (i := 23) 49 (v := ?_) rfl rfl (by kernel_rfl) (by kernel_rfl) (by kernel_rfl) (fun _ _ _ h => h) (by rfl) ?_ hHeld ?_
              rotate_left
              · intro X hX; first | (go_simp; done) | (go_simp; with_reducible rfl)
              try simp only [Act.put, List.setIfInBounds_toArray, List.set_cons_zero, List.set_cons_succ]
              refine wpAnyH_ready (rs := [24]) (by kernel_rfl) (by simp) ?_
              refine AllReadyH.cons rfl (fun K hK => ?_) (AllReadyH.nil)
              go_simp
              go_at_call 11
              refine (c_live X417).mono ?_
              rintro e X418 ⟨rfl, bb⟩
              have HKX418 := Lib.hid (below_join HKX417.out bb HKX417.out.size)
              clear bb
              try dsimp only
              clear hHeld
              refine hK.out _ _ (HS.out _ HKX418.out) (fun hHeld => ?_)
              clear hK K
              try simp only [Act.put, List.setIfInBounds_toArray, List.set_cons_zero, List.set_cons_succ]
              refine takeH (i := 25) 51 (v := ?_) rfl rfl (by kernel_rfl) (by kernel_rfl) (by kernel_rfl) (fun _ _ _ h => h) (by rfl) ?_ hHeld ?_
              rotate_left
              · intro X hX; first | (go_simp; done) | (go_simp; with_reducible rfl)
              try simp only [Act.put, List.setIfInBounds_toArray, List.set_cons_zero, List.set_cons_succ]
              refine takeH (i := 26) 0 (v := ?_) rfl rfl (by kernel_rfl) (by kernel_rfl) (by kernel_rfl) (fun _ _ _ h => h) (by rfl) ?_ hHeld ?_
              rotate_left
              · intro X hX; first | (go_simp; done) | (go_simp; with_reducible rfl)
              try simp only [Act.put, List.setIfInBounds_toArray, List.set_cons_zero, List.set_cons_succ]
              refine wpAnyH_done (by kernel_rfl) ?_ _
              go_wp2_with (fail)
              go_ret
              exact ⟨rfl, below_join HB.out HKX418.out HB.out.size⟩
  · go_simp
    obtain ⟨X419, hX419⟩ : ∃ Y, Y = XA.alloc (.cells #[.int .u8 3, .int .i64 0, .int .i64 0] 44) := ⟨_, rfl⟩
    have bb : Below XA.heap.size XA X419 := by rw [hX419]; exact (Below.refl _ _).alloc (Nat.le_refl _) _
    have HKX419 := Lib.hid (below_join HKXA.out bb HKXA.out.size)
    have hbx : X419.heap[XA.heap.size]? = some (.cells #[.int .u8 3, .int .i64 0, .int .i64 0] 44 (0, 0)) := by rw [hX419]; exact box_new _ _ _
    have RTX419 := Lib.hid (rv_block (k := 3) (F := bnF) (l := [⟨3, 0, 0⟩]) hbx (by simp [maxLen]))
    obtain ⟨gt, hgt⟩ : ∃ g, XA.heap.size = g := ⟨_, rfl⟩
    rw [hgt] at RTX419 ⊢
    clear hgt
    rw [← hX419]
    clear bb hX419 hbx
    try dsimp only
    clear hHeld
    refine hK.out _ _ (HS.out _ HKX419.out) (fun hHeld => ?_)
    clear hK K
    try simp only [Act.put, List.setIfInBounds_toArray, List.set_cons_zero, List.set_cons_succ]
    refine wpAnyH_ready (rs := [0]) (by kernel_rfl) (by simp) ?_
    refine AllReadyH.cons rfl (fun K hK => ?_) (AllReadyH.nil)
    go_simp
    go_at_call 25
    refine (c_siteTo X419).mono ?_
    rintro e X420 ⟨p, rfl, h1, bb⟩
    have HKX420 := Lib.hid (below_join HKX419.out bb HKX419.out.size)
    have RTX420 := Lib.hid (RTX419.out.on bb (Nat.le_refl _))
    have S1X420 := Lib.hid h1
    clear h1
    clear bb
    try dsimp only
    clear hHeld
    refine hK.out _ _ (HS.out _ HKX420.out) (fun hHeld => ?_)
    clear hK K
    try simp only [Act.put, List.setIfInBounds_toArray, List.set_cons_zero, List.set_cons_succ]
    refine wpAnyH_ready (rs := [1]) (by kernel_rfl) (by simp) ?_
    refine AllReadyH.cons rfl (fun K hK => ?_) (AllReadyH.nil)
    go_simp
    go_at_call 26
    refine (c_wishTo X420).mono ?_
    rintro e X421 ⟨A, c, b, rfl, h1, bb⟩
    have HKX421 := Lib.hid (below_join HKX420.out bb HKX420.out.size)
    have RTX421 := Lib.hid (RTX420.out.on bb (Nat.le_refl _))
    have S1X421 := Lib.hid (S1X420.out.on bb (Nat.le_refl _))
    have S2X421 := Lib.hid h1
    clear h1
    clear bb
    try dsimp only
    clear hHeld
    refine hK.out _ _ (HS.out _ HKX421.out) (fun hHeld => ?_)
    clear hK K
    try simp only [Act.put, List.setIfInBounds_toArray, List.set_cons_zero, List.set_cons_succ]
    refine wpAnyH_ready (rs := [2]) (by kernel_rfl) (by simp) ?_
    refine AllReadyH.cons rfl (fun K hK => ?_) (AllReadyH.nil)
    go_simp
    go_at_call 24
    refine (c_worldN none 0 [] 0 rfl X421 (Rv.nil _)).mono ?_
    rintro e X422 ⟨q, rfl, h1, bb⟩
    have HKX422 := Lib.hid (below_join HKX421.out bb HKX421.out.size)
    have RTX422 := Lib.hid (RTX421.out.on bb (Nat.le_refl _))
    have S1X422 := Lib.hid (S1X421.out.on bb (Nat.le_refl _))
    have S2X422 := Lib.hid (S2X421.out.on bb (Nat.le_refl _))
    have WQX422 := Lib.hid h1
    clear h1
    clear bb
    try dsimp only
    clear hHeld
    refine hK.out _ _ (HS.out _ HKX422.out) (fun hHeld => ?_)
    clear hK K
    try simp only [Act.put, List.setIfInBounds_toArray, List.set_cons_zero, List.set_cons_succ]
    refine wpAnyH_ready (rs := [3]) (by kernel_rfl) (by simp) ?_
    refine AllReadyH.cons rfl (fun K hK => ?_) (AllReadyH.nil)
    go_simp
    go_at_call 13
    refine (c_Broken ⟨p, exD, A, c, wxs b, q, W0⟩ true ⟨fun _ => ok0, fun _ => rfl⟩ [⟨3, 0, 0⟩] br0 X422 ⟨S1X422.out, S2X422.out, WQX422.out⟩).mono ?_
    rintro e X423 ⟨A8, c8, rfl, h1, bb⟩
    have HKX423 := Lib.hid (below_join HKX422.out bb HKX422.out.size)
    have RTX423 := Lib.hid (RTX422.out.on bb (Nat.le_refl _))
    have R8X423 := Lib.hid h1
    clear h1
    clear bb
    try dsimp only
    clear hHeld
    refine hK.out _ _ (HS.out _ HKX423.out) (fun hHeld => ?_)
    clear hK K
    try simp only [Act.put, List.setIfInBounds_toArray, List.set_cons_zero, List.set_cons_succ]
    as_aux_lemma =>
      refine wpAnyH_ready (rs := [6]) (by kernel_rfl) (by simp) ?_
      refine AllReadyH.cons rfl (fun K hK => ?_) (AllReadyH.nil)
      go_simp
      go_at_call 12
      refine (c_irSame A8 c8 [⟨3, 0, 0⟩] (some ⟨gt, 0, none⟩) 1 [⟨3, 0, 0⟩] true (by decide) X423 R8X423.out RTX423.out).mono ?_
      rintro e X424 ⟨rfl, bb⟩
      have HKX424 := Lib.hid (below_join HKX423.out bb HKX423.out.size)
      clear bb
      try dsimp only
      clear hHeld
      refine hK.out _ _ (HS.out _ HKX424.out) (fun hHeld => ?_)
      clear hK K
      try simp only [Act.put, List.setIfInBounds_toArray, List.set_cons_zero, List.set_cons_succ]
      refine takeH (i := 7) 33 (v := ?_) rfl rfl (by kernel_rfl) (by kernel_rfl) (by kernel_rfl) (fun _ _ _ h => h) (by rfl) ?_ hHeld ?_
      rotate_left
      · intro X hX; first | (go_simp; done) | (go_simp; with_reducible rfl)
      try simp only [Act.put, List.setIfInBounds_toArray, List.set_cons_zero, List.set_cons_succ]
      refine takeH (i := 10) 36 (v := ?_) rfl rfl (by kernel_rfl) (by kernel_rfl) (by kernel_rfl) (fun _ _ _ h => h) (by rfl) ?_ hHeld ?_
      rotate_left
      · intro X hX; obtain ⟨hq0, hq1⟩ := hX; first | (go_simp; done) | (go_simp; with_reducible rfl)
      try simp only [Act.put, List.setIfInBounds_toArray, List.set_cons_zero, List.set_cons_succ]
      refine takeH (i := 12) 38 (v := ?_) rfl rfl (by kernel_rfl) (by kernel_rfl) (by kernel_rfl) (fun _ _ _ h => h) (by rfl) ?_ hHeld ?_
      rotate_left
      · intro X hX; first | (go_simp; done) | (go_simp; with_reducible rfl)
      try simp only [Act.put, List.setIfInBounds_toArray, List.set_cons_zero, List.set_cons_succ]
      as_aux_lemma =>
        refine wpAnyH_ready (rs := [8, 13]) (by kernel_rfl) (by simp) ?_
        refine AllReadyH.cons rfl (fun K hK => ?_) (AllReadyH.cons rfl (fun K hK => ?_) (AllReadyH.nil))
        · go_simp
          go_at_call 25
          refine (c_siteTo X424).mono ?_
          rintro e X425 ⟨p2, rfl, h1, bb⟩
          have HKX425 := Lib.hid (below_join HKX424.out bb HKX424.out.size)
          have T1X425 := Lib.hid h1
          clear h1
          clear bb
          try dsimp only
          clear hHeld
          refine hK.out _ _ (HS.out _ HKX425.out) (fun hHeld => ?_)
          clear hK K
          try simp only [Act.put, List.setIfInBounds_toArray, List.set_cons_zero, List.set_cons_succ]
          refine wpAnyH_ready (rs := [9, 13]) (by kernel_rfl) (by simp) ?_
          refine AllReadyH.cons rfl (fun K hK => ?_) (AllReadyH.cons rfl (fun K hK => ?_) (AllReadyH.nil))
          · go_simp
            go_at_call 26
            refine (c_wishTo X425).mono ?_
            rintro e X426 ⟨A2, c2, b2, rfl, h1, bb⟩
            have HKX426 := Lib.hid (below_join HKX425.out bb HKX425.out.size)
            have T1X426 := Lib.hid (T1X425.out.on bb (Nat.le_refl _))
            have T2X426 := Lib.hid h1
            clear h1
            clear bb
            try dsimp only
            clear hHeld
            refine hK.out _ _ (HS.out _ HKX426.out) (fun hHeld => ?_)
            clear hK K
            try simp only [Act.put, List.setIfInBounds_toArray, List.set_cons_zero, List.set_cons_succ]
            refine wpAnyH_ready (rs := [11, 13]) (by kernel_rfl) (by simp) ?_
            refine AllReadyH.cons rfl (fun K hK => ?_) (AllReadyH.cons rfl (fun K hK => ?_) (AllReadyH.nil))
            · go_simp
              go_at_call 13
              refine (c_Broken ⟨p2, exD, A2, c2, wxs b2, qw, W3⟩ true ⟨fun _ => ok3, fun _ => rfl⟩ [⟨2, 0, 0⟩] br3 X426 ⟨T1X426.out, T2X426.out, HW.out _ HKX426.out⟩).mono ?_
              rintro e X427 ⟨A9, c9, rfl, h1, bb⟩
              have HKX427 := Lib.hid (below_join HKX426.out bb HKX426.out.size)
              have R9X427 := Lib.hid h1
              clear h1
              clear bb
              try dsimp only
              clear hHeld
              refine hK.out _ _ (HS.out _ HKX427.out) (fun hHeld => ?_)
              clear hK K
              try simp only [Act.put, List.setIfInBounds_toArray, List.set_cons_zero, List.set_cons_succ]
              refine wpAnyH_ready (rs := [13]) (by kernel_rfl) (by simp) ?_
              refine AllReadyH.cons rfl (fun K hK => ?_) (AllReadyH.nil)
              go_simp
              obtain ⟨X428, hX428⟩ : ∃ Y, Y = X427.alloc (.cells #[.int .u8 2, .int .i64 0, .int .i64 0] 44) := ⟨_, rfl⟩
              have bb : Below X427.heap.size X427 X428 := by rw [hX428]; exact (Below.refl _ _).alloc (Nat.le_refl _) _
              have HKX428 := Lib.hid (below_join HKX427.out bb HKX427.out.size)
              have R9X428 := Lib.hid (R9X427.out.on bb (Nat.le_refl _))
              have hbx : X428.heap[X427.heap.size]? = some (.cells #[.int .u8 2, .int .i64 0, .int .i64 0] 44 (0, 0)) := by rw [hX428]; exact box_new _ _ _
              have RUX428 := Lib.hid (rv_block (k := 3) (F := bnF) (l := [⟨2, 0, 0⟩]) hbx (by simp [maxLen]))
              obtain ⟨gu, hgu⟩ : ∃ g, X427.heap.size = g := ⟨_, rfl⟩
              rw [hgu] at RUX428 ⊢
              clear hgu
              rw [← hX428]
              clear bb hX428 hbx
              try dsimp only
              clear hHeld
              refine hK.out _ _ (HS.out _ HKX428.out) (fun hHeld => ?_)
              clear hK K
              try simp only [Act.put, List.setIfInBounds_toArray, List.set_cons_zero, List.set_cons_succ]
              as_aux_lemma =>
                refine wpAnyH_ready (rs := [14]) (by kernel_rfl) (by simp) ?_
                refine AllReadyH.cons rfl (fun K hK => ?_) (AllReadyH.nil)
                go_simp
                go_at_call 12
                refine (c_irSame A9 c9 [⟨2, 0, 0⟩] (some ⟨gu, 0, none⟩) 1 [⟨2, 0, 0⟩] true (by decide) X428 R9X428.out RUX428.out).mono ?_
                rintro e X429 ⟨rfl, bb⟩
                have HKX429 := Lib.hid (below_join HKX428.out bb HKX428.out.size)
                clear bb
                try dsimp only
                clear hHeld
                refine hK.out _ _ (HS.out _ HKX429.out) (fun hHeld => ?_)
                clear hK K
                try simp only [Act.put, List.setIfInBounds_toArray, List.set_cons_zero, List.set_cons_succ]
                refine takeH (i := 15) 41 (v := ?_) rfl rfl (by kernel_rfl) (by kernel_rfl) (by kernel_rfl) (fun _ _ _ h => h) (by rfl) ?_ hHeld ?_
                rotate_left
                · intro X hX; first | (go_simp; done) | (go_simp; with_reducible rfl)
                try simp only [Act.put, List.setIfInBounds_toArray, List.set_cons_zero, List.set_cons_succ]
                refine takeH (i := 16) 42 (v := ?_) rfl rfl (by kernel_rfl) (by kernel_rfl) (by kernel_rfl) (fun _ _ _ h => h) (by rfl) ?_ hHeld ?_
                rotate_left
                · intro X hX; first | (go_simp; done) | (go_simp; with_reducible rfl)
                try simp only [Act.put, List.setIfInBounds_toArray, List.set_cons_zero, List.set_cons_succ]
                refine takeH (i := 17) 43 (v := ?_) rfl rfl (by kernel_rfl) (by kernel_rfl) (by kernel_rfl) (fun _ _ _ h => h) (by rfl) ?_ hHeld ?_
                rotate_left
                · intro X hX; first | (go_simp; done) | (go_simp; with_reducible rfl)
                try simp only [Act.put, List.setIfInBounds_toArray, List.set_cons_zero, List.set_cons_succ]
                refine takeH (i := 18) 44 (v := ?_) rfl rfl (by kernel_rfl) (by kernel_rfl) (by kernel_rfl) (fun _ _ _ h => h) (by rfl) ?_ hHeld ?_
                rotate_left
                · intro X hX; first | (go_simp; done) | (go_simp; with_reducible rfl)
                try simp only [Act.put, List.setIfInBounds_toArray, List.set_cons_zero, List.set_cons_succ]
                refine takeH (i := 19) 45 (v := ?_) rfl rfl (by kernel_rfl) (by kernel_rfl) (by kernel_rfl) (fun _ _ _ h => h) (by rfl) ?_ hHeld ?_
                rotate_left
                · intro X hX; first | (go_simp; done) | (go_simp; with_reducible rfl)
                try simp only [Act.put, List.setIfInBounds_toArray, List.set_cons_zero, List.set_cons_succ]
                refine wpAnyH_ready (rs := [20]) (by kernel_rfl) (by simp) ?_
                refine AllReadyH.cons rfl (fun K hK => ?_) (AllReadyH.nil)
                go_simp
                go_at_call 15
                refine (c_ivHolds zN false ⟨fun h => (by cases h), fun h => absurd h zN_no⟩ [] rfl false rfl X429 (zN_at X429)).mono ?_
                rintro e X430 ⟨rfl, bb⟩
                have HKX430 := Lib.hid (below_join HKX429.out bb HKX429.out.size)
                clear bb
                try dsimp only
                clear hHeld
                refine hK.out _ _ (HS.out _ HKX430.out) (fun hHeld => ?_)
                clear hK K
                try simp only [Act.put, List.setIfInBounds_toArray, List.set_cons_zero, List.set_cons_succ]
                refine takeH (i := 21) 47 (v := ?_) rfl rfl (by kernel_rfl) (by kernel_rfl) (by kernel_rfl) (fun _ _ _ h => h) (by rfl) ?_ hHeld ?_
                rotate_left
                · intro X hX; first | (go_simp; done) | (go_simp; with_reducible rfl)
                try simp only [Act.put, List.setIfInBounds_toArray, List.set_cons_zero, List.set_cons_succ]
                refine takeH (i := 22) 48 (v := ?_) rfl rfl (by kernel_rfl) (by kernel_rfl) (by kernel_rfl) (fun _ _ _ h => h) (by rfl) ?_ hHeld ?_
                rotate_left
                · intro X hX; first | (go_simp; done) | (go_simp; with_reducible rfl)
                try simp only [Act.put, List.setIfInBounds_toArray, List.set_cons_zero, List.set_cons_succ]
                refine takeH (i := 23) 49 (v := ?_) rfl rfl (by kernel_rfl) (by kernel_rfl) (by kernel_rfl) (fun _ _ _ h => h) (by rfl) ?_ hHeld ?_
                rotate_left
                · intro X hX; first | (go_simp; done) | (go_simp; with_reducible rfl)
                try simp only [Act.put, List.setIfInBounds_toArray, List.set_cons_zero, List.set_cons_succ]
                refine wpAnyH_ready (rs := [24]) (by kernel_rfl) (by simp) ?_
                refine AllReadyH.cons rfl (fun K hK => ?_) (AllReadyH.nil)
                go_simp
                go_at_call 11
                refine (c_live X430).mono ?_
                rintro e X431 ⟨rfl, bb⟩
                have HKX431 := Lib.hid (below_join HKX430.out bb HKX430.out.size)
                clear bb
                try dsimp only
                clear hHeld
                refine hK.out _ _ (HS.out _ HKX431.out) (fun hHeld => ?_)
                clear hK K
                try simp only [Act.put, List.setIfInBounds_toArray, List.set_cons_zero, List.set_cons_succ]
                refine takeH (i := 25) 51 (v := ?_) rfl rfl (by kernel_rfl) (by kernel_rfl) (by kernel_rfl) (fun _ _ _ h => h) (by rfl) ?_ hHeld ?_
                rotate_left
                · intro X hX; first | (go_simp; done) | (go_simp; with_reducible rfl)
                try simp only [Act.put, List.setIfInBounds_toArray, List.set_cons_zero, List.set_cons_succ]
                refine takeH (i := 26) 0 (v := ?_) rfl rfl (by kernel_rfl) (by kernel_rfl) (by kernel_rfl) (fun _ _ _ h => h) (by rfl) ?_ hHeld ?_
                rotate_left
                · intro X hX; first | (go_simp; done) | (go_simp; with_reducible rfl)
                try simp only [Act.put, List.setIfInBounds_toArray, List.set_cons_zero, List.set_cons_succ]
                refine wpAnyH_done (by kernel_rfl) ?_ _
                go_wp2_with (fail)
                go_ret
                exact ⟨rfl, below_join HB.out HKX431.out HB.out.size⟩
            · go_simp
              obtain ⟨X432, hX432⟩ : ∃ Y, Y = X426.alloc (.cells #[.int .u8 2, .int .i64 0, .int .i64 0] 44) := ⟨_, rfl⟩
              have bb : Below X426.heap.size X426 X432 := by rw [hX432]; exact (Below.refl _ _).alloc (Nat.le_refl _) _
              have HKX432 := Lib.hid (below_join HKX426.out bb HKX426.out.size)
              have T1X432 := Lib.hid (T1X426.out.on bb (Nat.le_refl _))
              have T2X432 := Lib.hid (T2X426.out.on bb (Nat.le_refl _))
              have hbx : X432.heap[X426.heap.size]? = some (.cells #[.int .u8 2, .int .i64 0, .int .i64 0] 44 (0, 0)) := by rw [hX432]; exact box_new _ _ _
              have RUX432 := Lib.hid (rv_block (k := 3) (F := bnF) (l := [⟨2, 0, 0⟩]) hbx (by simp [maxLen]))
              obtain ⟨gu, hgu⟩ : ∃ g, X426.heap.size = g := ⟨_, rfl⟩
              rw [hgu] at RUX432 ⊢
              clear hgu
              rw [← hX432]
              clear bb hX432 hbx
              try dsimp only
              clear hHeld
              refine hK.out _ _ (HS.out _ HKX432.out) (fun hHeld => ?_)
              clear hK K
              try simp only [Act.put, List.setIfInBounds_toArray, List.set_cons_zero, List.set_cons_succ]
              refine wpAnyH_ready (rs := [11]) (by kernel_rfl) (by simp) ?_
              refine AllReadyH.cons rfl (fun K hK => ?_) (AllReadyH.nil)
              go_simp
              go_at_call 13
              refine (c_Broken ⟨p2, exD, A2, c2, wxs b2, qw, W3⟩ true ⟨fun _ => ok3, fun _ => rfl⟩ [⟨2, 0, 0⟩] br3 X432 ⟨T1X432.out, T2X432.out, HW.out _ HKX432.out⟩).mono ?_
              rintro e X433 ⟨A9, c9, rfl, h1, bb⟩
              have HKX433 := Lib.hid (below_join HKX432.out bb HKX432.out.size)
              have RUX433 := Lib.hid (RUX432.out.on bb (Nat.le_refl _))
              have R9X433 := Lib.hid h1
              clear h1
              clear bb
              try dsimp only
              clear hHeld
              refine hK.out _ _ (HS.out _ HKX433.out) (fun hHeld => ?_)
              clear hK K
              try simp only [Act.put, List.setIfInBounds_toArray, List.set_cons_zero, List.set_cons_succ]
              as_aux_lemma =>
                refine wpAnyH_ready (rs := [14]) (by kernel_rfl) (by simp) ?_
                refine AllReadyH.cons rfl (fun K hK => ?_) (AllReadyH.nil)
                go_simp
                go_at_call 12
                refine (c_irSame A9 c9 [⟨2, 0, 0⟩] (some ⟨gu, 0, none⟩) 1 [⟨2, 0, 0⟩] true (by decide) X433 R9X433.out RUX433.out).mono ?_
                rintro e X434 ⟨rfl, bb⟩
                have HKX434 := Lib.hid (below_join HKX433.out bb HKX433.out.size)
                clear bb
                try dsimp only
                clear hHeld
                refine hK.out _ _ (HS.out _ HKX434.out) (fun hHeld => ?_)
                clear hK K
                try simp only [Act.put, List.setIfInBounds_toArray, List.set_cons_zero, List.set_cons_succ]
                refine takeH (i := 15) 41 (v := ?_) rfl rfl (by kernel_rfl) (by kernel_rfl) (by kernel_rfl) (fun _ _ _ h => h) (by rfl) ?_ hHeld ?_
                rotate_left
                · intro X hX; first | (go_simp; done) | (go_simp; with_reducible rfl)
                try simp only [Act.put, List.setIfInBounds_toArray, List.set_cons_zero, List.set_cons_succ]
                refine takeH (i := 16) 42 (v := ?_) rfl rfl (by kernel_rfl) (by kernel_rfl) (by kernel_rfl) (fun _ _ _ h => h) (by rfl) ?_ hHeld ?_
                rotate_left
                · intro X hX; first | (go_simp; done) | (go_simp; with_reducible rfl)
                try simp only [Act.put, List.setIfInBounds_toArray, List.set_cons_zero, List.set_cons_succ]
                refine takeH (i := 17) 43 (v := ?_) rfl rfl (by kernel_rfl) (by kernel_rfl) (by kernel_rfl) (fun _ _ _ h => h) (by rfl) ?_ hHeld ?_
                rotate_left
                · intro X hX; first | (go_simp; done) | (go_simp; with_reducible rfl)
                try simp only [Act.put, List.setIfInBounds_toArray, List.set_cons_zero, List.set_cons_succ]
                refine takeH (i := 18) 44 (v := ?_) rfl rfl (by kernel_rfl) (by kernel_rfl) (by kernel_rfl) (fun _ _ _ h => h) (by rfl) ?_ hHeld ?_
                rotate_left
                · intro X hX; first | (go_simp; done) | (go_simp; with_reducible rfl)
                try simp only [Act.put, List.setIfInBounds_toArray, List.set_cons_zero, List.set_cons_succ]
                refine takeH (i := 19) 45 (v := ?_) rfl rfl (by kernel_rfl) (by kernel_rfl) (by kernel_rfl) (fun _ _ _ h => h) (by rfl) ?_ hHeld ?_
                rotate_left
                · intro X hX; first | (go_simp; done) | (go_simp; with_reducible rfl)
                try simp only [Act.put, List.setIfInBounds_toArray, List.set_cons_zero, List.set_cons_succ]
                refine wpAnyH_ready (rs := [20]) (by kernel_rfl) (by simp) ?_
                refine AllReadyH.cons rfl (fun K hK => ?_) (AllReadyH.nil)
                go_simp
                go_at_call 15
                refine (c_ivHolds zN false ⟨fun h => (by cases h), fun h => absurd h zN_no⟩ [] rfl false rfl X434 (zN_at X434)).mono ?_
                rintro e X435 ⟨rfl, bb⟩
                have HKX435 := Lib.hid (below_join HKX434.out bb HKX434.out.size)
                clear bb
                try dsimp only
                clear hHeld
                refine hK.out _ _ (HS.out _ HKX435.out) (fun hHeld => ?_)
                clear hK K
                try simp only [Act.put, List.setIfInBounds_toArray, List.set_cons_zero, List.set_cons_succ]
                refine takeH (i := 21) 47 (v := ?_) rfl rfl (by kernel_rfl) (by kernel_rfl) (by kernel_rfl) (fun _ _ _ h => h) (by rfl) ?_ hHeld ?_
                rotate_left
                · intro X hX; first | (go_simp; done) | (go_simp; with_reducible rfl)
                try simp only [Act.put, List.setIfInBounds_toArray, List.set_cons_zero, List.set_cons_succ]
                refine takeH (i := 22) 48 (v := ?_) rfl rfl (by kernel_rfl) (by kernel_rfl) (by kernel_rfl) (fun _ _ _ h => h) (by rfl) ?_ hHeld ?_
                rotate_left
                · intro X hX; first | (go_simp; done) | (go_simp; with_reducible rfl)
                try simp only [Act.put, List.setIfInBounds_toArray, List.set_cons_zero, List.set_cons_succ]
                refine takeH (i := 23) 49 (v := ?_) rfl rfl (by kernel_rfl) (by kernel_rfl) (by kernel_rfl) (fun _ _ _ h => h) (by rfl) ?_ hHeld ?_
                rotate_left
                · intro X hX; first | (go_simp; done) | (go_simp; with_reducible rfl)
                try simp only [Act.put, List.setIfInBounds_toArray, List.set_cons_zero, List.set_cons_succ]
                refine wpAnyH_ready (rs := [24]) (by kernel_rfl) (by simp) ?_
                refine AllReadyH.cons rfl (fun K hK => ?_) (AllReadyH.nil)
                go_simp
                go_at_call 11
                refine (c_live X435).mono ?_
                rintro e X436 ⟨rfl, bb⟩
                have HKX436 := Lib.hid (below_join HKX435.out bb HKX435.out.size)
                clear bb
                try dsimp only
                clear hHeld
                refine hK.out _ _ (HS.out _ HKX436.out) (fun hHeld => ?_)
                clear hK K
                try simp only [Act.put, List.setIfInBounds_toArray, List.set_cons_zero, List.set_cons_succ]
                refine takeH (i := 25) 51 (v := ?_) rfl rfl (by kernel_rfl) (by kernel_rfl) (by kernel_rfl) (fun _ _ _ h => h) (by rfl) ?_ hHeld ?_
                rotate_left
                · intro X hX; first | (go_simp; done) | (go_simp; with_reducible rfl)
                try simp only [Act.put, List.setIfInBounds_toArray, List.set_cons_zero, List.set_cons_succ]
                refine takeH (i := 26) 0 (v := ?_) rfl rfl (by kernel_rfl) (by kernel_rfl) (by kernel_rfl) (fun _ _ _ h => h) (by rfl) ?_ hHeld ?_
                rotate_left
                · intro X hX; first | (go_simp; done) | (go_simp; with_reducible rfl)
                try simp only [Act.put, List.setIfInBounds_toArray, List.set_cons_zero, List.set_cons_succ]
                refine wpAnyH_done (by kernel_rfl) ?_ _
                go_wp2_with (fail)
                go_ret
                exact ⟨rfl, below_join HB.out HKX436.out HB.out.size⟩
          · go_simp
            obtain ⟨X437, hX437⟩ : ∃ Y, Y = X425.alloc (.cells #[.int .u8 2, .int .i64 0, .int .i64 0] 44) := ⟨_, rfl⟩
            have bb : Below X425.heap.size X425 X437 := by rw [hX437]; exact (Below.refl _ _).alloc (Nat.le_refl _) _
            have HKX437 := Lib.hid (below_join HKX425.out bb HKX425.out.size)
            have T1X437 := Lib.hid (T1X425.out.on bb (Nat.le_refl _))
            have hbx : X437.heap[X425.heap.size]? = some (.cells #[.int .u8 2, .int .i64 0, .int .i64 0] 44 (0, 0)) := by rw [hX437]; exact box_new _ _ _
            have RUX437 := Lib.hid (rv_block (k := 3) (F := bnF) (l := [⟨2, 0, 0⟩]) hbx (by simp [maxLen]))
            obtain ⟨gu, hgu⟩ : ∃ g, X425.heap.size = g := ⟨_, rfl⟩
            rw [hgu] at RUX437 ⊢
            clear hgu
            rw [← hX437]
            clear bb hX437 hbx
            try dsimp only
            clear hHeld
            refine hK.out _ _ (HS.out _ HKX437.out) (fun hHeld => ?_)
            clear hK K
            try simp only [Act.put, List.setIfInBounds_toArray, List.set_cons_zero, List.set_cons_succ]
            refine wpAnyH_ready (rs := [9]) (by kernel_rfl) (by simp) ?_
            refine AllReadyH.cons rfl (fun K hK => ?_) (AllReadyH.nil)
            go_simp
            go_at_call 26
            refine (c_wishTo X437).mono ?_
            rintro e X438 ⟨A2, c2, b2, rfl, h1, bb⟩
            have HKX438 := Lib.hid (below_join HKX437.out bb HKX437.out.size)
            have T1X438 := Lib.hid (T1X437.out.on bb (Nat.le_refl _))
            have RUX438 := Lib.hid (RUX437.out.on bb (Nat.le_refl _))
            have T2X438 := Lib.hid h1
            clear h1
            clear bb
            try dsimp only
            clear hHeld
            refine hK.out _ _ (HS.out _ HKX438.out) (fun hHeld => ?_)
            clear hK K
            try simp only [Act.put, List.setIfInBounds_toArray, List.set_cons_zero, List.set_cons_succ]
            refine wpAnyH_ready (rs := [11]) (by kernel_rfl) (by simp) ?_
            refine AllReadyH.cons rfl (fun K hK => ?_) (AllReadyH.nil)
            go_simp
            go_at_call 13
            refine (c_Broken ⟨p2, exD, A2, c2, wxs b2, qw, W3⟩ true ⟨fun _ => ok3, fun _ => rfl⟩ [⟨2, 0, 0⟩] br3 X438 ⟨T1X438.out, T2X438.out, HW.out _ HKX438.out⟩).mono ?_
            rintro e X439 ⟨A9, c9, rfl, h1, bb⟩
            have HKX439 := Lib.hid (below_join HKX438.out bb HKX438.out.size)
            have RUX439 := Lib.hid (RUX438.out.on bb (Nat.le_refl _))
            have R9X439 := Lib.hid h1
            clear h1
            clear bb
            try dsimp only
            clear hHeld
            refine hK.out _ _ (HS.out _ HKX439.out) (fun hHeld => ?_)
            clear hK K
            try simp only [Act.put, List.setIfInBounds_toArray, List.set_cons_zero, List.set_cons_succ]
            as_aux_lemma =>
              refine wpAnyH_ready (rs := [14]) (by kernel_rfl) (by simp) ?_
              refine AllReadyH.cons rfl (fun K hK => ?_) (AllReadyH.nil)
              go_simp
              go_at_call 12
              refine (c_irSame A9 c9 [⟨2, 0, 0⟩] (some ⟨gu, 0, none⟩) 1 [⟨2, 0, 0⟩] true (by decide) X439 R9X439.out RUX439.out).mono ?_
              rintro e X440 ⟨rfl, bb⟩
              have HKX440 := Lib.hid (below_join HKX439.out bb HKX439.out.size)
              clear bb
              try dsimp only
              clear hHeld
              refine hK.out _ _ (HS.out _ HKX440.out) (fun hHeld => ?_)
              clear hK K
              try simp only [Act.put, List.setIfInBounds_toArray, List.set_cons_zero, List.set_cons_succ]
              refine takeH (i := 15) 41 (v := ?_) rfl rfl (by kernel_rfl) (by kernel_rfl) (by kernel_rfl) (fun _ _ _ h => h) (by rfl) ?_ hHeld ?_
              rotate_left
              · intro X hX; first | (go_simp; done) | (go_simp; with_reducible rfl)
              try simp only [Act.put, List.setIfInBounds_toArray, List.set_cons_zero, List.set_cons_succ]
              refine takeH (i := 16) 42 (v := ?_) rfl rfl (by kernel_rfl) (by kernel_rfl) (by kernel_rfl) (fun _ _ _ h => h) (by rfl) ?_ hHeld ?_
              rotate_left
              · intro X hX; first | (go_simp; done) | (go_simp; with_reducible rfl)
              try simp only [Act.put, List.setIfInBounds_toArray, List.set_cons_zero, List.set_cons_succ]
              refine takeH (i := 17) 43 (v := ?_) rfl rfl (by kernel_rfl) (by kernel_rfl) (by kernel_rfl) (fun _ _ _ h => h) (by rfl) ?_ hHeld ?_
              rotate_left
              · intro X hX; first | (go_simp; done) | (go_simp; with_reducible rfl)
              try simp only [Act.put, List.setIfInBounds_toArray, List.set_cons_zero, List.set_cons_succ]
              refine takeH (i := 18) 44 (v := ?_) rfl rfl (by kernel_rfl) (by kernel_rfl) (by kernel_rfl) (fun _ _ _ h => h) (by rfl) ?_ hHeld ?_
              rotate_left
              · intro X hX; first | (go_simp; done) | (go_simp; with_reducible rfl)
              try simp only [Act.put, List.setIfInBounds_toArray, List.set_cons_zero, List.set_cons_succ]
              refine takeH (i := 19) 45 (v := ?_) rfl rfl (by kernel_rfl) (by kernel_rfl) (by kernel_rfl) (fun _ _ _ h => h) (by rfl) ?_ hHeld ?_
              rotate_left
              · intro X hX; first | (go_simp; done) | (go_simp; with_reducible rfl)
              try simp only [Act.put, List.setIfInBounds_toArray, List.set_cons_zero, List.set_cons_succ]
              refine wpAnyH_ready (rs := [20]) (by kernel_rfl) (by simp) ?_
              refine AllReadyH.cons rfl (fun K hK => ?_) (AllReadyH.nil)
              go_simp
              go_at_call 15
              refine (c_ivHolds zN false ⟨fun h => (by cases h), fun h => absurd h zN_no⟩ [] rfl false rfl X440 (zN_at X440)).mono ?_
              rintro e X441 ⟨rfl, bb⟩
              have HKX441 := Lib.hid (below_join HKX440.out bb HKX440.out.size)
              clear bb
              try dsimp only
              clear hHeld
              refine hK.out _ _ (HS.out _ HKX441.out) (fun hHeld => ?_)
              clear hK K
              try simp only [Act.put, List.setIfInBounds_toArray, List.set_cons_zero, List.set_cons_succ]
              refine takeH (i := 21) 47 (v := ?_) rfl rfl (by kernel_rfl) (by kernel_rfl) (by kernel_rfl) (fun _ _ _ h => h) (by rfl) ?_ hHeld ?_
              rotate_left
              · intro X hX; first | (go_simp; done) | (go_simp; with_reducible rfl)
              try simp only [Act.put, List.setIfInBounds_toArray, List.set_cons_zero, List.set_cons_succ]
              refine takeH (i := 22) 48 (v := ?_) rfl rfl (by kernel_rfl) (by kernel_rfl) (by kernel_rfl) (fun _ _ _ h => h) (by rfl) ?_ hHeld ?_
              rotate_left
              · intro X hX; first | (go_simp; done) | (go_simp; with_reducible rfl)
              try simp only [Act.put, List.setIfInBounds_toArray, List.set_cons_zero, List.set_cons_succ]
              refine takeH (i := 23) 49 (v := ?_) rfl rfl (by kernel_rfl) (by kernel_rfl) (by kernel_rfl) (fun _ _ _ h => h) (by rfl) ?_ hHeld ?_
              rotate_left
              · intro X hX; first | (go_simp; done) | (go_simp; with_reducible rfl)
              try simp only [Act.put, List.setIfInBounds_toArray, List.set_cons_zero, List.set_cons_succ]
              refine wpAnyH_ready (rs := [24]) (by kernel_rfl) (by simp) ?_
              refine AllReadyH.cons rfl (fun K hK => ?_) (AllReadyH.nil)
              go_simp
              go_at_call 11
              refine (c_live X441).mono ?_
              rintro e X442 ⟨rfl, bb⟩
              have HKX442 := Lib.hid (below_join HKX441.out bb HKX441.out.size)
              clear bb
              try dsimp only
              clear hHeld
              refine hK.out _ _ (HS.out _ HKX442.out) (fun hHeld => ?_)
              clear hK K
              try simp only [Act.put, List.setIfInBounds_toArray, List.set_cons_zero, List.set_cons_succ]
              refine takeH (i := 25) 51 (v := ?_) rfl rfl (by kernel_rfl) (by kernel_rfl) (by kernel_rfl) (fun _ _ _ h => h) (by rfl) ?_ hHeld ?_
              rotate_left
              · intro X hX; first | (go_simp; done) | (go_simp; with_reducible rfl)
              try simp only [Act.put, List.setIfInBounds_toArray, List.set_cons_zero, List.set_cons_succ]
              refine takeH (i := 26) 0 (v := ?_) rfl rfl (by kernel_rfl) (by kernel_rfl) (by kernel_rfl) (fun _ _ _ h => h) (by rfl) ?_ hHeld ?_
              rotate_left
              · intro X hX; first | (go_simp; done) | (go_simp; with_reducible rfl)
              try simp only [Act.put, List.setIfInBounds_toArray, List.set_cons_zero, List.set_cons_succ]
              refine wpAnyH_done (by kernel_rfl) ?_ _
              go_wp2_with (fail)
              go_ret
              exact ⟨rfl, below_join HB.out HKX442.out HB.out.size⟩
        · go_simp
          obtain ⟨X443, hX443⟩ : ∃ Y, Y = X424.alloc (.cells #[.int .u8 2, .int .i64 0, .int .i64 0] 44) := ⟨_, rfl⟩
          have bb : Below X424.heap.size X424 X443 := by rw [hX443]; exact (Below.refl _ _).alloc (Nat.le_refl _) _
          have HKX443 := Lib.hid (below_join HKX424.out bb HKX424.out.size)
          have hbx : X443.heap[X424.heap.size]? = some (.cells #[.int .u8 2, .int .i64 0, .int .i64 0] 44 (0, 0)) := by rw [hX443]; exact box_new _ _ _
          have RUX443 := Lib.hid (rv_block (k := 3) (F := bnF) (l := [⟨2, 0, 0⟩]) hbx (by simp [maxLen]))
          obtain ⟨gu, hgu⟩ : ∃ g, X424.heap.size = g := ⟨_, rfl⟩
          rw [hgu] at RUX443 ⊢
          clear hgu
          rw [← hX443]
          clear bb hX443 hbx
          try dsimp only
          clear hHeld
          refine hK.out _ _ (HS.out _ HKX443.out) (fun hHeld => ?_)
          clear hK K
          try simp only [Act.put, List.setIfInBounds_toArray, List.set_cons_zero, List.set_cons_succ]
          refine wpAnyH_ready (rs := [8]) (by kernel_rfl) (by simp) ?_
          refine AllReadyH.cons rfl (fun K hK => ?_) (AllReadyH.nil)
          go_simp
          go_at_call 25
          refine (c_siteTo X443).mono ?_
          rintro e X444 ⟨p2, rfl, h1, bb⟩
          have HKX444 := Lib.hid (below_join HKX443.out bb HKX443.out.size)
          have RUX444 := Lib.hid (RUX443.out.on bb (Nat.le_refl _))
          have T1X444 := Lib.hid h1
          clear h1
          clear bb
          try dsimp only
          clear hHeld
          refine hK.out _ _ (HS.out _ HKX444.out) (fun hHeld => ?_)
          clear hK K
          try simp only [Act.put, List.setIfInBounds_toArray, List.set_cons_zero, List.set_cons_succ]
          refine wpAnyH_ready (rs := [9]) (by kernel_rfl) (by simp) ?_
          refine AllReadyH.cons rfl (fun K hK => ?_) (AllReadyH.nil)
          go_simp
          go_at_call 26
          refine (c_wishTo X444).mono ?_
          rintro e X445 ⟨A2, c2, b2, rfl, h1, bb⟩
          have HKX445 := Lib.hid (below_join HKX444.out bb HKX444.out.size)
          have RUX445 := Lib.hid (RUX444.out.on bb (Nat.le_refl _))
          have T1X445 := Lib.hid (T1X444.out.on bb (Nat.le_refl _))
          have T2X445 := Lib.hid h1
          clear h1
          clear bb
          try dsimp only
          clear hHeld
          refine hK.out _ _ (HS.out _ HKX445.out) (fun hHeld => ?_)
          clear hK K
          try simp only [Act.put, List.setIfInBounds_toArray, List.set_cons_zero, List.set_cons_succ]
          refine wpAnyH_ready (rs := [11]) (by kernel_rfl) (by simp) ?_
          refine AllReadyH.cons rfl (fun K hK => ?_) (AllReadyH.nil)
          go_simp
          go_at_call 13
          refine (c_Broken ⟨p2, exD, A2, c2, wxs b2, qw, W3⟩ true ⟨fun _ => ok3, fun _ => rfl⟩ [⟨2, 0, 0⟩] br3 X445 ⟨T1X445.out, T2X445.out, HW.out _ HKX445.out⟩).mono ?_
          rintro e X446 ⟨A9, c9, rfl, h1, bb⟩
          have HKX446 := Lib.hid (below_join HKX445.out bb HKX445.out.size)
          have RUX446 := Lib.hid (RUX445.out.on bb (Nat.le_refl _))
          have R9X446 := Lib.hid h1
          clear h1
          clear bb
          try dsimp only
          clear hHeld
          refine hK.out _ _ (HS.out _ HKX446.out) (fun hHeld => ?_)
          clear hK K
          try simp only [Act.put, List.setIfInBounds_toArray, List.set_cons_zero, List.set_cons_succ]
          as_aux_lemma =>
            refine wpAnyH_ready (rs := [14]) (by kernel_rfl) (by simp) ?_
            refine AllReadyH.cons rfl (fun K hK => ?_) (AllReadyH.nil)
            go_simp
            go_at_call 12
            refine (c_irSame A9 c9 [⟨2, 0, 0⟩] (some ⟨gu, 0, none⟩) 1 [⟨2, 0, 0⟩] true (by decide) X446 R9X446.out RUX446.out).mono ?_
            rintro e X447 ⟨rfl, bb⟩
            have HKX447 := Lib.hid (below_join HKX446.out bb HKX446.out.size)
            clear bb
            try dsimp only
            clear hHeld
            refine hK.out _ _ (HS.out _ HKX447.out) (fun hHeld => ?_)
            clear hK K
            try simp only [Act.put, List.setIfInBounds_toArray, List.set_cons_zero, List.set_cons_succ]
            refine takeH (i := 15) 41 (v := ?_) rfl rfl (by kernel_rfl) (by kernel_rfl) (by kernel_rfl) (fun _ _ _ h => h) (by rfl) ?_ hHeld ?_
            rotate_left
            · intro X hX; first | (go_simp; done) | (go_simp; with_reducible rfl)
            try simp only [Act.put, List.setIfInBounds_toArray, List.set_cons_zero, List.set_cons_succ]
            refine takeH (i := 16) 42 (v := ?_) rfl rfl (by kernel_rfl) (by kernel_rfl) (by kernel_rfl) (fun _ _ _ h => h) (by rfl) ?_ hHeld ?_
            rotate_left
            · intro X hX; first | (go_simp; done) | (go_simp; with_reducible rfl)
            try simp only [Act.put, List.setIfInBounds_toArray, List.set_cons_zero, List.set_cons_succ]
            refine takeH (i := 17) 43 (v := ?_) rfl rfl (by kernel_rfl) (by kernel_rfl) (by kernel_rfl) (fun _ _ _ h => h) (by rfl) ?_ hHeld ?_
            rotate_left
            · intro X hX; first | (go_simp; done) | (go_simp; with_reducible rfl)
            try simp only [Act.put, List.setIfInBounds_toArray, List.set_cons_zero, List.set_cons_succ]
            refine takeH (i := 18) 44 (v := ?_) rfl rfl (by kernel_rfl) (by kernel_rfl) (by kernel_rfl) (fun _ _ _ h => h) (by rfl) ?_ hHeld ?_
            rotate_left
            · intro X hX; first | (go_simp; done) | (go_simp; with_reducible rfl)
            try simp only [Act.put, List.setIfInBounds_toArray, List.set_cons_zero, List.set_cons_succ]
            refine takeH (i := 19) 45 (v := ?_) rfl rfl (by kernel_rfl) (by kernel_rfl) (by kernel_rfl) (fun _ _ _ h => h) (by rfl) ?_ hHeld ?_
            rotate_left
            · intro X hX; first | (go_simp; done) | (go_simp; with_reducible rfl)
            try simp only [Act.put, List.setIfInBounds_toArray, List.set_cons_zero, List.set_cons_succ]
            refine wpAnyH_ready (rs := [20]) (by kernel_rfl) (by simp) ?_
            refine AllReadyH.cons rfl (fun K hK => ?_) (AllReadyH.nil)
            go_simp
            go_at_call 15
            refine (c_ivHolds zN false ⟨fun h => (by cases h), fun h => absurd h zN_no⟩ [] rfl false rfl X447 (zN_at X447)).mono ?_
            rintro e X448 ⟨rfl, bb⟩
            have HKX448 := Lib.hid (below_join HKX447.out bb HKX447.out.size)
            clear bb
            try dsimp only
            clear hHeld
            refine hK.out _ _ (HS.out _ HKX448.out) (fun hHeld => ?_)
            clear hK K
            try simp only [Act.put, List.setIfInBounds_toArray, List.set_cons_zero, List.set_cons_succ]
            refine takeH (i := 21) 47 (v := ?_) rfl rfl (by kernel_rfl) (by kernel_rfl) (by kernel_rfl) (fun _ _ _ h => h) (by rfl) ?_ hHeld ?_
            rotate_left
            · intro X hX; first | (go_simp; done) | (go_simp; with_reducible rfl)
            try simp only [Act.put, List.setIfInBounds_toArray, List.set_cons_zero, List.set_cons_succ]
            refine takeH (i := 22) 48 (v := ?_) rfl rfl (by kernel_rfl) (by kernel_rfl) (by kernel_rfl) (fun _ _ _ h => h) (by rfl) ?_ hHeld ?_
            rotate_left
            · intro X hX; first | (go_simp; done) | (go_simp; with_reducible rfl)
            try simp only [Act.put, List.setIfInBounds_toArray, List.set_cons_zero, List.set_cons_succ]
            refine takeH (i := 23) 49 (v := ?_) rfl rfl (by kernel_rfl) (by kernel_rfl) (by kernel_rfl) (fun _ _ _ h => h) (by rfl) ?_ hHeld ?_
            rotate_left
            · intro X hX; first | (go_simp; done) | (go_simp; with_reducible rfl)
            try simp only [Act.put, List.setIfInBounds_toArray, List.set_cons_zero, List.set_cons_succ]
            refine wpAnyH_ready (rs := [24]) (by kernel_rfl) (by simp) ?_
            refine AllReadyH.cons rfl (fun K hK => ?_) (AllReadyH.nil)
            go_simp
            go_at_call 11
            refine (c_live X448).mono ?_
            rintro e X449 ⟨rfl, bb⟩
            have HKX449 := Lib.hid (below_join HKX448.out bb HKX448.out.size)
            clear bb
            try dsimp only
            clear hHeld
            refine hK.out _ _ (HS.out _ HKX449.out) (fun hHeld => ?_)
            clear hK K
            try simp only [Act.put, List.setIfInBounds_toArray, List.set_cons_zero, List.set_cons_succ]
            refine takeH (i := 25) 51 (v := ?_) rfl rfl (by kernel_rfl) (by kernel_rfl) (by kernel_rfl) (fun _ _ _ h => h) (by rfl) ?_ hHeld ?_
            rotate_left
            · intro X hX; first | (go_simp; done) | (go_simp; with_reducible rfl)
            try simp only [Act.put, List.setIfInBounds_toArray, List.set_cons_zero, List.set_cons_succ]
            refine takeH (i := 26) 0 (v := ?_) rfl rfl (by kernel_rfl) (by kernel_rfl) (by kernel_rfl) (fun _ _ _ h => h) (by rfl) ?_ hHeld ?_
            rotate_left
            · intro X hX; first | (go_simp; done) | (go_simp; with_reducible rfl)
            try simp only [Act.put, List.setIfInBounds_toArray, List.set_cons_zero, List.set_cons_succ]
            refine wpAnyH_done (by kernel_rfl) ?_ _
            go_wp2_with (fail)
            go_ret
            exact ⟨rfl, below_join HB.out HKX449.out HB.out.size⟩
end Go.Proofs.YtbbadnlaelgmlaaGreat
