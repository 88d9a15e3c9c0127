/-
  The law InvariantOrder (written by gen/inv_QE.py; stage 17).
-/
import Derived.Test.YtbbadnlaelgmlaaGreatQB
set_option linter.unusedVariables false
set_option linter.unusedSimpArgs false
namespace Go.Proofs.YtbbadnlaelgmlaaGreat
open Go.RowKit
set_option maxRecDepth 100000
set_option linter.unusedVariables false
set_option linter.unusedSimpArgs false

theorem bx_put {X : World} {g m : Nat} {o : Obj} (h : X.heap[g]? = some o) (hne : g ≠ m) (x0 x1 x2 : Value) : (((X.setCell ⟨m, 0, none⟩ x0).setCell ⟨m, 1, none⟩ x1).setCell ⟨m, 2, none⟩ x2).heap[g]? = some o := set_else (set_else (set_else h hne) hne) hne
set_option maxHeartbeats 64000000 in
theorem w_InvariantOrder (z : Sn) (w : World) (hz : SnAt w z) :
    Calls Tryz.prog 5 #[.agg #[.slice z.p.a1 z.s.feeds.length z.p.c1, .slice z.p.a2 z.s.brks.length z.p.c2, .slice z.p.a3 z.s.loops.length z.p.c3, .slice z.p.a4 z.s.racks.length z.p.c4, .int .i64 z.s.sw, .slice z.p.a5 z.s.links.length z.p.c5, .slice z.p.a6 z.s.hosts.length z.p.c6], .agg #[.slice z.A z.xs.length z.c], .agg #[.slice z.q.a1 z.d.hosts.length z.q.c1, .slice z.q.a2 z.d.reps.length z.q.c2]] w fun e w' => e = .returned (.bool true) ∧ Below w.heap.size w w' := by
  obtain ⟨W1, h1⟩ : ∃ W, W = w.alloc (.cells #[.slice z.p.a1 z.s.feeds.length z.p.c1, .slice z.p.a2 z.s.brks.length z.p.c2, .slice z.p.a3 z.s.loops.length z.p.c3, .slice z.p.a4 z.s.racks.length z.p.c4, .int .i64 z.s.sw, .slice z.p.a5 z.s.links.length z.p.c5, .slice z.p.a6 z.s.hosts.length z.p.c6] 29) := ⟨_, rfl⟩
  obtain ⟨W2, h2⟩ : ∃ W, W = W1.alloc (.cells #[.slice z.A z.xs.length z.c] 32) := ⟨_, rfl⟩
  obtain ⟨W, h3⟩ : ∃ W, W = W2.alloc (.cells #[.slice z.q.a1 z.d.hosts.length z.q.c1, .slice z.q.a2 z.d.reps.length z.q.c2] 36) := ⟨_, rfl⟩
  obtain ⟨B0, X1⟩ := sn_boxes h1 h2 h3
  have z3 : W.heap.size = w.heap.size + 1 + 1 + 1 := sn_size h1 h2 h3
  have HB := Lib.hid B0
  have Z0 := hz.on B0 (Nat.le_refl _)
  have HZ := Lib.hid (fun (X : World) (hX : Below W.heap.size W X) => Z0.on hX (Nat.le_refl _))
  have HF := Lib.hid (fun (X : World) (hX : Below W.heap.size W X) => ((X1.on hX (Nat.le_refl _)).cells : X.cell? ⟨w.heap.size, 0, none⟩ = some (.slice z.p.a1 z.s.feeds.length z.p.c1) ∧ X.cell? ⟨w.heap.size, 1, none⟩ = some (.slice z.p.a2 z.s.brks.length z.p.c2) ∧ X.cell? ⟨w.heap.size, 2, none⟩ = some (.slice z.p.a3 z.s.loops.length z.p.c3) ∧ X.cell? ⟨w.heap.size, 3, none⟩ = some (.slice z.p.a4 z.s.racks.length z.p.c4) ∧ X.cell? ⟨w.heap.size, 4, none⟩ = some (.int .i64 z.s.sw) ∧ X.cell? ⟨w.heap.size, 5, none⟩ = some (.slice z.p.a5 z.s.links.length z.p.c5) ∧ X.cell? ⟨w.heap.size, 6, none⟩ = some (.slice z.p.a6 z.s.hosts.length z.p.c6) ∧ X.cell? ⟨w.heap.size + 1, 0, none⟩ = some (.slice z.A z.xs.length z.c) ∧ X.cell? ⟨w.heap.size + 1 + 1, 0, none⟩ = some (.slice z.q.a1 z.d.hosts.length z.q.c1) ∧ X.cell? ⟨w.heap.size + 1 + 1, 1, none⟩ = some (.slice z.q.a2 z.d.reps.length z.q.c2)))
  have HX := Lib.hid (fun (X : World) (hX : Below W.heap.size W X) => X1.on hX (Nat.le_refl _))
  have HKW := Lib.hid (Below.refl W.heap.size W)
  have hle := HB.out.size
  obtain ⟨n1, n2, n3, n4, n5, n6, n7, n8⟩ := hz.bounds
  clear hz B0 X1 z3 Z0
  obtain ⟨f0, f1, f2, f3, f4, f5, f6, g0, g1, g2⟩ := HF.out W HKW.out
  rw [h3, h2, h1] at f0 f1 f2 f3 f4 f5 f6 g0 g1 g2
  generalize hBB : w.heap.size = B at *
  go_enter Tryz.func5, Tryz.ntmps5
  go_wp2_with (fail)
  rw [← h1, ← h2, ← h3]
  clear h1 h2 h3 f0 f1 f2 f3 f4 f5 f6 g0 g1 g2
  obtain ⟨r, hr⟩ := bool_of (FewI z)
  have HR := Lib.hid hr
  obtain ⟨r0, hr0⟩ := bool_of z.Ok
  have HR0 := Lib.hid hr0
  obtain ⟨L, hL⟩ : ∃ L, bnV z.s z.ss z.d r0 = L := ⟨_, rfl⟩
  have HLL := Lib.hid hL
  have HAS := Lib.hid (show L.Pairwise ltBn by rw [← hL]; exact asc_bnV hr0.1)
  clear hr hr0 hL
  go_at_call 10
  refine (c_few z r HR.out W (HZ.out _ HKW.out)).mono ?_
  rintro e v1 ⟨rfl, bb⟩
  have HKv1 := Lib.hid (below_join HKW.out bb HKW.out.size)
  clear bb
  rcases r with _ | _
  · go_wp2_with (fail)
    go_at_call 11
    refine (c_live v1).mono ?_
    rintro e v2 ⟨rfl, bb⟩
    have HKv2 := Lib.hid (below_join HKv1.out bb HKv1.out.size)
    clear bb
    go_wp2_with (fail)
    go_ret
    exact ⟨rfl, below_join HB.out HKv2.out hle⟩
  obtain ⟨f0, f1, f2, f3, f4, f5, f6, g0, g1, g2⟩ := HF.out v1 HKv1.out
  go_wp2_with (fail)
  clear f0 f1 f2 f3 f4 f5 f6 g0 g1 g2
  go_at_call 13
  refine (c_Broken z r0 HR0.out L HLL.out v1 (HZ.out _ HKv1.out)).mono ?_
  rintro e v3 ⟨A1, q1, rfl, rv1, bb⟩
  have HKv3 := Lib.hid (below_join HKv1.out bb HKv1.out.size)
  have RAv3 := Lib.hid rv1
  clear rv1
  clear bb
  have hcap := RAv3.out.1
  have hcap2 := RAv3.out.2.1
  unfold maxLen at hcap2
  have HVV := Lib.hid (Below.refl v3.heap.size v3)
  go_wp2_with (fail)
  go_loopw [8] (fun i wr => ∃ j : Nat, (j + 1 ≤ L.length ∨ j = 0) ∧ i = .int .i64 ((j : Int) + 1) ∧ Hid (Below v3.heap.size v3 wr)) (fun i _ => L.length - (intOf i).toNat)
  case atStart => exact ⟨0, .inr rfl, rfl, HVV⟩
  case round =>
    obtain ⟨j, hj, rfl, HKwr⟩ := hrel
    have hj0 : ((j : Nat) : Int).toNat = j := by omega
    have hj1 : ((j : Int) + 1).toNat = j + 1 := by omega
    by_cases hlt : j + 1 < L.length
    · obtain ⟨x, hx⟩ : ∃ x, L[j]? = some x := ⟨_, List.getElem?_eq_getElem (by omega)⟩
      obtain ⟨y, hy⟩ : ∃ y, L[j + 1]? = some y := ⟨_, List.getElem?_eq_getElem (by omega)⟩
      have HLT := Lib.hid (asc_next HAS.out hx hy)
      have h1 : (j : Int) + 1 < (L.length : Int) := by omega
      have h2 : (j : Int) < (L.length : Int) := by omega
      have h3 : IntKind.i64.wrap ((j : Int) + 1 - 1) = (j : Int) := by rw [wrap_in (by omega) (by omega)]; omega
      have h4 : (j : Int) + 1 - 1 = (j : Int) := by omega
      have h7 : IntKind.i64.wrap (j : Int) = (j : Int) := wrap_in (by omega) (by omega)
      have h5 : ¬ ((j : Int) + 1 < 0) := by omega
      have h6 : (0 : Int) ≤ (j : Int) + 1 := by omega
      obtain ⟨pb, po, pe, -, -⟩ := (RAv3.out.on HKwr.out (Nat.le_refl _)).at_ hx
      have HS := Lib.hid (fun (X : World) (hX : Below wr.heap.size wr X) => (by
        have r := RAv3.out.on (below_join HKwr.out hX HKwr.out.size) (Nat.le_refl _)
        rw [pe] at r
        obtain ⟨a0, a1, a2⟩ := bn_at r hx
        exact ⟨a0, a1, a2, bn_at r hy⟩ : X.cell? ⟨pb, po + j * 3, none⟩ = some (.int .u8 (x.kind : Int)) ∧ X.cell? ⟨pb, po + j * 3 + 1, none⟩ = some (.int .i64 x.a) ∧ X.cell? ⟨pb, po + j * 3 + 2, none⟩ = some (.int .i64 x.b) ∧ X.cell? ⟨pb, po + (j + 1) * 3, none⟩ = some (.int .u8 (y.kind : Int)) ∧ X.cell? ⟨pb, po + (j + 1) * 3 + 1, none⟩ = some (.int .i64 y.a) ∧ X.cell? ⟨pb, po + (j + 1) * 3 + 2, none⟩ = some (.int .i64 y.b)))
      rw [pe]
      clear hx hy pe
      go_wp2_with (fail)
      refine wp_region_held_drew (S := fun X => X.cell? ⟨pb, po + j * 3, none⟩ = some (.int .u8 (x.kind : Int)) ∧ X.cell? ⟨pb, po + j * 3 + 1, none⟩ = some (.int .i64 x.a) ∧ X.cell? ⟨pb, po + j * 3 + 2, none⟩ = some (.int .i64 x.b) ∧ X.cell? ⟨pb, po + (j + 1) * 3, none⟩ = some (.int .u8 (y.kind : Int)) ∧ X.cell? ⟨pb, po + (j + 1) * 3 + 1, none⟩ = some (.int .i64 y.a) ∧ X.cell? ⟨pb, po + (j + 1) * 3 + 2, none⟩ = some (.int .i64 y.b)) (by kernel_rfl) (HS.out _ (Below.refl _ _).drew) (fun hHeld => ?_)
      have HKX0 := Lib.hid (show Below wr.heap.size wr wr.drew from (Below.refl _ _).drew)
      generalize hX0 : wr.drew = X0 at *
      clear hX0
      refine takeH (i := 0) 27 (v := ?_) rfl rfl (by kernel_rfl) (by kernel_rfl) (by kernel_rfl) (fun _ _ _ h => h) (by rfl) ?_ hHeld ?_
      rotate_left
      · intro X hX; obtain ⟨hq0, hq1, hq2, hq3, hq4, hq5⟩ := hX; first | (go_simp; done) | (go_simp; with_reducible rfl)
      try simp only [Act.put, List.setIfInBounds_toArray, List.set_cons_zero, List.set_cons_succ]
      refine takeH (i := 1) 28 (v := ?_) rfl rfl (by kernel_rfl) (by kernel_rfl) (by kernel_rfl) (fun _ _ _ h => h) (by rfl) ?_ hHeld ?_
      rotate_left
      · intro X hX; obtain ⟨hq0, hq1, hq2, hq3, hq4, hq5⟩ := hX; first | (go_simp; done) | (go_simp; with_reducible rfl)
      try simp only [Act.put, List.setIfInBounds_toArray, List.set_cons_zero, List.set_cons_succ]
      refine takeH (i := 2) 29 (v := ?_) rfl rfl (by kernel_rfl) (by kernel_rfl) (by kernel_rfl) (fun _ _ _ h => h) (by rfl) ?_ hHeld ?_
      rotate_left
      · intro X hX; obtain ⟨hq0, hq1, hq2, hq3, hq4, hq5⟩ := hX; first | (go_simp; done) | (go_simp; with_reducible rfl)
      try simp only [Act.put, List.setIfInBounds_toArray, List.set_cons_zero, List.set_cons_succ]
      refine takeH (i := 3) 30 (v := ?_) rfl rfl (by kernel_rfl) (by kernel_rfl) (by kernel_rfl) (fun _ _ _ h => h) (by rfl) ?_ hHeld ?_
      rotate_left
      · intro X hX; obtain ⟨hq0, hq1, hq2, hq3, hq4, hq5⟩ := hX; first | (go_simp; done) | (go_simp; with_reducible rfl)
      try simp only [Act.put, List.setIfInBounds_toArray, List.set_cons_zero, List.set_cons_succ]
      refine takeH (i := 4) 31 (v := ?_) rfl rfl (by kernel_rfl) (by kernel_rfl) (by kernel_rfl) (fun _ _ _ h => h) (by rfl) ?_ hHeld ?_
      rotate_left
      · intro X hX; obtain ⟨hq0, hq1, hq2, hq3, hq4, hq5⟩ := hX; first | (go_simp; done) | (go_simp; with_reducible rfl)
      try simp only [Act.put, List.setIfInBounds_toArray, List.set_cons_zero, List.set_cons_succ]
      refine takeH (i := 5) 32 (v := ?_) rfl rfl (by kernel_rfl) (by kernel_rfl) (by kernel_rfl) (fun _ _ _ h => h) (by rfl) ?_ hHeld ?_
      rotate_left
      · intro X hX; obtain ⟨hq0, hq1, hq2, hq3, hq4, hq5⟩ := hX; first | (go_simp; done) | (go_simp; with_reducible rfl)
      try simp only [Act.put, List.setIfInBounds_toArray, List.set_cons_zero, List.set_cons_succ]
      refine takeH (i := 6) 33 (v := ?_) rfl rfl (by kernel_rfl) (by kernel_rfl) (by kernel_rfl) (fun _ _ _ h => h) (by rfl) ?_ hHeld ?_
      rotate_left
      · intro X hX; obtain ⟨hq0, hq1, hq2, hq3, hq4, hq5⟩ := hX; first | (go_simp; done) | (go_simp; with_reducible rfl)
      try simp only [Act.put, List.setIfInBounds_toArray, List.set_cons_zero, List.set_cons_succ]
      refine takeH (i := 7) 34 (v := ?_) rfl rfl (by kernel_rfl) (by kernel_rfl) (by kernel_rfl) (fun _ _ _ h => h) (by rfl) ?_ hHeld ?_
      rotate_left
      · intro X hX; obtain ⟨hq0, hq1, hq2, hq3, hq4, hq5⟩ := hX; first | (go_simp; done) | (go_simp; with_reducible rfl)
      try simp only [Act.put, List.setIfInBounds_toArray, List.set_cons_zero, List.set_cons_succ]
      refine takeH (i := 8) 35 (v := ?_) rfl rfl (by kernel_rfl) (by kernel_rfl) (by kernel_rfl) (fun _ _ _ h => h) (by rfl) ?_ hHeld ?_
      rotate_left
      · intro X hX; obtain ⟨hq0, hq1, hq2, hq3, hq4, hq5⟩ := hX; first | (go_simp; done) | (go_simp; with_reducible rfl)
      try simp only [Act.put, List.setIfInBounds_toArray, List.set_cons_zero, List.set_cons_succ]
      refine wpAnyH_ready (rs := [9, 10]) (by kernel_rfl) (by simp) ?_
      refine AllReadyH.cons rfl (fun K hK => ?_) (AllReadyH.cons rfl (fun K hK => ?_) (AllReadyH.nil))
      · go_simp
        obtain ⟨X101, hX101⟩ : ∃ Y, Y = X0.alloc (.cells #[.int .u8 0, .int .i64 0, .int .i64 0] 44) := ⟨_, rfl⟩
        have bb : Below X0.heap.size X0 X101 := by rw [hX101]; exact (Below.refl _ _).alloc (Nat.le_refl _) _
        have HKX101 := Lib.hid (below_join HKX0.out bb HKX0.out.size)
        obtain ⟨ga, hga⟩ : ∃ g, X0.heap.size = g := ⟨_, rfl⟩
        have GaX101 := Lib.hid (show X101.heap[ga]? = some (.cells #[.int .u8 0, .int .i64 0, .int .i64 0] 44 (0, 0)) by rw [← hga, hX101]; exact box_new _ _ _)
        have hwga : wr.heap.size ≤ ga := by rw [← hga]; exact HKX0.out.size
        rw [← hX101]
        rw [hga]
        clear bb hX101 hga
        try dsimp only
        clear hHeld
        refine hK.out _ _ (HS.out _ HKX101.out) (fun hHeld => ?_)
        clear hK K
        try simp only [Act.put, List.setIfInBounds_toArray, List.set_cons_zero, List.set_cons_succ]
        refine wpAnyH_ready (rs := [10]) (by kernel_rfl) (by simp) ?_
        refine AllReadyH.cons rfl (fun K hK => ?_) (AllReadyH.nil)
        go_simp
        obtain ⟨X102, hX102⟩ : ∃ Y, Y = X101.alloc (.cells #[.int .u8 0, .int .i64 0, .int .i64 0] 44) := ⟨_, rfl⟩
        have bb : Below X101.heap.size X101 X102 := by rw [hX102]; exact (Below.refl _ _).alloc (Nat.le_refl _) _
        have HKX102 := Lib.hid (below_join HKX101.out bb HKX101.out.size)
        have GaX102 := Lib.hid (show X102.heap[ga]? = some (.cells #[.int .u8 0, .int .i64 0, .int .i64 0] 44 (0, 0)) from box_on GaX101.out bb (Nat.le_refl _))
        obtain ⟨gb, hgb⟩ : ∃ g, X101.heap.size = g := ⟨_, rfl⟩
        have GbX102 := Lib.hid (show X102.heap[gb]? = some (.cells #[.int .u8 0, .int .i64 0, .int .i64 0] 44 (0, 0)) by rw [← hgb, hX102]; exact box_new _ _ _)
        have hwgb : wr.heap.size ≤ gb := by rw [← hgb]; exact HKX101.out.size
        have hne : ga ≠ gb := by have := at_lt GaX101.out; omega
        have HNE := Lib.hid hne
        clear hne
        rw [← hX102]
        rw [hgb]
        clear bb hX102 hgb
        try dsimp only
        clear hHeld
        refine hK.out _ _ (HS.out _ HKX102.out) (fun hHeld => ?_)
        clear hK K
        try simp only [Act.put, List.setIfInBounds_toArray, List.set_cons_zero, List.set_cons_succ]
        refine wpAnyH_ready (rs := [11]) (by kernel_rfl) (by simp) ?_
        refine AllReadyH.cons rfl (fun K hK => ?_) (AllReadyH.nil)
        have hgg := GaX102.out
        have hv0 : X102.cell? ⟨ga, 0, none⟩ = some ((.int .u8 0)) := cell_of hgg rfl
        have hv1 : X102.cell? ⟨ga, 1, none⟩ = some ((.int .i64 0)) := cell_of hgg rfl
        have hv2 : X102.cell? ⟨ga, 2, none⟩ = some ((.int .i64 0)) := cell_of hgg rfl
        have hf0 := frz0 hgg 0
        have hf1 := frz0 hgg 1
        have hf2 := frz0 hgg 2
        go_simp
        obtain ⟨X103, hX103⟩ : ∃ Y, Y = (((X102.setCell ⟨ga, 0, none⟩ (.int .u8 (x.kind : Int))).setCell ⟨ga, 1, none⟩ (.int .i64 x.a)).setCell ⟨ga, 2, none⟩ (.int .i64 x.b)) := ⟨_, rfl⟩
        have HKX103 := Lib.hid (show Below wr.heap.size wr X103 by rw [hX103]; exact ends3 HKX102.out hwga _ _ _)
        have GaX103 := Lib.hid (show X103.heap[ga]? = some (.cells #[.int .u8 (x.kind : Int), .int .i64 x.a, .int .i64 x.b] 44 (0, 0)) by rw [hX103]; exact row_store3 hgg _ _ _)
        have GbX103 := Lib.hid (show X103.heap[gb]? = some (.cells #[.int .u8 0, .int .i64 0, .int .i64 0] 44 (0, 0)) by rw [hX103]; exact bx_put GbX102.out (by have := HNE.out; omega) _ _ _)
        rw [← hX103]
        clear hgg hv0 hv1 hv2 hf0 hf1 hf2 hX103
        try dsimp only
        clear hHeld
        refine hK.out _ _ (HS.out _ HKX103.out) (fun hHeld => ?_)
        clear hK K
        try simp only [Act.put, List.setIfInBounds_toArray, List.set_cons_zero, List.set_cons_succ]
        refine wpAnyH_ready (rs := [12]) (by kernel_rfl) (by simp) ?_
        refine AllReadyH.cons rfl (fun K hK => ?_) (AllReadyH.nil)
        have hgg := GbX103.out
        have hv0 : X103.cell? ⟨gb, 0, none⟩ = some ((.int .u8 0)) := cell_of hgg rfl
        have hv1 : X103.cell? ⟨gb, 1, none⟩ = some ((.int .i64 0)) := cell_of hgg rfl
        have hv2 : X103.cell? ⟨gb, 2, none⟩ = some ((.int .i64 0)) := cell_of hgg rfl
        have hf0 := frz0 hgg 0
        have hf1 := frz0 hgg 1
        have hf2 := frz0 hgg 2
        go_simp
        obtain ⟨X104, hX104⟩ : ∃ Y, Y = (((X103.setCell ⟨gb, 0, none⟩ (.int .u8 (y.kind : Int))).setCell ⟨gb, 1, none⟩ (.int .i64 y.a)).setCell ⟨gb, 2, none⟩ (.int .i64 y.b)) := ⟨_, rfl⟩
        have HKX104 := Lib.hid (show Below wr.heap.size wr X104 by rw [hX104]; exact ends3 HKX103.out hwgb _ _ _)
        have GaX104 := Lib.hid (show X104.heap[ga]? = some (.cells #[.int .u8 (x.kind : Int), .int .i64 x.a, .int .i64 x.b] 44 (0, 0)) by rw [hX104]; exact bx_put GaX103.out (by have := HNE.out; omega) _ _ _)
        have GbX104 := Lib.hid (show X104.heap[gb]? = some (.cells #[.int .u8 (y.kind : Int), .int .i64 y.a, .int .i64 y.b] 44 (0, 0)) by rw [hX104]; exact row_store3 hgg _ _ _)
        rw [← hX104]
        clear hgg hv0 hv1 hv2 hf0 hf1 hf2 hX104
        try dsimp only
        clear hHeld
        refine hK.out _ _ (HS.out _ HKX104.out) (fun hHeld => ?_)
        clear hK K
        try simp only [Act.put, List.setIfInBounds_toArray, List.set_cons_zero, List.set_cons_succ]
        refine wpAnyH_done (by kernel_rfl) ?_ _
        have ca0 := cell_of GaX104.out (o := 0) rfl
        have ca1 := cell_of GaX104.out (o := 1) rfl
        have ca2 := cell_of GaX104.out (o := 2) rfl
        have cb0 := cell_of GbX104.out (o := 0) rfl
        have cb1 := cell_of GbX104.out (o := 1) rfl
        have cb2 := cell_of GbX104.out (o := 2) rfl
        have HKn := Lib.hid (below_join HKwr.out HKX104.out HKwr.out.size)
        rcases HLT.out with hl | ⟨hl, hl2 | ⟨hl2, hl3⟩⟩
        · have e0 : decide (y.kind < x.kind) = false := decide_eq_false (by omega)
          have e1 : (x.kind == y.kind) = false := by rw [beq_eq_false_iff_ne]; omega
          have d0 : decide ((y.kind : Int) < (x.kind : Int)) = false := decide_eq_false (by omega)
          have d1 : ((x.kind : Int) == (y.kind : Int)) = false := by rw [beq_eq_false_iff_ne]; omega
          clear hl
          go_wp2_with (fail)
          go_roundw
          case rel => exact ⟨j + 1, .inl (by omega), by go_num, HKn⟩
          case measure => simp only [intOf]; omega
        · have e0 : decide (y.kind < x.kind) = false := decide_eq_false (by omega)
          have e1 : (x.kind == y.kind) = true := by rw [beq_iff_eq]; omega
          have d0 : decide ((y.kind : Int) < (x.kind : Int)) = false := decide_eq_false (by omega)
          have d1 : ((x.kind : Int) == (y.kind : Int)) = true := by rw [beq_iff_eq]; omega
          have d2 : decide (y.a < x.a) = false := decide_eq_false (by omega)
          have d3 : (x.a == y.a) = false := by rw [beq_eq_false_iff_ne]; omega
          clear hl hl2
          go_wp2_with (fail)
          go_roundw
          case rel => exact ⟨j + 1, .inl (by omega), by go_num, HKn⟩
          case measure => simp only [intOf]; omega
        · have e0 : decide (y.kind < x.kind) = false := decide_eq_false (by omega)
          have e1 : (x.kind == y.kind) = true := by rw [beq_iff_eq]; omega
          have d0 : decide ((y.kind : Int) < (x.kind : Int)) = false := decide_eq_false (by omega)
          have d1 : ((x.kind : Int) == (y.kind : Int)) = true := by rw [beq_iff_eq]; omega
          have d2 : decide (y.a < x.a) = false := decide_eq_false (by omega)
          have d3 : (x.a == y.a) = true := by rw [beq_iff_eq]; omega
          have d4 : decide (y.b ≤ x.b) = false := decide_eq_false (by omega)
          clear hl hl2 hl3
          go_wp2_with (fail)
          go_roundw
          case rel => exact ⟨j + 1, .inl (by omega), by go_num, HKn⟩
          case measure => simp only [intOf]; omega
      · go_simp
        obtain ⟨X105, hX105⟩ : ∃ Y, Y = X0.alloc (.cells #[.int .u8 0, .int .i64 0, .int .i64 0] 44) := ⟨_, rfl⟩
        have bb : Below X0.heap.size X0 X105 := by rw [hX105]; exact (Below.refl _ _).alloc (Nat.le_refl _) _
        have HKX105 := Lib.hid (below_join HKX0.out bb HKX0.out.size)
        obtain ⟨gb, hgb⟩ : ∃ g, X0.heap.size = g := ⟨_, rfl⟩
        have GbX105 := Lib.hid (show X105.heap[gb]? = some (.cells #[.int .u8 0, .int .i64 0, .int .i64 0] 44 (0, 0)) by rw [← hgb, hX105]; exact box_new _ _ _)
        have hwgb : wr.heap.size ≤ gb := by rw [← hgb]; exact HKX0.out.size
        rw [← hX105]
        rw [hgb]
        clear bb hX105 hgb
        try dsimp only
        clear hHeld
        refine hK.out _ _ (HS.out _ HKX105.out) (fun hHeld => ?_)
        clear hK K
        try simp only [Act.put, List.setIfInBounds_toArray, List.set_cons_zero, List.set_cons_succ]
        refine wpAnyH_ready (rs := [9]) (by kernel_rfl) (by simp) ?_
        refine AllReadyH.cons rfl (fun K hK => ?_) (AllReadyH.nil)
        go_simp
        obtain ⟨X106, hX106⟩ : ∃ Y, Y = X105.alloc (.cells #[.int .u8 0, .int .i64 0, .int .i64 0] 44) := ⟨_, rfl⟩
        have bb : Below X105.heap.size X105 X106 := by rw [hX106]; exact (Below.refl _ _).alloc (Nat.le_refl _) _
        have HKX106 := Lib.hid (below_join HKX105.out bb HKX105.out.size)
        have GbX106 := Lib.hid (show X106.heap[gb]? = some (.cells #[.int .u8 0, .int .i64 0, .int .i64 0] 44 (0, 0)) from box_on GbX105.out bb (Nat.le_refl _))
        obtain ⟨ga, hga⟩ : ∃ g, X105.heap.size = g := ⟨_, rfl⟩
        have GaX106 := Lib.hid (show X106.heap[ga]? = some (.cells #[.int .u8 0, .int .i64 0, .int .i64 0] 44 (0, 0)) by rw [← hga, hX106]; exact box_new _ _ _)
        have hwga : wr.heap.size ≤ ga := by rw [← hga]; exact HKX105.out.size
        have hne : gb ≠ ga := by have := at_lt GbX105.out; omega
        have HNE := Lib.hid hne
        clear hne
        rw [← hX106]
        rw [hga]
        clear bb hX106 hga
        try dsimp only
        clear hHeld
        refine hK.out _ _ (HS.out _ HKX106.out) (fun hHeld => ?_)
        clear hK K
        try simp only [Act.put, List.setIfInBounds_toArray, List.set_cons_zero, List.set_cons_succ]
        refine wpAnyH_ready (rs := [11]) (by kernel_rfl) (by simp) ?_
        refine AllReadyH.cons rfl (fun K hK => ?_) (AllReadyH.nil)
        have hgg := GaX106.out
        have hv0 : X106.cell? ⟨ga, 0, none⟩ = some ((.int .u8 0)) := cell_of hgg rfl
        have hv1 : X106.cell? ⟨ga, 1, none⟩ = some ((.int .i64 0)) := cell_of hgg rfl
        have hv2 : X106.cell? ⟨ga, 2, none⟩ = some ((.int .i64 0)) := cell_of hgg rfl
        have hf0 := frz0 hgg 0
        have hf1 := frz0 hgg 1
        have hf2 := frz0 hgg 2
        go_simp
        obtain ⟨X107, hX107⟩ : ∃ Y, Y = (((X106.setCell ⟨ga, 0, none⟩ (.int .u8 (x.kind : Int))).setCell ⟨ga, 1, none⟩ (.int .i64 x.a)).setCell ⟨ga, 2, none⟩ (.int .i64 x.b)) := ⟨_, rfl⟩
        have HKX107 := Lib.hid (show Below wr.heap.size wr X107 by rw [hX107]; exact ends3 HKX106.out hwga _ _ _)
        have GbX107 := Lib.hid (show X107.heap[gb]? = some (.cells #[.int .u8 0, .int .i64 0, .int .i64 0] 44 (0, 0)) by rw [hX107]; exact bx_put GbX106.out (by have := HNE.out; omega) _ _ _)
        have GaX107 := Lib.hid (show X107.heap[ga]? = some (.cells #[.int .u8 (x.kind : Int), .int .i64 x.a, .int .i64 x.b] 44 (0, 0)) by rw [hX107]; exact row_store3 hgg _ _ _)
        rw [← hX107]
        clear hgg hv0 hv1 hv2 hf0 hf1 hf2 hX107
        try dsimp only
        clear hHeld
        refine hK.out _ _ (HS.out _ HKX107.out) (fun hHeld => ?_)
        clear hK K
        try simp only [Act.put, List.setIfInBounds_toArray, List.set_cons_zero, List.set_cons_succ]
        refine wpAnyH_ready (rs := [12]) (by kernel_rfl) (by simp) ?_
        refine AllReadyH.cons rfl (fun K hK => ?_) (AllReadyH.nil)
        have hgg := GbX107.out
        have hv0 : X107.cell? ⟨gb, 0, none⟩ = some ((.int .u8 0)) := cell_of hgg rfl
        have hv1 : X107.cell? ⟨gb, 1, none⟩ = some ((.int .i64 0)) := cell_of hgg rfl
        have hv2 : X107.cell? ⟨gb, 2, none⟩ = some ((.int .i64 0)) := cell_of hgg rfl
        have hf0 := frz0 hgg 0
        have hf1 := frz0 hgg 1
        have hf2 := frz0 hgg 2
        go_simp
        obtain ⟨X108, hX108⟩ : ∃ Y, Y = (((X107.setCell ⟨gb, 0, none⟩ (.int .u8 (y.kind : Int))).setCell ⟨gb, 1, none⟩ (.int .i64 y.a)).setCell ⟨gb, 2, none⟩ (.int .i64 y.b)) := ⟨_, rfl⟩
        have HKX108 := Lib.hid (show Below wr.heap.size wr X108 by rw [hX108]; exact ends3 HKX107.out hwgb _ _ _)
        have GbX108 := Lib.hid (show X108.heap[gb]? = some (.cells #[.int .u8 (y.kind : Int), .int .i64 y.a, .int .i64 y.b] 44 (0, 0)) by rw [hX108]; exact row_store3 hgg _ _ _)
        have GaX108 := Lib.hid (show X108.heap[ga]? = some (.cells #[.int .u8 (x.kind : Int), .int .i64 x.a, .int .i64 x.b] 44 (0, 0)) by rw [hX108]; exact bx_put GaX107.out (by have := HNE.out; omega) _ _ _)
        rw [← hX108]
        clear hgg hv0 hv1 hv2 hf0 hf1 hf2 hX108
        try dsimp only
        clear hHeld
        refine hK.out _ _ (HS.out _ HKX108.out) (fun hHeld => ?_)
        clear hK K
        try simp only [Act.put, List.setIfInBounds_toArray, List.set_cons_zero, List.set_cons_succ]
        refine wpAnyH_done (by kernel_rfl) ?_ _
        have ca0 := cell_of GaX108.out (o := 0) rfl
        have ca1 := cell_of GaX108.out (o := 1) rfl
        have ca2 := cell_of GaX108.out (o := 2) rfl
        have cb0 := cell_of GbX108.out (o := 0) rfl
        have cb1 := cell_of GbX108.out (o := 1) rfl
        have cb2 := cell_of GbX108.out (o := 2) rfl
        have HKn := Lib.hid (below_join HKwr.out HKX108.out HKwr.out.size)
        rcases HLT.out with hl | ⟨hl, hl2 | ⟨hl2, hl3⟩⟩
        · have e0 : decide (y.kind < x.kind) = false := decide_eq_false (by omega)
          have e1 : (x.kind == y.kind) = false := by rw [beq_eq_false_iff_ne]; omega
          have d0 : decide ((y.kind : Int) < (x.kind : Int)) = false := decide_eq_false (by omega)
          have d1 : ((x.kind : Int) == (y.kind : Int)) = false := by rw [beq_eq_false_iff_ne]; omega
          clear hl
          go_wp2_with (fail)
          go_roundw
          case rel => exact ⟨j + 1, .inl (by omega), by go_num, HKn⟩
          case measure => simp only [intOf]; omega
        · have e0 : decide (y.kind < x.kind) = false := decide_eq_false (by omega)
          have e1 : (x.kind == y.kind) = true := by rw [beq_iff_eq]; omega
          have d0 : decide ((y.kind : Int) < (x.kind : Int)) = false := decide_eq_false (by omega)
          have d1 : ((x.kind : Int) == (y.kind : Int)) = true := by rw [beq_iff_eq]; omega
          have d2 : decide (y.a < x.a) = false := decide_eq_false (by omega)
          have d3 : (x.a == y.a) = false := by rw [beq_eq_false_iff_ne]; omega
          clear hl hl2
          go_wp2_with (fail)
          go_roundw
          case rel => exact ⟨j + 1, .inl (by omega), by go_num, HKn⟩
          case measure => simp only [intOf]; omega
        · have e0 : decide (y.kind < x.kind) = false := decide_eq_false (by omega)
          have e1 : (x.kind == y.kind) = true := by rw [beq_iff_eq]; omega
          have d0 : decide ((y.kind : Int) < (x.kind : Int)) = false := decide_eq_false (by omega)
          have d1 : ((x.kind : Int) == (y.kind : Int)) = true := by rw [beq_iff_eq]; omega
          have d2 : decide (y.a < x.a) = false := decide_eq_false (by omega)
          have d3 : (x.a == y.a) = true := by rw [beq_iff_eq]; omega
          have d4 : decide (y.b ≤ x.b) = false := decide_eq_false (by omega)
          clear hl hl2 hl3
          go_wp2_with (fail)
          go_roundw
          case rel => exact ⟨j + 1, .inl (by omega), by go_num, HKn⟩
          case measure => simp only [intOf]; omega
    · go_wp2_with (fail)
      have HKn := Lib.hid (below_join HKv3.out HKwr.out HKv3.out.size)
      go_at_call 11
      refine (c_live wr).mono ?_
      rintro e v9 ⟨rfl, bb⟩
      have HKv9 := Lib.hid (below_join HKn.out bb HKn.out.size)
      go_wp2_with (fail)
      go_ret
      exact ⟨rfl, below_join HB.out HKv9.out hle⟩
theorem row_InvariantOrder (w : World) (p : SP) (s : SiteD) (hs : SiAt w p s) (A : Option Addr) (c : Nat) (xs : List (Svc × SvA)) (hx : WiAt w A c xs) (q : WP) (d : WorldD) (hd : WoAt w q d) :
    Calls Tryz.prog 5 #[siV p s, .agg #[.slice A xs.length c], .agg #[.slice q.a1 d.hosts.length q.c1, .slice q.a2 d.reps.length q.c2]] w fun e w' => e = .returned (.bool true) ∧ Below w.heap.size w w' := w_InvariantOrder ⟨p, s, A, c, xs, q, d⟩ w ⟨hs, hx, hd⟩
end Go.Proofs.YtbbadnlaelgmlaaGreat
