/-
  DERIVED. Set of the specification (written by gen/world_FH.py).
-/
import Derived.Test.YtplncglgolhfaaaFG
namespace Go.Proofs.Ytplncglgolhfaaa
open Go.RowKit
set_option maxRecDepth 100000
set_option linter.unusedVariables false
set_option linter.unusedSimpArgs false

/-- A store into a row that is a function's own leaves its rows of another type. -/
theorem own_other {X : World} {b1 b2 s1 s2 g n c m j : Nat} {T1 T2 : TypeId} {xs ys : List Value} {v u : Value} (h1 : X.ownsRow b1 T1 s1 (.slice (some ⟨g, 0, none⟩) n c) n xs) (h2 : X.ownsRow b2 T2 s2 v m ys) (hne : T1 ≠ T2) : (X.setCell ⟨g, j, none⟩ u).ownsRow b2 T2 s2 v m ys := by
  obtain ⟨k1, h | ⟨g', cap, cur, rfl, k3, k4, k⟩⟩ := h2
  · exact ⟨k1, .inl h⟩
  refine ⟨k1, .inr ⟨g', cap, cur, rfl, k3, set_else k4 ?_, k⟩⟩
  rintro rfl
  obtain ⟨-, ⟨h, -⟩ | ⟨g2, cap2, cur2, e2, -, e4, -⟩⟩ := h1
  · simp at h
  · injection e2 with e2
    injection e2 with e2
    injection e2 with e2
    subst e2
    rw [e4] at k4
    injection k4 with k4
    injection k4 with _ k4
    exact hne k4
theorem c_CopyTo (p : WP) (d : WorldD) (hm : d.reps.length ≤ 1000) (hm2 : d.hosts.length ≤ 1000) (w : World) (h : WoAt w p d) :
    Calls Try.prog 25 #[.agg #[.slice p.a1 d.hosts.length p.c1, .slice p.a2 d.reps.length p.c2]] w fun e w' => ∃ A1 c1 A2 c2, e = .returned (.agg #[.slice A1 d.hosts.length c1, .slice A2 d.reps.length c2]) ∧ OwnW w.heap.size w' ⟨A1, c1, A2, c2⟩ d ∧ Below w.heap.size w w' :=
  (c_Copy p d hm hm2 w h).mono fun e w' ⟨p', h1, h2, h3⟩ => ⟨p'.a1, p'.c1, p'.a2, p'.c2, h1, h2, h3⟩
set_option maxHeartbeats 16000000 in
theorem c_wrSet (p : WP) (d : WorldD) (host : Int) (x : Hst) (hm : d.reps.length ≤ 1000) (hm2 : d.hosts.length ≤ 1000) (w : World) (h : WoAt w p d) :
    Calls Try.prog 33 #[.agg (woA p d), .int .i64 host, .agg #[.int .u8 (x.phase : Int), .int .i64 x.fw]] w (ResW w (setP d host x)) := by
  unfold woA
  obtain ⟨W1, h1⟩ : ∃ W, W = w.alloc (.cells (woA p d) 36) := ⟨_, rfl⟩
  obtain ⟨W2, h2⟩ : ∃ W, W = W1.alloc (.cells #[.int .u8 (x.phase : Int), .int .i64 x.fw] 51) := ⟨_, rfl⟩
  obtain ⟨W, h3⟩ : ∃ W, W = W2.alloc (.cells #[.slice none 0 0, .slice none 0 0] 36) := ⟨_, rfl⟩
  obtain ⟨B0, b1, b2, b3⟩ := three_boxes h1 h2 h3
  have HB := Lib.hid B0
  have hle := B0.size
  have HF := Lib.hid (fun (X : World) (hX : Below W.heap.size W X) => (⟨cell_of (box_on b1 hX (Nat.le_refl _)) rfl, cell_of (box_on b1 hX (Nat.le_refl _)) rfl, cell_of (box_on b2 hX (Nat.le_refl _)) rfl, cell_of (box_on b2 hX (Nat.le_refl _)) rfl, cell_of (box_on b3 hX (Nat.le_refl _)) rfl, cell_of (box_on b3 hX (Nat.le_refl _)) rfl, frz (box_on b3 hX (Nat.le_refl _)) 0, frz (box_on b3 hX (Nat.le_refl _)) 1⟩ : X.cell? ⟨w.heap.size, 0, none⟩ = some (.slice p.a1 d.hosts.length p.c1) ∧ X.cell? ⟨w.heap.size, 1, none⟩ = some (.slice p.a2 d.reps.length p.c2) ∧ X.cell? ⟨w.heap.size + 1, 0, none⟩ = some (.int .u8 (x.phase : Int)) ∧ X.cell? ⟨w.heap.size + 1, 1, none⟩ = some (.int .i64 x.fw) ∧ X.cell? ⟨w.heap.size + 1 + 1, 0, none⟩ = some (.slice none 0 0) ∧ X.cell? ⟨w.heap.size + 1 + 1, 1, none⟩ = some (.slice none 0 0) ∧ X.frozen? ⟨w.heap.size + 1 + 1, 0, none⟩ = false ∧ X.frozen? ⟨w.heap.size + 1 + 1, 1, none⟩ = false))
  have HV := Lib.hid (fun (X : World) (hX : Below W.heap.size W X) => box_on b3 hX (Nat.le_refl _))
  have H := Lib.hid (h.on B0 (Nat.le_refl _))
  have n1 := h.hosts.1; have n2 := h.hosts.2.1; have n3 := h.reps.1; have n4 := h.reps.2.1
  unfold maxLen at n2 n4
  have KW := Lib.hid (Below.refl W.heap.size W)
  obtain ⟨f0, f1, y0, y1, v0, v1, u0, u1⟩ := HF.out W KW.out
  clear h B0 b1 b2 b3
  unfold woA at h1
  rw [h3, h2, h1] at f0 f1 y0 y1 v0 v1 u0 u1
  have HZZ := Lib.hid (show ∀ (n : Int) (X : World), setP d host x = (zeroD, n) → Below W.heap.size W X → ResW w (setP d host x) (.returned (.tuple #[.agg #[.slice none 0 0, .slice none 0 0], .int .i64 n])) ((X.setCell ⟨w.heap.size + 1 + 1, 0, none⟩ (.slice none 0 0)).setCell ⟨w.heap.size + 1 + 1, 1, none⟩ (.slice none 0 0)) from fun n X hq hX => resW_zero hq (ends2 (below_join HB.out hX HB.out.size) (by omega) _ _))
  obtain ⟨R, hR⟩ : ∃ R, R = ResW w (setP d host x) := ⟨_, rfl⟩
  rw [← hR] at HZZ ⊢
  have HRR := Lib.hid hR
  clear hR
  obtain ⟨r1, hr1⟩ : ∃ b, ascB d.reps = b := ⟨_, rfl⟩
  have Q1 := Lib.hid hr1
  clear hr1
  generalize hA : w.heap.size = B at *
  go_enter Try.func33, Try.ntmps33
  go_wp2_with (fail)
  rw [← h1, ← h2, ← h3] at f0 f1 y0 y1 v0 v1 u0 u1 ⊢
  clear h1 h2 h3
  go_at_call 50
  refine (c_Ascending p.a2 p.c2 d.reps r1 Q1.out W H.out.reps).mono ?_
  rintro e w1 ⟨rfl, b1⟩
  have K1 := Lib.hid b1
  clear b1 f0 f1 y0 y1 v0 v1 u0 u1
  obtain ⟨f0, f1, y0, y1, v0, v1, u0, u1⟩ := HF.out w1 K1.out
  cases r1
  · go_wp2_with (fail)
    refine ret2t (i := 6) (b := B + 1 + 1) (j := 7) rfl rfl rfl rfl (row_store2 (HV.out w1 K1.out) _ _) ?_
    exact HZZ.out 1 w1 (by unfold setP; rw [Q1.out]; rfl) K1.out
  rcases hs : decide (host < 0) with _ | _
  rotate_left
  · have HS := Lib.hid (of_decide_eq_true hs)
    go_wp2_with (fail)
    refine ret2t (i := 6) (b := B + 1 + 1) (j := 7) rfl rfl rfl rfl (row_store2 (HV.out w1 K1.out) _ _) ?_
    exact HZZ.out 1 w1 (by unfold setP; rw [if_neg (by rw [Bool.and_eq_true, ixB_iff]; have := HS.out; omega)]) K1.out
  rcases ht : decide ((d.hosts.length : Int) ≤ host) with _ | _
  rotate_left
  · have HT := Lib.hid (of_decide_eq_true ht)
    go_wp2_with (fail)
    refine ret2t (i := 6) (b := B + 1 + 1) (j := 7) rfl rfl rfl rfl (row_store2 (HV.out w1 K1.out) _ _) ?_
    exact HZZ.out 1 w1 (by unfold setP; rw [if_neg (by rw [Bool.and_eq_true, ixB_iff]; have := HT.out; omega)]) K1.out
  have hix : 0 ≤ host ∧ host < (d.hosts.length : Int) := ⟨by have := of_decide_eq_false hs; omega, by have := of_decide_eq_false ht; omega⟩
  obtain ⟨k, rfl⟩ : ∃ k : Nat, host = k := ⟨host.toNat, by omega⟩
  have hkl : k < d.hosts.length := by omega
  have hki : ((k : Nat) : Int).toNat = k := by omega
  have hk0 : (k : Int) < (d.hosts.length : Int) := by omega
  have HHX := Lib.hid hix
  clear hix
  go_wp2_with (fail)
  clear hs ht
  go_at_call 25
  refine (c_CopyTo p d hm hm2 w1 (H.out.on K1.out (Nat.le_refl _))).mono ?_
  rintro e w2 ⟨A1, c1, A2, c2, rfl, o2, b2⟩
  obtain ⟨g, c1', e0, hg1, hg2⟩ := World.ownsRow.form o2.1 (by omega)
  injection e0 with e0 _ e0'
  subst e0 e0'
  have K2 := Lib.hid (below_join K1.out b2 K1.out.size)
  have O2 := Lib.hid o2.2
  have HLT := Lib.hid (at_lt (HV.out w1 K1.out))
  obtain ⟨V, hV⟩ : ∃ V, V = w2.alloc (.cells #[.slice (some ⟨g, 0, none⟩) d.hosts.length c1, .slice A2 d.reps.length c2] 36) := ⟨_, rfl⟩
  have bV : Below w2.heap.size w2 V := by rw [hV]; exact (Below.refl _ _).alloc (Nat.le_refl _) _
  have KV := Lib.hid (below_join K2.out bV K2.out.size)
  have BV := Lib.hid (show V.heap[w2.heap.size]? = some (.cells #[.slice (some ⟨g, 0, none⟩) d.hosts.length c1, .slice A2 d.reps.length c2] 36 (0, 0)) by rw [hV]; exact box_new _ _ _)
  have OV := Lib.hid (own_on o2.1 bV (Nat.le_refl _))
  have OV2 := Lib.hid (own_on o2.2 bV (Nat.le_refl _))
  obtain ⟨X, hX⟩ : ∃ X, X = (V.setCell ⟨g, k * 2, none⟩ (.int .u8 (x.phase : Int))).setCell ⟨g, k * 2 + 1, none⟩ (.int .i64 x.fw) := ⟨_, rfl⟩
  obtain ⟨z, hz⟩ : ∃ z, d.hosts[k]? = some z := ⟨_, List.getElem?_eq_getElem hkl⟩
  have t0 : V.cell? ⟨g, k * 2, none⟩ = some (.int .u8 (z.phase : Int)) := (World.ownsRow.cellAt OV.out (k * 2) (by omega)).trans (cellsV_at (F := hstV) hz 0 (by omega))
  have t1 : V.cell? ⟨g, k * 2 + 1, none⟩ = some (.int .i64 z.fw) := (World.ownsRow.cellAt OV.out (k * 2 + 1) (by omega)).trans (cellsV_at (F := hstV) hz 1 (by omega))
  have s0 := World.ownsRow.frozenAt OV.out (k * 2)
  have s1 := World.ownsRow.frozenAt OV.out (k * 2 + 1)
  have HGW := Lib.hid (show W.heap.size ≤ g from Nat.le_trans K1.out.size hg1)
  have KX := Lib.hid (show Below W.heap.size W X by rw [hX]; exact ends2' KV.out HGW.out _ _)
  have BX := Lib.hid (show X.heap[w2.heap.size]? = some (.cells #[.slice (some ⟨g, 0, none⟩) d.hosts.length c1, .slice A2 d.reps.length c2] 36 (0, 0)) by rw [hX]; exact set_else (set_else BV.out (by omega)) (by omega))
  have OX := Lib.hid (show X.ownsRow w1.heap.size 51 2 (.slice (some ⟨g, 0, none⟩) d.hosts.length c1) d.hosts.length (cellsV 2 hstV (d.hosts.set k x)) by
    rw [hX, cellsV_set x hkl]
    exact (World.ownsRow.stored (World.ownsRow.stored OV.out (k * 2) _).1 (k * 2 + 1) _).1)
  have OX2 := Lib.hid (show X.ownsRow w1.heap.size 41 2 (.slice A2 d.reps.length c2) d.reps.length (cellsV 2 repV d.reps) by
    rw [hX]
    exact own_other (World.ownsRow.stored OV.out (k * 2) (.int .u8 (x.phase : Int))).1 (own_other OV.out OV2.out (by decide)) (by decide))
  clear hz bV o2 b2 hg1 hg2 f0 f1 y0 y1 v0 v1 u0 u1
  obtain ⟨-, -, y0, y1, -, -, -, -⟩ := HF.out V KV.out
  have j0 := cell_of BV.out (o := 0) rfl
  have j1 := cell_of BX.out (o := 0) rfl
  have j2 := cell_of BX.out (o := 1) rfl
  obtain ⟨-, -, -, -, v0, v1, u0, u1⟩ := HF.out X KX.out
  rw [hX, hV] at j1 j2 v0 v1 u0 u1
  rw [hV] at j0 y0 y1 t0 t1 s0 s1
  have HXX := Lib.hid hX
  have HVV := Lib.hid hV
  clear hX hV
  go_wp2_with (fail)
  rw [← HVV.out, ← HXX.out]
  refine ret2t (i := 6) (b := B + 1 + 1) (j := 7) rfl rfl rfl rfl (row_store2 (HV.out X KX.out) _ _) ?_
  rw [HRR.out]
  have hq : setP d (k : Int) x = (⟨d.hosts.set k x, d.reps⟩, 0) := by unfold setP; rw [if_pos (by rw [Bool.and_eq_true, ixB_iff]; exact ⟨Q1.out, HHX.out⟩)]; rfl
  rw [hq]
  have e1 := HLT.out
  have e4 : (d.hosts.set k x).length = d.hosts.length := List.length_set
  refine ⟨⟨some ⟨g, 0, none⟩, c1, A2, c2⟩, (show Ending.returned (.tuple #[.agg #[.slice (some ⟨g, 0, none⟩) d.hosts.length c1, .slice A2 d.reps.length c2], .int .i64 0]) = .returned (.tuple #[.agg (woA ⟨some ⟨g, 0, none⟩, c1, A2, c2⟩ ⟨d.hosts.set k x, d.reps⟩), .int .i64 0]) by unfold woA; simp only [e4]), ⟨?_, ?_⟩, ?_⟩
  · show World.ownsRow _ _ _ _ (.slice (some ⟨g, 0, none⟩) (d.hosts.set k x).length c1) _ _
    rw [e4]
    exact own_mono (ownsRow_setCell_below (ownsRow_setCell_below OX.out (a := ⟨B + 1 + 1, 0, none⟩) e1 _) (a := ⟨B + 1 + 1, 1, none⟩) e1 _) (by have := K1.out.size; omega)
  · exact own_mono (ownsRow_setCell_below (ownsRow_setCell_below OX2.out (a := ⟨B + 1 + 1, 0, none⟩) e1 _) (a := ⟨B + 1 + 1, 1, none⟩) e1 _) (by have := K1.out.size; omega)
  · rw [hA]; exact ends2 (below_join HB.out KX.out hle) (by omega) _ _
end Go.Proofs.Ytplncglgolhfaaa
