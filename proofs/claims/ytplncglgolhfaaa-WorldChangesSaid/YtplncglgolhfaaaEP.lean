/-
  DERIVED. Start and Stop of the landed package (written by gen/world_EP.py).
-/
import Derived.Test.YtplncglgolhfaaaEO
import Derived.Test.YtplncglgolhfaaaEJ
namespace Go.Proofs.Ytplncglgolhfaaa
open Go.RowKit
set_option maxRecDepth 100000
set_option linter.unusedVariables false
set_option linter.unusedSimpArgs false

theorem three_boxes {w : World} {c1 c2 c3 : Array Value} {T1 T2 T3 : TypeId} {W1 W2 W : World} (h1 : W1 = w.alloc (.cells c1 T1)) (h2 : W2 = W1.alloc (.cells c2 T2)) (h3 : W = W2.alloc (.cells c3 T3)) :
    Below w.heap.size w W ∧ W.heap[w.heap.size]? = some (.cells c1 T1 (0, 0)) ∧ W.heap[w.heap.size + 1]? = some (.cells c2 T2 (0, 0)) ∧ W.heap[w.heap.size + 1 + 1]? = some (.cells c3 T3 (0, 0)) := by
  obtain ⟨e1, b1, b2, s2⟩ := two_boxes h1 h2
  refine ⟨by rw [h3]; exact e1.alloc (by omega) _, by rw [h3]; exact old_heap _ b1, by rw [h3]; exact old_heap _ b2, by rw [h3, ← s2]; exact box_new _ _ _⟩
theorem ends2 {B b : Nat} {w X : World} (h : Below B w X) (hb : B ≤ b) (x0 x1 : Value) : Below B w ((X.setCell ⟨b, 0, none⟩ x0).setCell ⟨b, 1, none⟩ x1) := (h.setCell (p := ⟨b, 0, none⟩) hb _).setCell (p := ⟨b, 1, none⟩) hb _
set_option maxHeartbeats 16000000 in
theorem c_woStart (p : WP) (d : WorldD) (x : Rep) (hm : d.reps.length ≤ 1000) (hm2 : d.hosts.length ≤ 1000) (w : World) (h : WoAt w p d) :
    Calls Try.prog 26 #[.agg (woA p d), .agg #[.int .i64 x.svc, .int .i64 x.host]] w (ResW w (startP d x)) := by
  unfold woA
  obtain ⟨W1, h1⟩ : ∃ W, W = w.alloc (.cells (woA p d) 36) := ⟨_, rfl⟩
  obtain ⟨W2, h2⟩ : ∃ W, W = W1.alloc (.cells #[.int .i64 x.svc, .int .i64 x.host] 41) := ⟨_, rfl⟩
  obtain ⟨W, h3⟩ : ∃ W, W = W2.alloc (.cells #[.slice none 0 0, .slice none 0 0] 36) := ⟨_, rfl⟩
  obtain ⟨B0, b1, b2, b3⟩ := three_boxes h1 h2 h3
  have HB := Lib.hid B0
  have hle := B0.size
  have HF := Lib.hid (fun (X : World) (hX : Below W.heap.size W X) => (⟨cell_of (box_on b1 hX (Nat.le_refl _)) rfl, cell_of (box_on b1 hX (Nat.le_refl _)) rfl, cell_of (box_on b2 hX (Nat.le_refl _)) rfl, cell_of (box_on b2 hX (Nat.le_refl _)) rfl, cell_of (box_on b3 hX (Nat.le_refl _)) rfl, cell_of (box_on b3 hX (Nat.le_refl _)) rfl, frz (box_on b3 hX (Nat.le_refl _)) 0, frz (box_on b3 hX (Nat.le_refl _)) 1⟩ : X.cell? ⟨w.heap.size, 0, none⟩ = some (.slice p.a1 d.hosts.length p.c1) ∧ X.cell? ⟨w.heap.size, 1, none⟩ = some (.slice p.a2 d.reps.length p.c2) ∧ X.cell? ⟨w.heap.size + 1, 0, none⟩ = some (.int .i64 x.svc) ∧ X.cell? ⟨w.heap.size + 1, 1, none⟩ = some (.int .i64 x.host) ∧ X.cell? ⟨w.heap.size + 1 + 1, 0, none⟩ = some (.slice none 0 0) ∧ X.cell? ⟨w.heap.size + 1 + 1, 1, none⟩ = some (.slice none 0 0) ∧ X.frozen? ⟨w.heap.size + 1 + 1, 0, none⟩ = false ∧ X.frozen? ⟨w.heap.size + 1 + 1, 1, none⟩ = false))
  have HV := Lib.hid (fun (X : World) (hX : Below W.heap.size W X) => box_on b3 hX (Nat.le_refl _))
  have H := Lib.hid (h.on B0 (Nat.le_refl _))
  have n1 := h.hosts.1; have n2 := h.hosts.2.1; have n3 := h.reps.1; have n4 := h.reps.2.1
  unfold maxLen at n2 n4
  have KW := Lib.hid (Below.refl W.heap.size W)
  obtain ⟨f0, f1, y0, y1, v0, v1, u0, u1⟩ := HF.out W KW.out
  clear h B0 b1 b2 b3
  unfold woA at h1
  rw [h3, h2, h1] at f0 f1 y0 y1 v0 v1 u0 u1
  have HZ : ∀ (n : Int) (X : World), startP d x = (zeroD, n) → Below W.heap.size W X → ResW w (startP d x) (.returned (.tuple #[.agg #[.slice none 0 0, .slice none 0 0], .int .i64 n])) ((X.setCell ⟨w.heap.size + 1 + 1, 0, none⟩ (.slice none 0 0)).setCell ⟨w.heap.size + 1 + 1, 1, none⟩ (.slice none 0 0)) := fun n X hq hX => resW_zero hq (ends2 (below_join HB.out hX HB.out.size) (by omega) _ _)
  have HZZ := Lib.hid HZ
  clear HZ
  have HRW := Lib.hid (fun (e : Ending) (w' : World) => (Iff.rfl : ResW w (startP d x) e w' ↔ _))
  obtain ⟨R, hR⟩ : ∃ R, R = ResW w (startP d x) := ⟨_, rfl⟩
  rw [← hR] at HZZ ⊢
  have HRR := Lib.hid hR
  clear hR HRW
  obtain ⟨r1, hr1⟩ : ∃ b, ascB d.reps = b := ⟨_, rfl⟩
  have Q1 := Lib.hid hr1
  clear hr1
  generalize hA : w.heap.size = B at *
  go_enter Try.func26, Try.ntmps26
  go_wp2_with (fail)
  rw [← h1, ← h2, ← h3] at f0 f1 y0 y1 v0 v1 u0 u1 ⊢
  clear h1 h2 h3
  go_at_call 48
  refine (c_ascend p.a2 p.c2 d.reps r1 Q1.out W H.out.reps).mono ?_
  rintro e w1 ⟨rfl, b1⟩
  have K1 := Lib.hid b1
  clear b1 f0 f1 y0 y1 v0 v1 u0 u1
  obtain ⟨f0, f1, y0, y1, v0, v1, u0, u1⟩ := HF.out w1 K1.out
  cases r1
  · go_wp2_with (fail)
    refine ret2t (i := 4) (b := B + 1 + 1) (j := 5) rfl rfl rfl rfl (row_store2 (HV.out w1 K1.out) _ _) ?_
    exact HZZ.out 1 w1 (by unfold startP; rw [Q1.out]; rfl) K1.out
  rcases hs : decide (x.svc < 0) with _ | _
  rotate_left
  · have HS := Lib.hid hs
    go_wp2_with (fail)
    refine ret2t (i := 4) (b := B + 1 + 1) (j := 5) rfl rfl rfl rfl (row_store2 (HV.out w1 K1.out) _ _) ?_
    exact HZZ.out 1 w1 (by unfold startP; rw [HS.out, Q1.out]; rfl) K1.out
  rcases ht : decide (x.host < 0) with _ | _
  rotate_left
  · have HT := Lib.hid ht
    go_wp2_with (fail)
    refine ret2t (i := 4) (b := B + 1 + 1) (j := 5) rfl rfl rfl rfl (row_store2 (HV.out w1 K1.out) _ _) ?_
    exact HZZ.out 1 w1 (by unfold startP; rw [HT.out]; simp) K1.out
  have HS := Lib.hid hs
  have HT := Lib.hid ht
  go_wp2_with (fail)
  clear hs ht
  obtain ⟨r2, hr2⟩ : ∃ b, hasB d.reps x = b := ⟨_, rfl⟩
  have Q2 := Lib.hid hr2
  clear hr2
  obtain ⟨P, hP⟩ : ∃ P, plc d.reps x = P := ⟨_, rfl⟩
  have HP := Lib.hid hP
  clear hP
  go_at_call 52
  refine (c_placeOf p.a2 p.c2 d.reps x Q1.out hm r2 Q2.out w1 (H.out.on K1.out (Nat.le_refl _)).reps).mono ?_
  rintro e w2 ⟨rfl, b2⟩
  rw [HP.out]
  have K2 := Lib.hid (below_join K1.out b2 K1.out.size)
  clear b2 f0 f1 y0 y1 v0 v1 u0 u1
  obtain ⟨f0, f1, y0, y1, v0, v1, u0, u1⟩ := HF.out w2 K2.out
  cases r2
  rotate_left
  · go_wp2_with (fail)
    refine ret2t (i := 4) (b := B + 1 + 1) (j := 5) rfl rfl rfl rfl (row_store2 (HV.out w2 K2.out) _ _) ?_
    exact HZZ.out 6 w2 (by unfold startP; rw [Q1.out, Q2.out, HS.out, HT.out]; rfl) K2.out
  by_cases hl : 24 ≤ d.reps.length
  · have hd : decide ((24 : Int) ≤ (d.reps.length : Int)) = true := decide_eq_true (by omega)
    have HL := Lib.hid hl
    clear hl
    go_wp2_with (fail)
    refine ret2t (i := 4) (b := B + 1 + 1) (j := 5) rfl rfl rfl rfl (row_store2 (HV.out w2 K2.out) _ _) ?_
    exact HZZ.out 9 w2 (by unfold startP; rw [Q1.out, Q2.out, HS.out, HT.out, if_pos (by rfl), if_neg (by simp), if_pos HL.out]) K2.out
  have hd : decide ((24 : Int) ≤ (d.reps.length : Int)) = false := decide_eq_false (by omega)
  have HL := Lib.hid hl
  clear hl
  have hPl : P ≤ d.reps.length := by rw [← HP.out]; exact plc_le _ _
  have H2 := Lib.hid (H.out.on K2.out (Nat.le_refl _))
  have hfr := first_run H2.out.reps hPl
  obtain ⟨A', c', hrr, hrv⟩ := rest_run H2.out.reps hPl
  have HRV := Lib.hid hrv
  clear hrv
  obtain ⟨V1, hV1⟩ : ∃ V, V = w2.alloc (.cells #[.int .i64 x.svc, .int .i64 x.host] 41) := ⟨_, rfl⟩
  obtain ⟨V, hV⟩ : ∃ V, V = V1.alloc (.cells #[.slice p.a2 P p.c2, .slice (some ⟨w2.heap.size, 0, none⟩) 1 1, .slice A' (d.reps.length - P) c'] 34) := ⟨_, rfl⟩
  obtain ⟨bV, bx1, bx2, -⟩ := two_boxes hV1 hV
  have KV := Lib.hid (below_join K2.out bV K2.out.size)
  have KV1 := Lib.hid (show Below W.heap.size W V1 by rw [hV1]; exact K2.out.alloc K2.out.size _)
  have hsum : sumL [⟨p.a2, p.c2, d.reps.take P⟩, ⟨some ⟨w2.heap.size, 0, none⟩, 1, [x]⟩, ⟨A', c', d.reps.drop P⟩] ≤ 1000 := by
    have := HL.out
    simp [sumL]; omega
  have HC := Lib.hid (c_catReps [⟨p.a2, p.c2, d.reps.take P⟩, ⟨some ⟨w2.heap.size, 0, none⟩, 1, [x]⟩, ⟨A', c', d.reps.drop P⟩] (by simp) hsum (w2.heap.size + 1) V.drew (by
    have hb : Below w2.heap.size w2 V.drew := bV.drew
    intro s hs
    rcases List.mem_cons.1 hs with rfl | hs
    · exact (H2.out.reps.on hb (Nat.le_refl _)).take P hPl
    · rcases List.mem_cons.1 hs with rfl | hs
      · exact rv_block (l := [x]) (b := w2.heap.size) (T := 41) (show V.drew.heap[w2.heap.size]? = _ from bx1) (by simp [maxLen])
      · rcases List.mem_cons.1 hs with rfl | hs
        · exact HRV.out _ (H2.out.reps.on hb (Nat.le_refl _))
        · cases hs) (by
    have e1 : (d.reps.take P).length = P := by rw [List.length_take]; omega
    have e2 : (d.reps.drop P).length = d.reps.length - P := by rw [List.length_drop]
    show V.drew.heap[w2.heap.size + 1]? = _
    simp only [List.map_cons, List.map_nil, rsV, e1, e2]
    exact bx2))
  have HCL := Lib.hid (show catL [⟨p.a2, p.c2, d.reps.take P⟩, ⟨some ⟨w2.heap.size, 0, none⟩, 1, [x]⟩, ⟨A', c', d.reps.drop P⟩] = startL d.reps x by unfold catL startL; rw [HP.out]; simp)
  rw [HCL.out] at HC
  clear bV bx1 bx2 hsum
  have hPc : (P : Int) ≤ (d.reps.length : Int) := by omega
  go_wp2_with (fail)
  go_region_held3 (fun X => X.cell? ⟨B, 1, none⟩ = some (.slice p.a2 d.reps.length p.c2) ∧ X.cell? ⟨B + 1, 0, none⟩ = some (.int .i64 x.svc) ∧ X.cell? ⟨B + 1, 1, none⟩ = some (.int .i64 x.host))
    (first | exact ⟨f1, y0, y1⟩ | (have z := HF.out w3 K3.out; exact ⟨z.2.1, z.2.2.1, z.2.2.2.1⟩) | (have z := HF.out V1.drew KV1.out.drew; rw [hV1] at z; exact ⟨z.2.1, z.2.2.1, z.2.2.2.1⟩) | (have z := HF.out V.drew KV.out.drew; rw [hV, hV1] at z; exact ⟨z.2.1, z.2.2.1, z.2.2.2.1⟩) | fail)
    (first
      | (go_at_call 53; rw [hV, hV1] at HC; refine (show Calls Try.prog 53 #[.slice (some ⟨w2.heap.size + 1, 0, none⟩) 3 3] _ _ from HC.out).mono ?_; rintro e w3 ⟨v3, rfl, o3, b3⟩; rw [← hV1, ← hV] at o3 b3; have K3 := Lib.hid (below_join KV.out.drew b3 KV.out.size); have O3 := Lib.hid o3; have O3B := Lib.hid b3.size; clear o3 b3))

  clear f0 f1 y0 y1 v0 v1 u0 u1 hfr hrr
  obtain ⟨f0, f1, y0, y1, v0, v1, u0, u1⟩ := HF.out w3 K3.out
  obtain ⟨A3, c3, rfl⟩ := own_shape O3.out
  have H3 := Lib.hid (H.out.on K3.out (Nat.le_refl _))
  have HLT := Lib.hid (at_lt (HV.out W KW.out))
  have HVW := Lib.hid (show W.heap.size ≤ V.drew.heap.size from KV.out.size)
  have HWV := Lib.hid (show V.drew.heap.size ≤ w3.heap.size from O3B.out)
  clear hV hV1
  go_wp2_with (fail)
  go_at_call 54
  refine (c_copied p.a1 p.c1 d.hosts hm2 w3 H3.out.hosts).mono ?_
  rintro e w4 ⟨rfl, hrow, b4⟩
  have K4 := Lib.hid (below_join K3.out b4 K3.out.size)
  have HROW := Lib.hid hrow
  have O4 := Lib.hid (own_on O3.out b4 (Nat.le_refl _))
  clear b4 hrow f0 f1 y0 y1 v0 v1 u0 u1
  obtain ⟨f0, f1, y0, y1, v0, v1, u0, u1⟩ := HF.out w4 K4.out
  go_wp2_with (fail)
  refine ret2t (i := 4) (b := B + 1 + 1) (j := 5) rfl rfl rfl rfl (row_store2 (HV.out w4 K4.out) _ _) ?_
  rw [HRR.out]
  have hq : startP d x = (⟨d.hosts, startL d.reps x⟩, 0) := by unfold startP; rw [Q1.out, Q2.out, HS.out, HT.out, if_pos (by rfl), if_neg (by simp), if_neg HL.out]
  rw [hq]
  have e1 := HLT.out
  have e2 := HVW.out
  have e3 := HWV.out
  refine ⟨⟨some ⟨w3.heap.size, 0, none⟩, d.hosts.length, A3, c3⟩, rfl, ⟨own_block2 (by omega) (set_else (set_else HROW.out (by omega)) (by omega)) (cellsV_len _) (by show d.hosts.length ≤ maxLen; unfold maxLen; omega), ?_⟩, ?_⟩
  · exact own_mono (ownsRow_setCell_below (ownsRow_setCell_below O4.out (a := ⟨B + 1 + 1, 0, none⟩) (by show B + 1 + 1 < _; omega) _) (a := ⟨B + 1 + 1, 1, none⟩) (by show B + 1 + 1 < _; omega) _) (by omega)
  · rw [hA]; exact ends2 (below_join HB.out K4.out hle) (by omega) _ _
set_option maxHeartbeats 16000000 in
theorem c_woStop (p : WP) (d : WorldD) (x : Rep) (hm : d.reps.length ≤ 1000) (hm2 : d.hosts.length ≤ 1000) (w : World) (h : WoAt w p d) :
    Calls Try.prog 29 #[.agg (woA p d), .agg #[.int .i64 x.svc, .int .i64 x.host]] w (ResW w (stopP d x)) := by
  unfold woA
  obtain ⟨W1, h1⟩ : ∃ W, W = w.alloc (.cells (woA p d) 36) := ⟨_, rfl⟩
  obtain ⟨W2, h2⟩ : ∃ W, W = W1.alloc (.cells #[.int .i64 x.svc, .int .i64 x.host] 41) := ⟨_, rfl⟩
  obtain ⟨W, h3⟩ : ∃ W, W = W2.alloc (.cells #[.slice none 0 0, .slice none 0 0] 36) := ⟨_, rfl⟩
  obtain ⟨B0, b1, b2, b3⟩ := three_boxes h1 h2 h3
  have HB := Lib.hid B0
  have hle := B0.size
  have HF := Lib.hid (fun (X : World) (hX : Below W.heap.size W X) => (⟨cell_of (box_on b1 hX (Nat.le_refl _)) rfl, cell_of (box_on b1 hX (Nat.le_refl _)) rfl, cell_of (box_on b2 hX (Nat.le_refl _)) rfl, cell_of (box_on b2 hX (Nat.le_refl _)) rfl, cell_of (box_on b3 hX (Nat.le_refl _)) rfl, cell_of (box_on b3 hX (Nat.le_refl _)) rfl, frz (box_on b3 hX (Nat.le_refl _)) 0, frz (box_on b3 hX (Nat.le_refl _)) 1⟩ : X.cell? ⟨w.heap.size, 0, none⟩ = some (.slice p.a1 d.hosts.length p.c1) ∧ X.cell? ⟨w.heap.size, 1, none⟩ = some (.slice p.a2 d.reps.length p.c2) ∧ X.cell? ⟨w.heap.size + 1, 0, none⟩ = some (.int .i64 x.svc) ∧ X.cell? ⟨w.heap.size + 1, 1, none⟩ = some (.int .i64 x.host) ∧ X.cell? ⟨w.heap.size + 1 + 1, 0, none⟩ = some (.slice none 0 0) ∧ X.cell? ⟨w.heap.size + 1 + 1, 1, none⟩ = some (.slice none 0 0) ∧ X.frozen? ⟨w.heap.size + 1 + 1, 0, none⟩ = false ∧ X.frozen? ⟨w.heap.size + 1 + 1, 1, none⟩ = false))
  have HV := Lib.hid (fun (X : World) (hX : Below W.heap.size W X) => box_on b3 hX (Nat.le_refl _))
  have H := Lib.hid (h.on B0 (Nat.le_refl _))
  have n1 := h.hosts.1; have n2 := h.hosts.2.1; have n3 := h.reps.1; have n4 := h.reps.2.1
  unfold maxLen at n2 n4
  have KW := Lib.hid (Below.refl W.heap.size W)
  obtain ⟨f0, f1, y0, y1, v0, v1, u0, u1⟩ := HF.out W KW.out
  clear h B0 b1 b2 b3
  unfold woA at h1
  rw [h3, h2, h1] at f0 f1 y0 y1 v0 v1 u0 u1
  have HZ : ∀ (n : Int) (X : World), stopP d x = (zeroD, n) → Below W.heap.size W X → ResW w (stopP d x) (.returned (.tuple #[.agg #[.slice none 0 0, .slice none 0 0], .int .i64 n])) ((X.setCell ⟨w.heap.size + 1 + 1, 0, none⟩ (.slice none 0 0)).setCell ⟨w.heap.size + 1 + 1, 1, none⟩ (.slice none 0 0)) := fun n X hq hX => resW_zero hq (ends2 (below_join HB.out hX HB.out.size) (by omega) _ _)
  have HZZ := Lib.hid HZ
  clear HZ
  have HRW := Lib.hid (fun (e : Ending) (w' : World) => (Iff.rfl : ResW w (stopP d x) e w' ↔ _))
  obtain ⟨R, hR⟩ : ∃ R, R = ResW w (stopP d x) := ⟨_, rfl⟩
  rw [← hR] at HZZ ⊢
  have HRR := Lib.hid hR
  clear hR HRW
  obtain ⟨r1, hr1⟩ : ∃ b, ascB d.reps = b := ⟨_, rfl⟩
  have Q1 := Lib.hid hr1
  clear hr1
  generalize hA : w.heap.size = B at *
  go_enter Try.func29, Try.ntmps29
  go_wp2_with (fail)
  rw [← h1, ← h2, ← h3] at f0 f1 y0 y1 v0 v1 u0 u1 ⊢
  clear h1 h2 h3
  go_at_call 48
  refine (c_ascend p.a2 p.c2 d.reps r1 Q1.out W H.out.reps).mono ?_
  rintro e w1 ⟨rfl, b1⟩
  have K1 := Lib.hid b1
  clear b1 f0 f1 y0 y1 v0 v1 u0 u1
  obtain ⟨f0, f1, y0, y1, v0, v1, u0, u1⟩ := HF.out w1 K1.out
  cases r1
  · go_wp2_with (fail)
    refine ret2t (i := 4) (b := B + 1 + 1) (j := 5) rfl rfl rfl rfl (row_store2 (HV.out w1 K1.out) _ _) ?_
    exact HZZ.out 1 w1 (by unfold stopP; rw [Q1.out]; rfl) K1.out
  go_wp2_with (fail)
  obtain ⟨r2, hr2⟩ : ∃ b, hasB d.reps x = b := ⟨_, rfl⟩
  have Q2 := Lib.hid hr2
  clear hr2
  obtain ⟨P, hP⟩ : ∃ P, plc d.reps x = P := ⟨_, rfl⟩
  have HP := Lib.hid hP
  clear hP
  go_at_call 52
  refine (c_placeOf p.a2 p.c2 d.reps x Q1.out hm r2 Q2.out w1 (H.out.on K1.out (Nat.le_refl _)).reps).mono ?_
  rintro e w2 ⟨rfl, b2⟩
  rw [HP.out]
  have K2 := Lib.hid (below_join K1.out b2 K1.out.size)
  clear b2 f0 f1 y0 y1 v0 v1 u0 u1
  obtain ⟨f0, f1, y0, y1, v0, v1, u0, u1⟩ := HF.out w2 K2.out
  cases r2
  · go_wp2_with (fail)
    refine ret2t (i := 4) (b := B + 1 + 1) (j := 5) rfl rfl rfl rfl (row_store2 (HV.out w2 K2.out) _ _) ?_
    exact HZZ.out 7 w2 (by unfold stopP; rw [Q1.out, Q2.out]; rfl) K2.out
  have HIN := Lib.hid (show d.reps[P]? = some x by
    have := (plc_there (asc_iff.1 Q1.out)).1 (of_decide_eq_true (show decide (x ∈ d.reps) = true from Q2.out))
    rwa [HP.out] at this)
  obtain ⟨P1, hP1⟩ : ∃ P1, P + 1 = P1 := ⟨_, rfl⟩
  have hPl : P1 ≤ d.reps.length := by have := (List.getElem?_eq_some_iff.1 HIN.out).1; omega
  have hPl0 : P ≤ d.reps.length := by omega
  have hw : IntKind.i64.wrap ((P : Int) + 1) = (P1 : Int) := by rw [show (P : Int) + 1 = (P1 : Int) by omega]; exact wrap_in (by omega) (by omega)
  have HP1 := Lib.hid hP1
  clear hP1
  have H2 := Lib.hid (H.out.on K2.out (Nat.le_refl _))
  have hfr := first_run H2.out.reps hPl0
  obtain ⟨A', c', hrr, hrv⟩ := rest_run H2.out.reps hPl
  have HRV := Lib.hid hrv
  clear hrv
  obtain ⟨V, hV⟩ : ∃ V, V = w2.alloc (.cells #[.slice p.a2 P p.c2, .slice A' (d.reps.length - P1) c'] 34) := ⟨_, rfl⟩
  have bV : Below w2.heap.size w2 V := by rw [hV]; exact (Below.refl _ _).alloc (Nat.le_refl _) _
  have bx2 : V.heap[w2.heap.size]? = some (.cells #[.slice p.a2 P p.c2, .slice A' (d.reps.length - P1) c'] 34 (0, 0)) := by rw [hV]; exact box_new _ _ _
  have KV := Lib.hid (below_join K2.out bV K2.out.size)
  have hsum : sumL [⟨p.a2, p.c2, d.reps.take P⟩, ⟨A', c', d.reps.drop P1⟩] ≤ 1000 := by
    have e := HP1.out
    show (d.reps.take P).length + ((d.reps.drop P1).length + 0) ≤ 1000
    rw [List.length_take, List.length_drop]
    omega
  have HC := Lib.hid (c_catReps [⟨p.a2, p.c2, d.reps.take P⟩, ⟨A', c', d.reps.drop P1⟩] (by simp) hsum w2.heap.size V.drew (by
    have hb : Below w2.heap.size w2 V.drew := bV.drew
    intro s hs
    rcases List.mem_cons.1 hs with rfl | hs
    · exact (H2.out.reps.on hb (Nat.le_refl _)).take P hPl0
    · rcases List.mem_cons.1 hs with rfl | hs
      · exact HRV.out _ (H2.out.reps.on hb (Nat.le_refl _))
      · cases hs) (by
    have e1 : (d.reps.take P).length = P := by rw [List.length_take]; omega
    have e2 : (d.reps.drop P1).length = d.reps.length - P1 := by rw [List.length_drop]
    show V.drew.heap[w2.heap.size]? = _
    simp only [List.map_cons, List.map_nil, rsV, e1, e2]
    exact bx2))
  have HCL := Lib.hid (show catL [⟨p.a2, p.c2, d.reps.take P⟩, ⟨A', c', d.reps.drop P1⟩] = stopL d.reps x by unfold catL stopL; rw [HP.out, HP1.out]; simp)
  rw [HCL.out] at HC
  clear bV bx2 hsum
  have hPc : (P : Int) ≤ (d.reps.length : Int) := by omega
  have hPc1 : (P1 : Int) ≤ (d.reps.length : Int) := by omega
  go_wp2_with (fail)
  go_region_held3 (fun X => X.cell? ⟨B, 1, none⟩ = some (.slice p.a2 d.reps.length p.c2))
    (first | exact f1 | exact (HF.out w3 K3.out).2.1 | (have z := HF.out V.drew KV.out.drew; rw [hV] at z; exact z.2.1) | fail)
    (first
      | (go_at_call 53; rw [hV] at HC; refine (show Calls Try.prog 53 #[.slice (some ⟨w2.heap.size, 0, none⟩) 2 2] _ _ from HC.out).mono ?_; rintro e w3 ⟨v3, rfl, o3, b3⟩; rw [← hV] at o3 b3; have K3 := Lib.hid (below_join KV.out.drew b3 KV.out.size); have O3 := Lib.hid o3; have O3B := Lib.hid b3.size; clear o3 b3)
      | fail)
  clear f0 f1 y0 y1 v0 v1 u0 u1 hfr hrr
  obtain ⟨f0, f1, y0, y1, v0, v1, u0, u1⟩ := HF.out w3 K3.out
  obtain ⟨A3, c3, rfl⟩ := own_shape O3.out
  have H3 := Lib.hid (H.out.on K3.out (Nat.le_refl _))
  have HLT := Lib.hid (at_lt (HV.out W KW.out))
  have HVW := Lib.hid (show W.heap.size ≤ V.drew.heap.size from KV.out.size)
  have HWV := Lib.hid (show V.drew.heap.size ≤ w3.heap.size from O3B.out)
  clear hV
  go_wp2_with (fail)
  go_at_call 54
  refine (c_copied p.a1 p.c1 d.hosts hm2 w3 H3.out.hosts).mono ?_
  rintro e w4 ⟨rfl, hrow, b4⟩
  have K4 := Lib.hid (below_join K3.out b4 K3.out.size)
  have HROW := Lib.hid hrow
  have O4 := Lib.hid (own_on O3.out b4 (Nat.le_refl _))
  clear b4 hrow f0 f1 y0 y1 v0 v1 u0 u1
  obtain ⟨f0, f1, y0, y1, v0, v1, u0, u1⟩ := HF.out w4 K4.out
  go_wp2_with (fail)
  refine ret2t (i := 4) (b := B + 1 + 1) (j := 5) rfl rfl rfl rfl (row_store2 (HV.out w4 K4.out) _ _) ?_
  rw [HRR.out]
  have hq : stopP d x = (⟨d.hosts, stopL d.reps x⟩, 0) := by unfold stopP; rw [Q1.out, Q2.out, if_pos (by rfl), if_pos (by rfl)]
  rw [hq]
  have e1 := HLT.out
  have e2 := HVW.out
  have e3 := HWV.out
  refine ⟨⟨some ⟨w3.heap.size, 0, none⟩, d.hosts.length, A3, c3⟩, rfl, ⟨own_block2 (by omega) (set_else (set_else HROW.out (by omega)) (by omega)) (cellsV_len _) (by show d.hosts.length ≤ maxLen; unfold maxLen; omega), ?_⟩, ?_⟩
  · exact own_mono (ownsRow_setCell_below (ownsRow_setCell_below O4.out (a := ⟨B + 1 + 1, 0, none⟩) (by show B + 1 + 1 < _; omega) _) (a := ⟨B + 1 + 1, 1, none⟩) (by show B + 1 + 1 < _; omega) _) (by omega)
  · rw [hA]; exact ends2 (below_join HB.out K4.out hle) (by omega) _ _
end Go.Proofs.Ytplncglgolhfaaa
