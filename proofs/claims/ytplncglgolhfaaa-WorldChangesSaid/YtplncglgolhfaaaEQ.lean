/-
  DERIVED. Set of the landed package (stage 13).
-/
import Derived.Test.YtplncglgolhfaaaEP
namespace Go.Proofs.Ytplncglgolhfaaa
open Go.RowKit
set_option maxRecDepth 100000
set_option linter.unusedVariables false
set_option linter.unusedSimpArgs false

theorem cellsV_set {α : Type} {F : α → Nat → Value} : ∀ {l : List α} {k : Nat} (x : α), k < l.length → cellsV 2 F (l.set k x) = ((cellsV 2 F l).set (k * 2) (F x 0)).set (k * 2 + 1) (F x 1) := by
  intro l
  induction l with
  | nil => intro k x h; cases h
  | cons y l ih =>
    intro k x h
    have e : ∀ (z : α) (m : List α), cellsV 2 F (z :: m) = F z 0 :: F z 1 :: cellsV 2 F m := fun z m => rfl
    cases k with
    | zero => rw [List.set_cons_zero, e, e]; rfl
    | succ k =>
      rw [List.set_cons_succ, e, e, ih x (by simpa using h), show (k + 1) * 2 = k * 2 + 1 + 1 by omega]
      rfl
theorem set_row2 {α : Type} {F : α → Nat → Value} {X : World} {g k : Nat} {T : TypeId} {l : List α} (h : X.heap[g]? = some (.cells (cellsV 2 F l).toArray T (0, 0))) (hk : k < l.length) (x : α) :
    ((X.setCell ⟨g, k * 2, none⟩ (F x 0)).setCell ⟨g, k * 2 + 1, none⟩ (F x 1)).heap[g]? = some (.cells (cellsV 2 F (l.set k x)).toArray T (0, 0)) := by
  rw [cellsV_set x hk]
  have := set_field (o := k * 2 + 1) (set_field (o := k * 2) h (F x 0)) (F x 1)
  rw [this]
  simp
theorem ends2' {B b i j : Nat} {w X : World} (h : Below B w X) (hb : B ≤ b) (x0 x1 : Value) : Below B w ((X.setCell ⟨b, i, none⟩ x0).setCell ⟨b, j, none⟩ x1) := (h.setCell (p := ⟨b, i, none⟩) hb _).setCell (p := ⟨b, j, none⟩) hb _
set_option maxHeartbeats 16000000 in
theorem c_woSet (p : WP) (d : WorldD) (host : Int) (x : Hst) (hm : d.reps.length ≤ 1000) (hm2 : d.hosts.length ≤ 1000) (w : World) (h : WoAt w p d) :
    Calls Try.prog 32 #[.agg (woA p d), .int .i64 host, .agg #[.int .u8 (x.phase : Int), .int .i64 x.fw]] w (ResW w (setP d host x)) := by
  unfold woA
  obtain ⟨W1, h1⟩ : ∃ W, W = w.alloc (.cells (woA p d) 36) := ⟨_, rfl⟩
  obtain ⟨W2, h2⟩ : ∃ W, W = W1.alloc (.cells #[.int .u8 (x.phase : Int), .int .i64 x.fw] 51) := ⟨_, rfl⟩
  obtain ⟨W, h3⟩ : ∃ W, W = W2.alloc (.cells #[.slice none 0 0, .slice none 0 0] 36) := ⟨_, rfl⟩
  obtain ⟨B0, b1, b2, b3⟩ := three_boxes h1 h2 h3
  have HB := Lib.hid B0
  have hle := B0.size
  have HF := Lib.hid (fun (X : World) (hX : Below W.heap.size W X) => (⟨cell_of (box_on b1 hX (Nat.le_refl _)) rfl, cell_of (box_on b1 hX (Nat.le_refl _)) rfl, cell_of (box_on b2 hX (Nat.le_refl _)) rfl, cell_of (box_on b2 hX (Nat.le_refl _)) rfl, cell_of (box_on b3 hX (Nat.le_refl _)) rfl, cell_of (box_on b3 hX (Nat.le_refl _)) rfl, frz (box_on b3 hX (Nat.le_refl _)) 0, frz (box_on b3 hX (Nat.le_refl _)) 1⟩ : X.cell? ⟨w.heap.size, 0, none⟩ = some (.slice p.a1 d.hosts.length p.c1) ∧ X.cell? ⟨w.heap.size, 1, none⟩ = some (.slice p.a2 d.reps.length p.c2) ∧ X.cell? ⟨w.heap.size + 1, 0, none⟩ = some (.int .u8 (x.phase : Int)) ∧ X.cell? ⟨w.heap.size + 1, 1, none⟩ = some (.int .i64 x.fw) ∧ X.cell? ⟨w.heap.size + 1 + 1, 0, none⟩ = some (.slice none 0 0) ∧ X.cell? ⟨w.heap.size + 1 + 1, 1, none⟩ = some (.slice none 0 0) ∧ X.frozen? ⟨w.heap.size + 1 + 1, 0, none⟩ = false ∧ X.frozen? ⟨w.heap.size + 1 + 1, 1, none⟩ = false))
  have HV := Lib.hid (fun (X : World) (hX : Below W.heap.size W X) => box_on b3 hX (Nat.le_refl _))
  have H := Lib.hid (h.on B0 (Nat.le_refl _))
  have n1 := h.hosts.1; have n2 := h.hosts.2.1; have n3 := h.reps.1; have n4 := h.reps.2.1
  unfold maxLen at n2 n4
  have KW := Lib.hid (Below.refl W.heap.size W)
  obtain ⟨f0, f1, y0, y1, v0, v1, u0, u1⟩ := HF.out W KW.out
  clear h B0 b1 b2 b3
  unfold woA at h1
  rw [h3, h2, h1] at f0 f1 y0 y1 v0 v1 u0 u1
  have HZZ := Lib.hid (show ∀ (n : Int) (X : World), setP d host x = (zeroD, n) → Below W.heap.size W X → ResW w (setP d host x) (.returned (.tuple #[.agg #[.slice none 0 0, .slice none 0 0], .int .i64 n])) ((X.setCell ⟨w.heap.size + 1 + 1, 0, none⟩ (.slice none 0 0)).setCell ⟨w.heap.size + 1 + 1, 1, none⟩ (.slice none 0 0)) from fun n X hq hX => resW_zero hq (ends2 (below_join HB.out hX HB.out.size) (by omega) _ _))
  obtain ⟨R, hR⟩ : ∃ R, R = ResW w (setP d host x) := ⟨_, rfl⟩
  rw [← hR] at HZZ ⊢
  have HRR := Lib.hid hR
  clear hR
  obtain ⟨r1, hr1⟩ : ∃ b, ascB d.reps = b := ⟨_, rfl⟩
  have Q1 := Lib.hid hr1
  clear hr1
  generalize hA : w.heap.size = B at *
  go_enter Try.func32, Try.ntmps32
  go_wp2_with (fail)
  rw [← h1, ← h2, ← h3] at f0 f1 y0 y1 v0 v1 u0 u1 ⊢
  clear h1 h2 h3
  go_at_call 48
  refine (c_ascend p.a2 p.c2 d.reps r1 Q1.out W H.out.reps).mono ?_
  rintro e w1 ⟨rfl, b1⟩
  have K1 := Lib.hid b1
  clear b1 f0 f1 y0 y1 v0 v1 u0 u1
  obtain ⟨f0, f1, y0, y1, v0, v1, u0, u1⟩ := HF.out w1 K1.out
  cases r1
  · go_wp2_with (fail)
    refine ret2t (i := 6) (b := B + 1 + 1) (j := 7) rfl rfl rfl rfl (row_store2 (HV.out w1 K1.out) _ _) ?_
    exact HZZ.out 1 w1 (by unfold setP; rw [Q1.out]; rfl) K1.out
  · obtain ⟨q, hq⟩ : ∃ q, ixB host (d.hosts.length : Int) = q := ⟨_, rfl⟩
    have HQ := Lib.hid hq
    clear hq
    go_wp2_with (fail)
    go_at_call 44
    refine (c_woIsIndex host (d.hosts.length : Int) q HQ.out w1).mono ?_
    rintro e wx ⟨rfl, hwx⟩
    rw [hwx]
    clear hwx wx
    cases q
    · go_wp2_with (fail)
      refine ret2t (i := 6) (b := B + 1 + 1) (j := 7) rfl rfl rfl rfl (row_store2 (HV.out w1 K1.out) _ _) ?_
      exact HZZ.out 1 w1 (by unfold setP; rw [Q1.out, HQ.out]; rfl) K1.out
    · have hix := ixB_iff.1 HQ.out
      obtain ⟨k, rfl⟩ : ∃ k : Nat, host = k := ⟨host.toNat, by omega⟩
      have hkl : k < d.hosts.length := by omega
      have hki : ((k : Nat) : Int).toNat = k := by omega
      have hk0 : (k : Int) < (d.hosts.length : Int) := by omega
      have HHX := Lib.hid hix
      clear hix
      go_wp2_with (fail)
      go_at_call 54
      refine (c_copied p.a1 p.c1 d.hosts hm2 w1 (H.out.on K1.out (Nat.le_refl _)).hosts).mono ?_
      rintro e w2 ⟨rfl, hrow, b2⟩
      have K2 := Lib.hid (below_join K1.out b2 K1.out.size)
      have HROW := Lib.hid hrow
      have HG := Lib.hid (show W.heap.size ≤ w1.heap.size from K1.out.size)
      have HG2 := Lib.hid (at_lt hrow)
      obtain ⟨g, hg⟩ : ∃ g, w1.heap.size = g := ⟨_, rfl⟩
      rw [hg] at HROW HG HG2 ⊢
      clear b2 hrow hg f0 f1 y0 y1 v0 v1 u0 u1
      obtain ⟨f0, f1, y0, y1, v0, v1, u0, u1⟩ := HF.out w2 K2.out
      obtain ⟨z, hz⟩ : ∃ z, d.hosts[k]? = some z := ⟨_, List.getElem?_eq_getElem hkl⟩
      have t0 : w2.cell? ⟨g, k * 2, none⟩ = some (.int .u8 (z.phase : Int)) := cell_of HROW.out (by rw [List.getElem?_toArray]; exact cellsV_at (F := hstV) hz 0 (by omega))
      have t1 : w2.cell? ⟨g, k * 2 + 1, none⟩ = some (.int .i64 z.fw) := cell_of HROW.out (by rw [List.getElem?_toArray]; exact cellsV_at (F := hstV) hz 1 (by omega))
      have s0 := frz HROW.out (k * 2)
      have s1 := frz HROW.out (k * 2 + 1)
      obtain ⟨X, hX⟩ : ∃ X, X = (w2.setCell ⟨g, k * 2, none⟩ (.int .u8 (x.phase : Int))).setCell ⟨g, k * 2 + 1, none⟩ (.int .i64 x.fw) := ⟨_, rfl⟩
      have KX := Lib.hid (show Below W.heap.size W X by rw [hX]; exact ends2' K2.out HG.out _ _)
      have HRX := Lib.hid (show X.heap[g]? = some (.cells (cellsV 2 hstV (d.hosts.set k x)).toArray 51 (0, 0)) by rw [hX]; exact set_row2 (F := hstV) HROW.out hkl x)
      clear hz f0 f1 v0 v1 u0 u1
      obtain ⟨f0, f1, -, -, v0, v1, u0, u1⟩ := HF.out X KX.out
      rw [hX] at f0 f1 v0 v1 u0 u1
      go_wp2_with (fail)
      rw [← hX] at f0 f1 v0 v1 u0 u1 ⊢
      clear hX t0 t1 s0 s1 y0 y1
      go_at_call 58
      refine (c_cloneReps p.a2 p.c2 d.reps hm X (H.out.on KX.out (Nat.le_refl _)).reps).mono ?_
      rintro e w4 ⟨v3, rfl, o3, b4⟩
      have K4 := Lib.hid (below_join KX.out b4 KX.out.size)
      obtain ⟨A3, c3, rfl⟩ := own_shape o3
      have O4 := Lib.hid o3
      have HROW4 := Lib.hid (box_on HRX.out b4 (Nat.le_refl _))
      have HLT := Lib.hid (at_lt (HV.out W KW.out))
      have HWX := Lib.hid (show W.heap.size ≤ X.heap.size from KX.out.size)
      clear b4 o3 f0 f1 v0 v1 u0 u1
      obtain ⟨f0, f1, -, -, v0, v1, u0, u1⟩ := HF.out w4 K4.out
      go_wp2_with (fail)
      refine ret2t (i := 6) (b := B + 1 + 1) (j := 7) rfl rfl rfl rfl (row_store2 (HV.out w4 K4.out) _ _) ?_
      rw [HRR.out]
      have hq : setP d (k : Int) x = (⟨d.hosts.set k x, d.reps⟩, 0) := by unfold setP; rw [Q1.out, HQ.out, if_pos (by rfl)]; rfl
      rw [hq]
      have e1 := HLT.out
      have e2 := HG.out
      have e3 := HWX.out
      have e4 : (d.hosts.set k x).length = d.hosts.length := List.length_set
      refine ⟨⟨some ⟨g, 0, none⟩, d.hosts.length, A3, c3⟩, (show Ending.returned (.tuple #[.agg #[.slice (some ⟨g, 0, none⟩) d.hosts.length d.hosts.length, .slice A3 d.reps.length c3], .int .i64 0]) = .returned (.tuple #[.agg (woA ⟨some ⟨g, 0, none⟩, d.hosts.length, A3, c3⟩ ⟨d.hosts.set k x, d.reps⟩), .int .i64 0]) by unfold woA; simp only [e4]), ⟨?_, ?_⟩, ?_⟩
      · show World.ownsRow _ _ _ _ (.slice (some ⟨g, 0, none⟩) (d.hosts.set k x).length d.hosts.length) _ _
        rw [e4]
        exact own_block2 (by omega) (set_else (set_else HROW4.out (by omega)) (by omega)) (by rw [cellsV_len, e4]) (by unfold maxLen; omega)
      · exact own_mono (ownsRow_setCell_below (ownsRow_setCell_below O4.out (a := ⟨B + 1 + 1, 0, none⟩) (by show B + 1 + 1 < _; omega) _) (a := ⟨B + 1 + 1, 1, none⟩) (by show B + 1 + 1 < _; omega) _) (by omega)
      · rw [hA]; exact ends2 (below_join HB.out K4.out hle) (by omega) _ _
end Go.Proofs.Ytplncglgolhfaaa
