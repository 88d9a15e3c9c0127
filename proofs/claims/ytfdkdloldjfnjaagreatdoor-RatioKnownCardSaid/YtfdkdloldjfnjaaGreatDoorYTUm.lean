/-
  DERIVED. Several texts in one.
-/
import Derived.Test.YtfdkdloldjfnjaaGreatDoorYTRm
set_option linter.unusedVariables false
set_option linter.unusedSimpArgs false

/- DERIVED. Nearest. -/
namespace Go.Proofs.YtfdkdloldjfnjaaGreatDoor
open Go.RowKit Go.Shelf
set_option maxRecDepth 100000

/-- Which of the two neighbours is nearest. -/
def nearP (s : Bool) (m n P1 Q1 P2 Q2 : Nat) : Bool × Nat × Nat :=
  if 0 < ordP (sumP (negP false s P1) P1 Q1 (negP (negP false s P2) true P2) P2 Q2) then
    (if 0 < ordP (sumP (sumP s m n s m n).1 (sumP s m n s m n).2 (n * n) (negP (sumP (negP false s P2) P2 Q2 (negP false s P1) P1 Q1).1 true (sumP (negP false s P2) P2 Q2 (negP false s P1) P1 Q1).2) (sumP (negP false s P2) P2 Q2 (negP false s P1) P1 Q1).2 (Q2 * Q1)) then (negP false s P1, P1, Q1) else (negP false s P2, P2, Q2))
  else
    (if 0 < ordP (sumP (sumP s m n s m n).1 (sumP s m n s m n).2 (n * n) (negP (sumP (negP false s P1) P1 Q1 (negP false s P2) P2 Q2).1 true (sumP (negP false s P1) P1 Q1 (negP false s P2) P2 Q2).2) (sumP (negP false s P1) P1 Q1 (negP false s P2) P2 Q2).2 (Q1 * Q2)) then (negP false s P2, P2, Q2) else (negP false s P1, P1, Q1))
theorem c_neg_self (s : Bool) (n d : Nat) (v : Value) (g : Nat) (w : World) (h : Fr w v s n d) (hg : w.cell? ⟨g, 0, none⟩ = some (.bool s)) (hgs : g < w.heap.size) :
    Calls Tryz.prog 112 #[v, .pointer (some ⟨g, 0, none⟩)] w (FrPost false n d w) := by
  have := c_negation1 s s n d v g w h hg hgs
  rwa [show negP s s n = false by simp [negP]] at this
theorem sumP_len (s : Bool) (m a : Nat) (t : Bool) (n b k : Nat) (h1 : (nat m).length + (nat b).length ≤ k) (h2 : (nat n).length + (nat a).length ≤ k) : (nat (sumP s m a t n b).2).length ≤ k + 1 := by
  have h := add_len (m * b) (n * a) k (Nat.le_trans (mul_len m b) h1) (Nat.le_trans (mul_len n a) h2)
  refine len_le_of_le ?_ h
  unfold sumP
  split
  · exact Nat.le_refl _
  · split
    · show n * a - m * b ≤ _; omega
    · show m * b - n * a ≤ _; omega

set_option maxHeartbeats 1000000 in
theorem c_NearestE (s : Bool) (a b : List Nat) (den : Int) (x : Value) (w : World) (ht : Tz w) (hx : Fr0 w x s a b) (hv : validB s a b = false) :
    Calls Tryz.prog 40 #[x, .int .i64 den] w (ResPost none 1 w) := by
  have HV := Lib.hid (fun (X : World) (hX : Below w.heap.size w X) => c_ValidF (hx.on hX) false hv (ht.heap (hX.block _ ht.lt)))
  obtain ⟨A1, c1, A2, c2, rfl⟩ := hx.shape
  obtain ⟨W, hW⟩ : ∃ W, W = (w.alloc (.cells #[.bool s, .slice A1 a.length c1, .slice A2 b.length c2] 25)).alloc (.cells #[.bool false, .slice none 0 0, .slice none 0 0] 25) := ⟨_, rfl⟩
  have R0 : ResZ (w.heap.size + 1) W := by subst hW; exact resz_two _ _
  have B0 : Below w.heap.size w W := by subst hW; exact below_two _ _ _
  have hz : w.heap.size + 1 < W.heap.size := by subst hW; simp
  have HR0 := Lib.hid R0
  have HB0 := Lib.hid B0
  clear R0 B0 hx ht hv
  go_enter Tryz.func40, Tryz.ntmps40
  go_wp2_with (fail)
  rw [← hW]
  clear hW
  refine (HV.out _ HB0.out).mono ?_
  rintro e w1 ⟨rfl, hb1⟩
  have r1 := HR0.out.on hb1 hz
  have HR1 := Lib.hid r1
  have HB1 := Lib.hid (below_join HB0.out hb1 HB0.out.size)
  obtain ⟨e0, e1, e2⟩ := three_cells r1
  obtain ⟨f0, f1, f2⟩ := three_frozen r1
  clear r1 hb1
  go_wp2_with (fail)
  exact ret3t (b := w.heap.size + 1) rfl rfl rfl rfl (row_store3 HR1.out _ _ _) ⟨_, _, rfl, below_store3 HB1.out (by omega) _ _ _, fun _ => ⟨rfl, rfl⟩, fun _ _ _ h => absurd h (by simp)⟩

set_option maxHeartbeats 1000000 in
theorem c_NearestR (s : Bool) (a b : List Nat) (den : Int) (hden : den < 1 ∨ 1000 < den) (x : Value) (w : World) (ht : Tz w) (hx : Fr0 w x s a b) (hv : validB s a b = true) :
    Calls Tryz.prog 40 #[x, .int .i64 den] w (ResPost none 2 w) := by
  have HV := Lib.hid (fun (X : World) (hX : Below w.heap.size w X) => c_ValidF (hx.on hX) true hv (ht.heap (hX.block _ ht.lt)))
  obtain ⟨A1, c1, A2, c2, rfl⟩ := hx.shape
  obtain ⟨W, hW⟩ : ∃ W, W = (w.alloc (.cells #[.bool s, .slice A1 a.length c1, .slice A2 b.length c2] 25)).alloc (.cells #[.bool false, .slice none 0 0, .slice none 0 0] 25) := ⟨_, rfl⟩
  have R0 : ResZ (w.heap.size + 1) W := by subst hW; exact resz_two _ _
  have B0 : Below w.heap.size w W := by subst hW; exact below_two _ _ _
  have hz : w.heap.size + 1 < W.heap.size := by subst hW; simp
  have HR0 := Lib.hid R0
  have HB0 := Lib.hid B0
  clear R0 B0 hx ht hv
  rcases hden with hden | hden
  all_goals
    have hx1 : den < 1 ∨ (1 : Int) ≤ den := by omega
    rcases hx1 with hx1 | hx1
    all_goals first
      | (exfalso; omega)
      | (go_enter Tryz.func40, Tryz.ntmps40
         go_wp2_with (fail)
         rw [← hW]
         clear hW
         refine (HV.out _ HB0.out).mono ?_
         rintro e w1 ⟨rfl, hb1⟩
         have r1 := HR0.out.on hb1 hz
         have HR1 := Lib.hid r1
         have HB1 := Lib.hid (below_join HB0.out hb1 HB0.out.size)
         obtain ⟨e0, e1, e2⟩ := three_cells r1
         obtain ⟨f0, f1, f2⟩ := three_frozen r1
         clear r1 hb1
         go_wp2_with (fail)
         exact ret3t (b := w.heap.size + 1) rfl rfl rfl rfl (row_store3 HR1.out _ _ _) ⟨_, _, rfl, below_store3 HB1.out (by omega) _ _ _, fun _ => ⟨rfl, rfl⟩, fun _ _ _ h => absurd h (by simp)⟩)

set_option maxHeartbeats 2000000 in
theorem c_NearestV (s : Bool) (m n : Nat) (k1 : (nat m).length ≤ 32) (k2 : (nat n).length ≤ 32) (den : Nat) (hd1 : 1 ≤ den) (hd2 : den ≤ 1000) (P1 Q1 P2 Q2 : Nat) (q1 : (nat P1).length ≤ 100) (q2 : (nat Q1).length ≤ 100) (q3 : (nat P2).length ≤ 100) (q4 : (nat Q2).length ≤ 100)
    (har : ∀ X x vm, Fr X x false m n → NatSl X (fun i => i < X.heap.size) vm (nat den) → Calls Tryz.prog 86 #[x, vm] X (AroundPost P1 Q1 P2 Q2 X))
    (x : Value) (w : World) (ht : Tz w) (hx : Fr w x s m n) (hv : validB s (nat m) (nat n) = true) (r : Bool × Nat × Nat) (hr : nearP s m n P1 Q1 P2 Q2 = r) :
    Calls Tryz.prog 40 #[x, .int .i64 den] w (ResPost (some r) 0 w) := by
  have hx0 := hx.to0 (by omega) (by omega)
  have HV := Lib.hid (fun (X : World) (hX : Below w.heap.size w X) => c_ValidF (hx0.on hX) true hv (ht.heap (hX.block _ ht.lt)))
  have HXW := Lib.hid hx
  obtain ⟨v1, v2, rfl, h1, h2⟩ := hx
  obtain ⟨A1, c1, rfl⟩ := h1.shape
  obtain ⟨A2, c2, rfl⟩ := h2.shape
  have HMG := Lib.hid (fun X => c_magnitude (den : Int) (by omega) (by omega) X)
  have HAR := Lib.hid har
  have HRR := Lib.hid hr
  obtain ⟨W, hW⟩ : ∃ W, W = (w.alloc (.cells #[.bool s, .slice A1 (nat m).length c1, .slice A2 (nat n).length c2] 25)).alloc (.cells #[.bool false, .slice none 0 0, .slice none 0 0] 25) := ⟨_, rfl⟩
  have X0 : Rt W w.heap.size s (.slice A1 (nat m).length c1) (.slice A2 (nat n).length c2) := by subst hW; exact two_new _ _ _ _ _
  have R0 : ResZ (w.heap.size + 1) W := by subst hW; exact resz_two _ _
  have B0 : Below w.heap.size w W := by subst hW; exact below_two _ _ _
  have hz : w.heap.size + 1 < W.heap.size := by subst hW; simp
  have HX0 := Lib.hid X0
  have HR0 := Lib.hid R0
  have HB0 := Lib.hid B0
  clear R0 B0 X0 hx0 ht hv h1 h2 har hr
  have hd1' : (1 : Int) ≤ (den : Int) := by omega
  have hd2' : (den : Int) ≤ 1000 := by omega
  go_enter Tryz.func40, Tryz.ntmps40
  go_wp2_with (fail)
  rw [← hW]
  clear hW
  refine (HV.out _ HB0.out).mono ?_
  rintro e w1 ⟨rfl, hb1⟩
  have hz1 := hb1.size
  have HX1 := Lib.hid (HX0.out.on hb1 (by omega))
  have HR1 := Lib.hid (HR0.out.on hb1 hz)
  have HB1 := Lib.hid (below_join HB0.out hb1 HB0.out.size)
  obtain ⟨x0, x1, x2⟩ := HX1.out.cells
  clear hb1
  go_wp2_with (fail)
  refine (c_negation s _).mono ?_
  rintro e w4 ⟨rfl, hw4⟩
  have hb4 : Below w1.heap.size w1 w4 := by subst hw4; exact (Below.refl _ _).alloc (Nat.le_refl _) _
  have HN4 := Lib.hid (show w4.heap[w1.heap.size]? = some (.cells #[.bool s] 4 (0, 0)) by subst hw4; exact row_new4 _ _ _ rfl)
  have hz4 : w1.heap.size < w4.heap.size := by subst hw4; simp
  have HX4 := Lib.hid (HX1.out.on hb4 (by omega))
  have HR4 := Lib.hid (HR1.out.on hb4 (by omega))
  have HB4 := Lib.hid (below_join HB1.out hb4 HB1.out.size)
  have hc4 : w4.cell? ⟨w1.heap.size, 0, none⟩ = some (.bool s) := by simp [World.cell?, HN4.out]
  clear hb4 hw4 x0 x1 x2
  obtain ⟨x0, x1, x2⟩ := HX4.out.cells
  go_wp2_with (fail)
  refine (c_neg_self s m n _ w1.heap.size w4 (HXW.out.on HB4.out) hc4 hz4).mono ?_
  rintro e w5 ⟨v5, rfl, hf5, hb5⟩
  have hz5 := hb5.size
  have HF5 := Lib.hid hf5
  have HN5 := Lib.hid ((hb5.block _ hz4).trans HN4.out)
  have HX5 := Lib.hid (HX4.out.on hb5 (by omega))
  have HR5 := Lib.hid (HR4.out.on hb5 (by omega))
  have HB5 := Lib.hid (below_join HB4.out hb5 HB4.out.size)
  clear hb5 hf5 hc4
  go_wp2_with (fail)
  refine (HMG.out _).mono ?_
  rintro e w6 ⟨v6, rfl, g6, hb6⟩
  rw [Int.natAbs_natCast] at g6
  have hz6 := hb6.size
  have HF6 := Lib.hid (HF5.out.on hb6)
  have HG6 := Lib.hid (natSl_any g6)
  have HN6 := Lib.hid ((hb6.block _ (by omega)).trans HN5.out)
  have HX6 := Lib.hid (HX5.out.on hb6 (by omega))
  have HR6 := Lib.hid (HR5.out.on hb6 (by omega))
  have HB6 := Lib.hid (below_join HB5.out hb6 HB5.out.size)
  clear hb6 g6
  go_wp2_with (fail)
  refine (HAR.out _ _ _ HF6.out HG6.out).mono ?_
  rintro e w7 ⟨u7, v7, rfl, ⟨a1, a2, rfl, ga1, ga2⟩, ⟨a3, a4, rfl, ga3, ga4⟩, hb7⟩
  obtain ⟨D1, i1, rfl⟩ := ga1.shape
  obtain ⟨D2, i2, rfl⟩ := ga2.shape
  obtain ⟨D3, i3, rfl⟩ := ga3.shape
  obtain ⟨D4, i4, rfl⟩ := ga4.shape
  have hz7 := hb7.size
  have HL7 := Lib.hid (show Fr w7 _ false P1 Q1 from ⟨_, _, rfl, ga1, ga2⟩)
  have HH7 := Lib.hid (show Fr w7 _ false P2 Q2 from ⟨_, _, rfl, ga3, ga4⟩)
  have HN7 := Lib.hid ((hb7.block _ (by omega)).trans HN6.out)
  have HX7 := Lib.hid (HX6.out.on hb7 (by omega))
  have HR7 := Lib.hid (HR6.out.on hb7 (by omega))
  have HB7 := Lib.hid (below_join HB6.out hb7 HB6.out.size)
  clear hb7 ga1 ga2 ga3 ga4 x0 x1 x2
  obtain ⟨W8, hW8⟩ : ∃ W8, W8 = (w7.alloc (.cells #[.bool false, .slice D1 (nat P1).length i1, .slice D2 (nat Q1).length i2] 25)).alloc (.cells #[.bool false, .slice D3 (nat P2).length i3, .slice D4 (nat Q2).length i4] 25) := ⟨_, rfl⟩
  have hb8 : Below w7.heap.size w7 W8 := by subst hW8; exact below_two _ _ _
  have hz8 : w7.heap.size + 1 < W8.heap.size := by subst hW8; simp
  have HA8 := Lib.hid (show Rt W8 w7.heap.size false (.slice D1 (nat P1).length i1) (.slice D2 (nat Q1).length i2) by subst hW8; exact two_new _ _ _ _ _)
  have HC8 := Lib.hid (show Rt W8 (w7.heap.size + 1) false (.slice D3 (nat P2).length i3) (.slice D4 (nat Q2).length i4) by subst hW8; exact rt_new _ _ _ _ _ (by simp))
  have HN8 := Lib.hid ((hb8.block _ (by omega)).trans HN7.out)
  have HX8 := Lib.hid (HX7.out.on hb8 (by omega))
  have HR8 := Lib.hid (HR7.out.on hb8 (by omega))
  have HB8 := Lib.hid (below_join HB7.out hb8 HB7.out.size)
  have hc8 : W8.cell? ⟨w1.heap.size, 0, none⟩ = some (.bool s) := by simp [World.cell?, HN8.out]
  have HL8 := Lib.hid (HL7.out.on hb8)
  have HH8 := Lib.hid (HH7.out.on hb8)
  have HNG1 := Lib.hid (fun (X : World) (hX : Below W8.heap.size W8 X) => c_negation1 false s P1 Q1 _ w1.heap.size X (HL8.out.on hX) ((hX.cell (p := ⟨w1.heap.size, 0, none⟩) (show w1.heap.size < W8.heap.size by omega)).trans hc8) (by have := hX.size; omega))
  have HNG2 := Lib.hid (fun (X : World) (hX : Below W8.heap.size W8 X) => c_negation1 false s P2 Q2 _ w1.heap.size X (HH8.out.on hX) ((hX.cell (p := ⟨w1.heap.size, 0, none⟩) (show w1.heap.size < W8.heap.size by omega)).trans hc8) (by have := hX.size; omega))
  have HB88 := Lib.hid (Below.refl W8.heap.size W8)
  unfold nearP at HRR
  generalize hsl : negP false s P1 = sl at HNG1 HRR
  generalize hsh : negP false s P2 = sh at HNG2 HRR
  clear hsl hsh hc8 hb8
  go_wp2_with (fail)
  rw [← hW8]
  clear hW8
  obtain ⟨c10, c11, c12⟩ := HA8.out.cells
  obtain ⟨c20, c21, c22⟩ := HC8.out.cells
  apply wp_only8 (fun E1 j1 E2 j2 E3 j3 E4 j4 V => Rt V w7.heap.size sl (.slice E1 (nat P1).length j1) (.slice E2 (nat Q1).length j2) ∧ Rt V (w7.heap.size + 1) sh (.slice E3 (nat P2).length j3) (.slice E4 (nat Q2).length j4) ∧ NatSl V (fun i => i < V.heap.size) (.slice E1 (nat P1).length j1) (nat P1) ∧ NatSl V (fun i => i < V.heap.size) (.slice E2 (nat Q1).length j2) (nat Q1) ∧ NatSl V (fun i => i < V.heap.size) (.slice E3 (nat P2).length j3) (nat P2) ∧ NatSl V (fun i => i < V.heap.size) (.slice E4 (nat Q2).length j4) (nat Q2) ∧
    Rt V w.heap.size s (.slice A1 (nat m).length c1) (.slice A2 (nat n).length c2) ∧ ResZ (w.heap.size + 1) V ∧ Below w.heap.size w V ∧ w7.heap.size + 1 < V.heap.size)
  case h =>
   go_region_with (first
    | (go_at_call 112; (with_reducible refine (HNG1.out _ HB88.out.drew).mono ?_); rintro e wa ⟨ra, rfl, ⟨va1, va2, rfl, ga1, ga2⟩, hba0⟩; obtain ⟨E1, j1, rfl⟩ := ga1.shape; obtain ⟨E2, j2, rfl⟩ := ga2.shape; have hba := Below.undrew hba0; have HBa := Lib.hid hba; have HGA1 := Lib.hid ga1; have HGA2 := Lib.hid ga2; have hza := hba.size; obtain ⟨xa0, xa1, xa2⟩ := (HA8.out.on hba HA8.out.lt).cells; obtain ⟨ya0, ya1, ya2⟩ := (HC8.out.on hba HC8.out.lt).cells; clear ga1 ga2 hba0 hba)
    | (go_at_call 112; (with_reducible refine (HNG2.out _ HBa.out).mono ?_); rintro e wb ⟨rb, rfl, ⟨vb1, vb2, rfl, gb1, gb2⟩, hbb⟩; obtain ⟨E3, j3, rfl⟩ := gb1.shape; obtain ⟨E4, j4, rfl⟩ := gb2.shape; have HBb := Lib.hid (below_join HBa.out hbb HBa.out.size); have HGA3 := Lib.hid (HGA1.out.below (ok' := fun i => i < wb.heap.size) hbb (fun i hi => ⟨hi, Nat.lt_of_lt_of_le hi hbb.size⟩)); have HGA4 := Lib.hid (HGA2.out.below (ok' := fun i => i < wb.heap.size) hbb (fun i hi => ⟨hi, Nat.lt_of_lt_of_le hi hbb.size⟩)); have HGB1 := Lib.hid gb1; have HGB2 := Lib.hid gb2; have hzb := hbb.size; clear gb1 gb2 hbb; obtain ⟨xb0, xb1, xb2⟩ := (HA8.out.on HBb.out HA8.out.lt).cells; obtain ⟨yb0, yb1, yb2⟩ := (HC8.out.on HBb.out HC8.out.lt).cells; obtain ⟨f0, f1, f2⟩ := (HA8.out.on HBb.out HA8.out.lt).frozen; obtain ⟨g0, g1, g2⟩ := (HC8.out.on HBb.out HC8.out.lt).frozen))
   all_goals (
    have ra := HA8.out.on HBb.out HA8.out.lt
    have rb := HC8.out.on HBb.out HC8.out.lt
    have rb' := row_keep3 rb (show w7.heap.size + 1 ≠ w7.heap.size by omega) (.bool sl) (.slice E1 (nat P1).length j1) (.slice E2 (nat Q1).length j2)
    have nv : ∀ {v : Value} {t : Nat}, NatSl wb (fun i => i < wb.heap.size) v (nat t) → _ := fun {v t} h => natSl_storeZ (natSl_storeZ h ra (.bool sl) (.slice E1 (nat P1).length j1) (.slice E2 (nat Q1).length j2)) rb' (.bool sh) (.slice E3 (nat P2).length j3) (.slice E4 (nat Q2).length j4)
    have hxv := row_keep3 (row_keep3 (HX8.out.on HBb.out HX8.out.lt) (show w.heap.size ≠ w7.heap.size by omega) (.bool sl) (.slice E1 (nat P1).length j1) (.slice E2 (nat Q1).length j2)) (show w.heap.size ≠ w7.heap.size + 1 by omega) (.bool sh) (.slice E3 (nat P2).length j3) (.slice E4 (nat Q2).length j4)
    have hrv := row_keep3 (row_keep3 (HR8.out.on HBb.out (show w.heap.size + 1 < W8.heap.size by omega)) (show w.heap.size + 1 ≠ w7.heap.size by omega) (.bool sl) (.slice E1 (nat P1).length j1) (.slice E2 (nat Q1).length j2)) (show w.heap.size + 1 ≠ w7.heap.size + 1 by omega) (.bool sh) (.slice E3 (nat P2).length j3) (.slice E4 (nat Q2).length j4)
    have hbv := below_store3 (below_store3 (below_join HB8.out HBb.out HB8.out.size) (show w.heap.size ≤ w7.heap.size by omega) (.bool sl) (.slice E1 (nat P1).length j1) (.slice E2 (nat Q1).length j2)) (show w.heap.size ≤ w7.heap.size + 1 by omega) (.bool sh) (.slice E3 (nat P2).length j3) (.slice E4 (nat Q2).length j4)
    have hzv := HBb.out.size
    exact only8_intro E1 j1 E2 j2 E3 j3 E4 j4 rfl ⟨row_keep3 (row_store3 ra _ _ _) (by omega) _ _ _, row_store3 rb' _ _ _, nv HGA3.out, nv HGA4.out, nv HGB1.out, nv HGB2.out, hxv, hrv, hbv, by rw [size_store3, size_store3]; omega⟩)
  case k =>
    intro E1 j1 E2 j2 E3 j3 E4 j4 V ⟨hra, hrb, n1, n2, n3, n4, hxv, hrv, hbv, hzv⟩
    have HRA := Lib.hid hra
    have HRB := Lib.hid hrb
    have HN1 := Lib.hid n1
    have HN2 := Lib.hid n2
    have HN3 := Lib.hid n3
    have HN4' := Lib.hid n4
    have HXV := Lib.hid hxv
    have HRV := Lib.hid hrv
    have HBV := Lib.hid hbv
    clear c10 c11 c12 c20 c21 c22
    obtain ⟨c10, c11, c12⟩ := hra.cells
    obtain ⟨c20, c21, c22⟩ := hrb.cells
    clear hra hrb n1 n2 n3 n4 hxv hrv hbv
    have HOR := Lib.hid (c_order sl sh P1 P2 Q1 Q2 (by omega) (by omega) (by omega) (by omega) _ _ V ⟨_, _, rfl, HN1.out, HN2.out⟩ ⟨_, _, rfl, HN3.out, HN4'.out⟩)
    generalize ho1 : ordP (sumP sl P1 Q1 (negP sh true P2) P2 Q2) = o1 at HOR HRR
    clear ho1
    by_cases hsw : (0 : Int) < o1
    · have HR1p := Lib.hid (show _ = r from (if_pos hsw).symm.trans HRR.out)
      go_wp2_with (fail)
      refine HOR.out.mono ?_
      rintro e w9 ⟨rfl, hb9⟩
      have hz9 := hb9.size
      have hzw8 : w.heap.size + 1 < W8.heap.size := by omega
      clear c10 c11 c12 c20 c21 c22
      obtain ⟨c10, c11, c12⟩ := (HRA.out.on hb9 HRA.out.lt).cells
      obtain ⟨c20, c21, c22⟩ := (HRB.out.on hb9 HRB.out.lt).cells
      obtain ⟨f10, f11, f12⟩ := (HRA.out.on hb9 HRA.out.lt).frozen
      obtain ⟨f20, f21, f22⟩ := (HRB.out.on hb9 HRB.out.lt).frozen
      have HB9 := Lib.hid hb9
      clear hb9
      go_wp2_with (fail)
      obtain ⟨Z, hZ⟩ : ∃ Z, Z = ((((((w9.setCell ⟨w7.heap.size, 0, none⟩ (.bool sh)).setCell ⟨w7.heap.size, 1, none⟩ (.slice E3 (nat P2).length j3)).setCell ⟨w7.heap.size, 2, none⟩ (.slice E4 (nat Q2).length j4)).setCell ⟨w7.heap.size + 1, 0, none⟩ (.bool sl)).setCell ⟨w7.heap.size + 1, 1, none⟩ (.slice E1 (nat P1).length j1)).setCell ⟨w7.heap.size + 1, 2, none⟩ (.slice E2 (nat Q1).length j2)) := ⟨_, rfl⟩
      have ra := HRA.out.on HB9.out HRA.out.lt
      have rb := HRB.out.on HB9.out HRB.out.lt
      have rb' := row_keep3 rb (show w7.heap.size + 1 ≠ w7.heap.size by omega) (.bool sh) (.slice E3 (nat P2).length j3) (.slice E4 (nat Q2).length j4)
      have up : ∀ {v : Value} {t : Nat}, NatSl V (fun i => i < V.heap.size) v (nat t) → NatSl Z (fun i => i < Z.heap.size) v (nat t) := fun h => by
        rw [hZ]
        exact natSl_storeZ (natSl_storeZ (NatSl.below h HB9.out (fun i hi => ⟨hi, Nat.lt_of_lt_of_le hi HB9.out.size⟩)) ra _ _ _) rb' _ _ _
      have HZA := Lib.hid (show Rt Z w7.heap.size sh (.slice E3 (nat P2).length j3) (.slice E4 (nat Q2).length j4) by rw [hZ]; exact row_keep3 (row_store3 ra _ _ _) (by omega) _ _ _)
      have HZB := Lib.hid (show Rt Z (w7.heap.size + 1) sl (.slice E1 (nat P1).length j1) (.slice E2 (nat Q1).length j2) by rw [hZ]; exact row_store3 rb' _ _ _)
      have HXZ := Lib.hid (show Rt Z w.heap.size s (.slice A1 (nat m).length c1) (.slice A2 (nat n).length c2) by rw [hZ]; exact row_keep3 (row_keep3 (HXV.out.on HB9.out HXV.out.lt) (by omega) _ _ _) (by omega) _ _ _)
      have HRZ := Lib.hid (show ResZ (w.heap.size + 1) Z by rw [hZ]; exact row_keep3 (row_keep3 (HRV.out.on HB9.out (by omega)) (by omega) _ _ _) (by omega) _ _ _)
      have HBZ := Lib.hid (show Below w.heap.size w Z by rw [hZ]; exact below_store3 (below_store3 (below_join HBV.out HB9.out HBV.out.size) (by omega) _ _ _) (by omega) _ _ _)
      have hzZ : w7.heap.size + 1 < Z.heap.size := HZB.out.lt
      have hzZ8 : Z.heap.size = w9.heap.size := by rw [hZ, size_store3, size_store3]
      have hzZ9 : V.heap.size ≤ Z.heap.size := by omega
      have HFL := Lib.hid (show Fr Z (.agg #[.bool sh, .slice E3 (nat P2).length j3, .slice E4 (nat Q2).length j4]) sh P2 Q2 from ⟨_, _, rfl, up HN3.out, up HN4'.out⟩)
      have HFH := Lib.hid (show Fr Z (.agg #[.bool sl, .slice E1 (nat P1).length j1, .slice E2 (nat Q1).length j2]) sl P1 Q1 from ⟨_, _, rfl, up HN1.out, up HN2.out⟩)
      have HFX := Lib.hid (show Fr Z (.agg #[.bool s, .slice A1 (nat m).length c1, .slice A2 (nat n).length c2]) s m n from HXW.out.on HBZ.out)
      try rw [← hZ]
      clear hZ hzZ8 ra rb rb' up c10 c11 c12 c20 c21 c22 f10 f11 f12 f20 f21 f22
      have HS1 := Lib.hid (fun (X : World) (hX : Below Z.heap.size Z X) => c_sum s s m m n n (by omega) (by omega) (by omega) (by omega) (.agg #[.bool s, .slice A1 (nat m).length c1, .slice A2 (nat n).length c2]) (.agg #[.bool s, .slice A1 (nat m).length c1, .slice A2 (nat n).length c2]) X (HFX.out.on hX) (HFX.out.on hX))
      have HS2 := Lib.hid (fun (X : World) (hX : Below Z.heap.size Z X) => c_sum sh sl P2 P1 Q2 Q1 (by omega) (by omega) (by omega) (by omega) (.agg #[.bool sh, .slice E3 (nat P2).length j3, .slice E4 (nat Q2).length j4]) (.agg #[.bool sl, .slice E1 (nat P1).length j1, .slice E2 (nat Q1).length j2]) X (HFL.out.on hX) (HFH.out.on hX))
      have lx := sumP_len s m n s m n 64 (by omega) (by omega)
      have ll := sumP_len sh P2 Q2 sl P1 Q1 200 (by omega) (by omega)
      have lnn := mul_len n n
      have lqq := mul_len Q2 Q1
      generalize hXs : sumP s m n s m n = Xs at *
      generalize hLs : sumP sh P2 Q2 sl P1 Q1 = Ls at *
      have HO2 := Lib.hid (fun (X : World) (v u : Value) (hv : Fr X v Xs.1 Xs.2 (n * n)) (hu : Fr X u Ls.1 Ls.2 (Q2 * Q1)) => c_order Xs.1 Ls.1 Xs.2 Ls.2 (n * n) (Q2 * Q1) (by omega) (by omega) (by omega) (by omega) v u X hv hu)
      generalize ho2 : ordP (sumP Xs.1 Xs.2 (n * n) (negP Ls.1 true Ls.2) Ls.2 (Q2 * Q1)) = o2 at *
      clear ho2 hXs hLs lx ll lnn lqq
      have HZZ := Lib.hid (Below.refl Z.heap.size Z)
      obtain ⟨x0, x1, x2⟩ := HXZ.out.cells
      obtain ⟨c10, c11, c12⟩ := HZA.out.cells
      obtain ⟨c20, c21, c22⟩ := HZB.out.cells
      by_cases hfi : (0 : Int) < o2
      all_goals
        go_region_held3 (fun Y => (Y.cell? ⟨w.heap.size, 0, none⟩ = some (.bool s) ∧ Y.cell? ⟨w.heap.size, 1, none⟩ = some (.slice A1 (nat m).length c1) ∧ Y.cell? ⟨w.heap.size, 2, none⟩ = some (.slice A2 (nat n).length c2)) ∧ (Y.cell? ⟨w7.heap.size, 0, none⟩ = some (.bool sh) ∧ Y.cell? ⟨w7.heap.size, 1, none⟩ = some (.slice E3 (nat P2).length j3) ∧ Y.cell? ⟨w7.heap.size, 2, none⟩ = some (.slice E4 (nat Q2).length j4)) ∧ Y.cell? ⟨w7.heap.size + 1, 0, none⟩ = some (.bool sl) ∧ Y.cell? ⟨w7.heap.size + 1, 1, none⟩ = some (.slice E1 (nat P1).length j1) ∧ Y.cell? ⟨w7.heap.size + 1, 2, none⟩ = some (.slice E2 (nat Q1).length j2))
          (first | with_reducible exact ⟨HXc.out.cells, HAc.out.cells, HCc.out.cells⟩ | with_reducible exact ⟨HXb.out.cells, HAb.out.cells, HCb.out.cells⟩ | with_reducible exact ⟨HXa.out.cells, HAa.out.cells, HCa.out.cells⟩ | exact ⟨HXZ.out.cells, HZA.out.cells, HZB.out.cells⟩)
          (first
            | (go_at_call 64; (with_reducible refine (HS1.out _ HZZ.out.drew).mono ?_); rintro e ya ⟨ra, rfl, hfa, hba0⟩; have hba := Below.undrew hba0; have HYa := Lib.hid hba; have HFa := Lib.hid hfa; obtain ⟨va1, va2, rfl, -, -⟩ := hfa; have hza := hba.size; have HXa := Lib.hid (HXZ.out.on hba HXZ.out.lt); have HAa := Lib.hid (HZA.out.on hba HZA.out.lt); have HCa := Lib.hid (HZB.out.on hba HZB.out.lt); clear hba0 hba)
            | (go_at_call 64; (with_reducible refine (HS2.out _ HYa.out).mono ?_); rintro e yb ⟨rb, rfl, hfb, hbb⟩; have HYb := Lib.hid (below_join HYa.out hbb HYa.out.size); have HFb := Lib.hid hfb; have HFa2 := Lib.hid (HFa.out.on hbb); obtain ⟨vb1, vb2, rfl, -, -⟩ := hfb; have hzb := hbb.size; have HXb := Lib.hid (HXa.out.on hbb HXa.out.lt); have HAb := Lib.hid (HAa.out.on hbb HAa.out.lt); have HCb := Lib.hid (HCa.out.on hbb HCa.out.lt); clear hbb)
            | (go_at_call 71; (with_reducible refine (HO2.out _ _ _ HFa2.out HFb.out).mono ?_); rintro e yc ⟨rfl, hbc⟩; have HYc := Lib.hid (below_join HYb.out hbc HYb.out.size); have hzc := hbc.size; have HXc := Lib.hid (HXb.out.on hbc HXb.out.lt); have HAc := Lib.hid (HAb.out.on hbc HAb.out.lt); have HCc := Lib.hid (HCb.out.on hbc HCb.out.lt); clear hbc))
        have HRc := Lib.hid (HRZ.out.on HYc.out (Array.getElem?_eq_some_iff.1 HRZ.out).1)
        have HFLc := Lib.hid (HFL.out.on HYc.out)
        have HFHc := Lib.hid (HFH.out.on HYc.out)
        have HBc := Lib.hid (below_join HBZ.out HYc.out HBZ.out.size)
        clear x0 x1 x2 c10 c11 c12 c20 c21 c22
        obtain ⟨c10, c11, c12⟩ := HAc.out.cells
        obtain ⟨c20, c21, c22⟩ := HCc.out.cells
        obtain ⟨e0, e1, e2⟩ := three_cells HRc.out
        obtain ⟨f0, f1, f2⟩ := three_frozen HRc.out
        go_wp2_with (fail)
      · have hre : r = (sl, P1, Q1) := (HR1p.out).symm.trans (if_pos (by omega : (0 : Int) < o2))
        rw [hre]
        obtain ⟨z1, z2, hze, g1, g2⟩ := HFHc.out
        injection hze with hze
        injection hze with hze
        injection hze with _ hze
        injection hze with hz1' hze
        injection hze with hz2' _
        rw [← hz1'] at g1
        rw [← hz2'] at g2
        refine ret3t (b := w.heap.size + 1) rfl rfl rfl rfl (row_store3 HRc.out _ _ _) ⟨_, _, rfl, below_store3 HBc.out (by omega) _ _ _, fun h => absurd h (by simp), fun s' n' d' h => ?_⟩
        injection h with h
        injection h with h1 h
        injection h with h2 h3
        subst h1 h2 h3
        exact ⟨⟨_, _, rfl, natSl_storeZ g1 HRc.out _ _ _, natSl_storeZ g2 HRc.out _ _ _⟩, rfl⟩
      · have hre : r = (sh, P2, Q2) := (HR1p.out).symm.trans (if_neg (by omega : ¬ (0 : Int) < o2))
        rw [hre]
        obtain ⟨z1, z2, hze, g1, g2⟩ := HFLc.out
        injection hze with hze
        injection hze with hze
        injection hze with _ hze
        injection hze with hz1' hze
        injection hze with hz2' _
        rw [← hz1'] at g1
        rw [← hz2'] at g2
        refine ret3t (b := w.heap.size + 1) rfl rfl rfl rfl (row_store3 HRc.out _ _ _) ⟨_, _, rfl, below_store3 HBc.out (by omega) _ _ _, fun h => absurd h (by simp), fun s' n' d' h => ?_⟩
        injection h with h
        injection h with h1 h
        injection h with h2 h3
        subst h1 h2 h3
        exact ⟨⟨_, _, rfl, natSl_storeZ g1 HRc.out _ _ _, natSl_storeZ g2 HRc.out _ _ _⟩, rfl⟩
    · have HR1p := Lib.hid (show _ = r from (if_neg hsw).symm.trans HRR.out)
      go_wp2_with (fail)
      refine HOR.out.mono ?_
      rintro e w9 ⟨rfl, hb9⟩
      have hz9 := hb9.size
      have hzw8 : w.heap.size + 1 < W8.heap.size := by omega
      clear c10 c11 c12 c20 c21 c22
      obtain ⟨c10, c11, c12⟩ := (HRA.out.on hb9 HRA.out.lt).cells
      obtain ⟨c20, c21, c22⟩ := (HRB.out.on hb9 HRB.out.lt).cells
      obtain ⟨f10, f11, f12⟩ := (HRA.out.on hb9 HRA.out.lt).frozen
      obtain ⟨f20, f21, f22⟩ := (HRB.out.on hb9 HRB.out.lt).frozen
      have HB9 := Lib.hid hb9
      clear hb9
      go_wp2_with (fail)
      obtain ⟨Z, hZ⟩ : ∃ Z, Z = w9 := ⟨_, rfl⟩
      have ra := HRA.out.on HB9.out HRA.out.lt
      have rb := HRB.out.on HB9.out HRB.out.lt
      have up : ∀ {v : Value} {t : Nat}, NatSl V (fun i => i < V.heap.size) v (nat t) → NatSl Z (fun i => i < Z.heap.size) v (nat t) := fun h => by
        rw [hZ]
        exact NatSl.below h HB9.out (fun i hi => ⟨hi, Nat.lt_of_lt_of_le hi HB9.out.size⟩)
      have HZA := Lib.hid (show Rt Z w7.heap.size sl (.slice E1 (nat P1).length j1) (.slice E2 (nat Q1).length j2) by rw [hZ]; exact ra)
      have HZB := Lib.hid (show Rt Z (w7.heap.size + 1) sh (.slice E3 (nat P2).length j3) (.slice E4 (nat Q2).length j4) by rw [hZ]; exact rb)
      have HXZ := Lib.hid (show Rt Z w.heap.size s (.slice A1 (nat m).length c1) (.slice A2 (nat n).length c2) by rw [hZ]; exact HXV.out.on HB9.out HXV.out.lt)
      have HRZ := Lib.hid (show ResZ (w.heap.size + 1) Z by rw [hZ]; exact HRV.out.on HB9.out (by omega))
      have HBZ := Lib.hid (show Below w.heap.size w Z by rw [hZ]; exact below_join HBV.out HB9.out HBV.out.size)
      have hzZ : w7.heap.size + 1 < Z.heap.size := HZB.out.lt
      have hzZ9 : V.heap.size ≤ Z.heap.size := by rw [hZ]; exact hz9
      have HFL := Lib.hid (show Fr Z (.agg #[.bool sl, .slice E1 (nat P1).length j1, .slice E2 (nat Q1).length j2]) sl P1 Q1 from ⟨_, _, rfl, up HN1.out, up HN2.out⟩)
      have HFH := Lib.hid (show Fr Z (.agg #[.bool sh, .slice E3 (nat P2).length j3, .slice E4 (nat Q2).length j4]) sh P2 Q2 from ⟨_, _, rfl, up HN3.out, up HN4'.out⟩)
      have HFX := Lib.hid (show Fr Z (.agg #[.bool s, .slice A1 (nat m).length c1, .slice A2 (nat n).length c2]) s m n from HXW.out.on HBZ.out)
      try rw [← hZ]
      clear hZ ra rb up c10 c11 c12 c20 c21 c22 f10 f11 f12 f20 f21 f22
      have HS1 := Lib.hid (fun (X : World) (hX : Below Z.heap.size Z X) => c_sum s s m m n n (by omega) (by omega) (by omega) (by omega) (.agg #[.bool s, .slice A1 (nat m).length c1, .slice A2 (nat n).length c2]) (.agg #[.bool s, .slice A1 (nat m).length c1, .slice A2 (nat n).length c2]) X (HFX.out.on hX) (HFX.out.on hX))
      have HS2 := Lib.hid (fun (X : World) (hX : Below Z.heap.size Z X) => c_sum sl sh P1 P2 Q1 Q2 (by omega) (by omega) (by omega) (by omega) (.agg #[.bool sl, .slice E1 (nat P1).length j1, .slice E2 (nat Q1).length j2]) (.agg #[.bool sh, .slice E3 (nat P2).length j3, .slice E4 (nat Q2).length j4]) X (HFL.out.on hX) (HFH.out.on hX))
      have lx := sumP_len s m n s m n 64 (by omega) (by omega)
      have ll := sumP_len sl P1 Q1 sh P2 Q2 200 (by omega) (by omega)
      have lnn := mul_len n n
      have lqq := mul_len Q1 Q2
      generalize hXs : sumP s m n s m n = Xs at *
      generalize hLs : sumP sl P1 Q1 sh P2 Q2 = Ls at *
      have HO2 := Lib.hid (fun (X : World) (v u : Value) (hv : Fr X v Xs.1 Xs.2 (n * n)) (hu : Fr X u Ls.1 Ls.2 (Q1 * Q2)) => c_order Xs.1 Ls.1 Xs.2 Ls.2 (n * n) (Q1 * Q2) (by omega) (by omega) (by omega) (by omega) v u X hv hu)
      generalize ho2 : ordP (sumP Xs.1 Xs.2 (n * n) (negP Ls.1 true Ls.2) Ls.2 (Q1 * Q2)) = o2 at *
      clear ho2 hXs hLs lx ll lnn lqq
      have HZZ := Lib.hid (Below.refl Z.heap.size Z)
      obtain ⟨x0, x1, x2⟩ := HXZ.out.cells
      obtain ⟨c10, c11, c12⟩ := HZA.out.cells
      obtain ⟨c20, c21, c22⟩ := HZB.out.cells
      by_cases hfi : (0 : Int) < o2
      all_goals
        go_region_held3 (fun Y => (Y.cell? ⟨w.heap.size, 0, none⟩ = some (.bool s) ∧ Y.cell? ⟨w.heap.size, 1, none⟩ = some (.slice A1 (nat m).length c1) ∧ Y.cell? ⟨w.heap.size, 2, none⟩ = some (.slice A2 (nat n).length c2)) ∧ (Y.cell? ⟨w7.heap.size, 0, none⟩ = some (.bool sl) ∧ Y.cell? ⟨w7.heap.size, 1, none⟩ = some (.slice E1 (nat P1).length j1) ∧ Y.cell? ⟨w7.heap.size, 2, none⟩ = some (.slice E2 (nat Q1).length j2)) ∧ Y.cell? ⟨w7.heap.size + 1, 0, none⟩ = some (.bool sh) ∧ Y.cell? ⟨w7.heap.size + 1, 1, none⟩ = some (.slice E3 (nat P2).length j3) ∧ Y.cell? ⟨w7.heap.size + 1, 2, none⟩ = some (.slice E4 (nat Q2).length j4))
          (first | with_reducible exact ⟨HXc.out.cells, HAc.out.cells, HCc.out.cells⟩ | with_reducible exact ⟨HXb.out.cells, HAb.out.cells, HCb.out.cells⟩ | with_reducible exact ⟨HXa.out.cells, HAa.out.cells, HCa.out.cells⟩ | exact ⟨HXZ.out.cells, HZA.out.cells, HZB.out.cells⟩)
          (first
            | (go_at_call 64; (with_reducible refine (HS1.out _ HZZ.out.drew).mono ?_); rintro e ya ⟨ra, rfl, hfa, hba0⟩; have hba := Below.undrew hba0; have HYa := Lib.hid hba; have HFa := Lib.hid hfa; obtain ⟨va1, va2, rfl, -, -⟩ := hfa; have hza := hba.size; have HXa := Lib.hid (HXZ.out.on hba HXZ.out.lt); have HAa := Lib.hid (HZA.out.on hba HZA.out.lt); have HCa := Lib.hid (HZB.out.on hba HZB.out.lt); clear hba0 hba)
            | (go_at_call 64; (with_reducible refine (HS2.out _ HYa.out).mono ?_); rintro e yb ⟨rb, rfl, hfb, hbb⟩; have HYb := Lib.hid (below_join HYa.out hbb HYa.out.size); have HFb := Lib.hid hfb; have HFa2 := Lib.hid (HFa.out.on hbb); obtain ⟨vb1, vb2, rfl, -, -⟩ := hfb; have hzb := hbb.size; have HXb := Lib.hid (HXa.out.on hbb HXa.out.lt); have HAb := Lib.hid (HAa.out.on hbb HAa.out.lt); have HCb := Lib.hid (HCa.out.on hbb HCa.out.lt); clear hbb)
            | (go_at_call 71; (with_reducible refine (HO2.out _ _ _ HFa2.out HFb.out).mono ?_); rintro e yc ⟨rfl, hbc⟩; have HYc := Lib.hid (below_join HYb.out hbc HYb.out.size); have hzc := hbc.size; have HXc := Lib.hid (HXb.out.on hbc HXb.out.lt); have HAc := Lib.hid (HAb.out.on hbc HAb.out.lt); have HCc := Lib.hid (HCb.out.on hbc HCb.out.lt); clear hbc))
        have HRc := Lib.hid (HRZ.out.on HYc.out (Array.getElem?_eq_some_iff.1 HRZ.out).1)
        have HFLc := Lib.hid (HFL.out.on HYc.out)
        have HFHc := Lib.hid (HFH.out.on HYc.out)
        have HBc := Lib.hid (below_join HBZ.out HYc.out HBZ.out.size)
        clear x0 x1 x2 c10 c11 c12 c20 c21 c22
        obtain ⟨c10, c11, c12⟩ := HAc.out.cells
        obtain ⟨c20, c21, c22⟩ := HCc.out.cells
        obtain ⟨e0, e1, e2⟩ := three_cells HRc.out
        obtain ⟨f0, f1, f2⟩ := three_frozen HRc.out
        go_wp2_with (fail)
      · have hre : r = (sh, P2, Q2) := (HR1p.out).symm.trans (if_pos (by omega : (0 : Int) < o2))
        rw [hre]
        obtain ⟨z1, z2, hze, g1, g2⟩ := HFHc.out
        injection hze with hze
        injection hze with hze
        injection hze with _ hze
        injection hze with hz1' hze
        injection hze with hz2' _
        rw [← hz1'] at g1
        rw [← hz2'] at g2
        refine ret3t (b := w.heap.size + 1) rfl rfl rfl rfl (row_store3 HRc.out _ _ _) ⟨_, _, rfl, below_store3 HBc.out (by omega) _ _ _, fun h => absurd h (by simp), fun s' n' d' h => ?_⟩
        injection h with h
        injection h with h1 h
        injection h with h2 h3
        subst h1 h2 h3
        exact ⟨⟨_, _, rfl, natSl_storeZ g1 HRc.out _ _ _, natSl_storeZ g2 HRc.out _ _ _⟩, rfl⟩
      · have hre : r = (sl, P1, Q1) := (HR1p.out).symm.trans (if_neg (by omega : ¬ (0 : Int) < o2))
        rw [hre]
        obtain ⟨z1, z2, hze, g1, g2⟩ := HFLc.out
        injection hze with hze
        injection hze with hze
        injection hze with _ hze
        injection hze with hz1' hze
        injection hze with hz2' _
        rw [← hz1'] at g1
        rw [← hz2'] at g2
        refine ret3t (b := w.heap.size + 1) rfl rfl rfl rfl (row_store3 HRc.out _ _ _) ⟨_, _, rfl, below_store3 HBc.out (by omega) _ _ _, fun h => absurd h (by simp), fun s' n' d' h => ?_⟩
        injection h with h
        injection h with h1 h
        injection h with h2 h3
        subst h1 h2 h3
        exact ⟨⟨_, _, rfl, natSl_storeZ g1 HRc.out _ _ _, natSl_storeZ g2 HRc.out _ _ _⟩, rfl⟩
end Go.Proofs.YtfdkdloldjfnjaaGreatDoor

/- DERIVED. Nearest of a valid fraction, with around's contract joined. -/
namespace Go.Proofs.YtfdkdloldjfnjaaGreatDoor
open Go.RowKit Go.Shelf
set_option maxRecDepth 100000

theorem valid_facts {s : Bool} {m n : Nat} (hv : validB s (nat m) (nat n) = true) : (nat m).length ≤ 32 ∧ (nat n).length ≤ 32 ∧ 0 < n ∧ Nat.gcd m n = 1 := by
  unfold validB vnB at hv
  simp only [Bool.and_eq_true, decide_eq_true_eq, val_nat] at hv
  exact ⟨by omega, by omega, nat_len_pos.1 hv.2.2.1, hv.2.2.2.1⟩

theorem near_lens {m n M : Nat} (k1 : (nat m).length ≤ 32) (k2 : (nat n).length ≤ 32) (hn : 0 < n) (hM : 1 ≤ M) (hM2 : M ≤ 1000) (hg : Nat.gcd m n = 1) :
    (nat (arS M m n).p1).length ≤ 100 ∧ (nat (arS M m n).q1).length ≤ 100 ∧ (nat ((arS M m n).p0 + arK M m n * (arS M m n).p1)).length ≤ 100 ∧ (nat ((arS M m n).q0 + arK M m n * (arS M m n).q1)).length ≤ 100 := by
  have b1 := nat_len_le.1 k1
  have b2 := nat_len_le.1 k2
  have hB : 1 ≤ BB ^ 32 := Nat.pow_pos (by unfold BB; omega)
  obtain ⟨c1, c2, c3, c4⟩ := arS_le (M := M) hn hB (Nat.le_of_lt b1) (Nat.le_of_lt b2)
  have hk : arK M m n ≤ 1000 := Nat.le_trans (Nat.le_trans (Nat.div_le_self _ _) (Nat.sub_le _ _)) hM2
  have e1 : arK M m n * (arS M m n).p1 ≤ 1000 * BB ^ 32 := Nat.mul_le_mul hk c3
  have e2 : arK M m n * (arS M m n).q1 ≤ 1000 * BB ^ 32 := Nat.mul_le_mul hk c4
  have h33 : BB ^ 100 = BB ^ 32 * BB ^ 68 := by rw [← Nat.pow_add]
  have h68 : 2000 ≤ BB ^ 68 := Nat.le_trans (show 2000 ≤ BB ^ 1 by unfold BB; omega) (Nat.pow_le_pow_right (by unfold BB; omega) (by omega))
  have hmul : BB ^ 32 * 2000 ≤ BB ^ 32 * BB ^ 68 := Nat.mul_le_mul_left _ h68
  rw [← h33] at hmul
  refine ⟨nat_len_le.2 ?_, nat_len_le.2 ?_, nat_len_le.2 ?_, nat_len_le.2 ?_⟩ <;> generalize BB ^ 32 = B at * <;> generalize BB ^ 100 = C at * <;> omega

/-- Nearest's answer at a valid fraction. -/
theorem c_NearestJ (s : Bool) (m n den : Nat) (hd1 : 1 ≤ den) (hd2 : den ≤ 1000) (x : Value) (w : World) (ht : Tz w) (hx : Fr w x s m n) (hv : validB s (nat m) (nat n) = true) :
    Calls Tryz.prog 40 #[x, .int .i64 den] w (ResPost (some (nearP s m n (arS den m n).p1 (arS den m n).q1 ((arS den m n).p0 + arK den m n * (arS den m n).p1) ((arS den m n).q0 + arK den m n * (arS den m n).q1))) 0 w) := by
  obtain ⟨k1, k2, hn, hg⟩ := valid_facts hv
  obtain ⟨l1, l2, l3, l4⟩ := near_lens k1 k2 hn hd1 hd2 hg
  have k3 : (nat den).length ≤ 32 := nat_len_le.2 (Nat.lt_of_lt_of_le (show den < BB ^ 1 by unfold BB; omega) (Nat.pow_le_pow_right (by unfold BB; omega) (by omega)))
  exact c_NearestV s m n k1 k2 den hd1 hd2 _ _ _ _ l1 l2 l3 l4 (fun X y vm hy hm => c_around m n den k1 k2 k3 hn hd1 hg y vm X hy hm) x w ht hx hv _ rfl

end Go.Proofs.YtfdkdloldjfnjaaGreatDoor
