/-
  DERIVED. combined.
-/
import Derived.Test.YtfdkdloldjfnjaaGreatDoorYMXm
set_option linter.unusedVariables false
set_option linter.unusedSimpArgs false
namespace Go.Proofs.YtfdkdloldjfnjaaGreatDoor
open Go.RowKit
set_option maxRecDepth 100000

/-- A fraction as it comes in: its limbs may be anything. -/
def Fr0 (w : World) (v : Value) (s : Bool) (a b : List Nat) : Prop := ∃ va vb, v = .agg #[.bool s, va, vb] ∧ NatSl w (fun i => i < w.heap.size) va a ∧ NatSl w (fun i => i < w.heap.size) vb b ∧ Lb a ∧ Lb b ∧ a.length ≤ 100000 ∧ b.length ≤ 100000
theorem Fr0.on {w w' : World} {v : Value} {s : Bool} {a b : List Nat} (h : Fr0 w v s a b) (hb : Below w.heap.size w w') : Fr0 w' v s a b := by
  obtain ⟨va, vb, rfl, h1, h2, h3⟩ := h
  exact ⟨va, vb, rfl, h1.below hb (fun i hi => ⟨hi, Nat.lt_of_lt_of_le hi hb.size⟩), h2.below hb (fun i hi => ⟨hi, Nat.lt_of_lt_of_le hi hb.size⟩), h3⟩
theorem Fr0.shape {w : World} {v : Value} {s : Bool} {a b : List Nat} (h : Fr0 w v s a b) : ∃ A1 c1 A2 c2, v = .agg #[.bool s, .slice A1 a.length c1, .slice A2 b.length c2] := by
  obtain ⟨va, vb, rfl, h1, h2, -⟩ := h
  obtain ⟨A1, c1, rfl⟩ := h1.shape
  obtain ⟨A2, c2, rfl⟩ := h2.shape
  exact ⟨A1, c1, A2, c2, rfl⟩
theorem c_ValidF {w : World} {v : Value} {s : Bool} {a b : List Nat} (h : Fr0 w v s a b) (bv : Bool) (hbv : validB s a b = bv) (ht : Tz w) : Calls Tryz.prog 18 #[v] w fun e w' => e = .returned (.bool bv) ∧ Below w.heap.size w w' := by
  obtain ⟨va, vb, rfl, h1, h2, h3, h4, h5, h6⟩ := h
  exact c_Valid s a b h3 h4 h5 h6 bv hbv va vb _ _ w ht h1 h2

set_option maxHeartbeats 1000000 in
theorem c_combined_sum (s t : Bool) (a b c d : List Nat) (x y : Value) (w : World) (ht : Tz w) (hx : Fr0 w x s a b) (hy : Fr0 w y t c d) (q : Bool) (m n : Nat) (hn0 : 0 < n) (hml : (nat m).length ≤ 100000) (hnl : (nat n).length ≤ 100000) (p1 p2 : Bool) (hp1 : validB s a b = p1) (hp2 : validB t c d = p2)
    (hop : p1 = true → p2 = true → ∀ X, Below w.heap.size w X → Calls Tryz.prog 64 #[x, y] X (FrPost q m n X))
    (R : Option (Bool × Nat × Nat)) (Z : Int) (hRt : p1 = true → p2 = true → R = redP q m n ∧ Z = 3) (hRf : (p1 && p2) = false → R = none ∧ Z = 1) :
    Calls Tryz.prog 63 #[x, y, .func (.func 64) #[] #[]] w (ResPost R Z w) := by
  have HRt := Lib.hid hRt
  have HRf := Lib.hid hRf
  have HT := Lib.hid ht
  have HX := Lib.hid hx
  have HY := Lib.hid hy
  have HO := Lib.hid hop
  have HV1 := Lib.hid (fun (X : World) (hX : Below w.heap.size w X) => c_ValidF (hx.on hX) p1 hp1 (ht.heap (hX.block _ ht.lt)))
  have HV2 := Lib.hid (fun (X : World) (hX : Below w.heap.size w X) => c_ValidF (hy.on hX) p2 hp2 (ht.heap (hX.block _ ht.lt)))
  obtain ⟨A1, c1, A2, c2, rfl⟩ := hx.shape
  obtain ⟨A3, c3, A4, c4, rfl⟩ := hy.shape
  clear hx hy ht hop hp1 hp2 hRt hRf
  obtain ⟨W, hW⟩ : ∃ W, W = ((w.alloc (.cells #[.bool s, .slice A1 a.length c1, .slice A2 b.length c2] 25)).alloc (.cells #[.bool t, .slice A3 c.length c3, .slice A4 d.length c4] 25)).alloc (.cells #[.bool false, .slice none 0 0, .slice none 0 0] 25) := ⟨_, rfl⟩
  have S0 := six_new w s (.slice A1 a.length c1) (.slice A2 b.length c2) t (.slice A3 c.length c3) (.slice A4 d.length c4) (.cells #[.bool false, .slice none 0 0, .slice none 0 0] 25)
  have R0 := resz_new w (.cells #[.bool s, .slice A1 a.length c1, .slice A2 b.length c2] 25) (.cells #[.bool t, .slice A3 c.length c3, .slice A4 d.length c4] 25)
  rw [← hW] at S0 R0
  have B0 : Below w.heap.size w W := by subst hW; exact (((Below.refl _ _).alloc (Nat.le_refl _) _).alloc (by simp) _).alloc (by simp; omega) _
  have hz : w.heap.size + 2 < W.heap.size := by subst hW; simp
  have HS0 := Lib.hid S0
  have HR0 := Lib.hid R0
  have HB0 := Lib.hid B0
  clear S0 R0 B0
  cases p1 with
  | false =>
    go_enter Tryz.func63, Tryz.ntmps63
    go_wp2_with (fail)
    rw [← hW]
    clear hW
    refine (HV1.out _ HB0.out).mono ?_
    rintro e w1 ⟨rfl, hb1⟩
    have r1 := HR0.out.on hb1 hz
    have HR1 := Lib.hid r1
    have HB1 := Lib.hid (below_join HB0.out hb1 HB0.out.size)
    obtain ⟨e0, e1, e2⟩ := three_cells r1
    obtain ⟨f0, f1, f2⟩ := three_frozen r1
    clear r1
    go_wp2_with (fail)
    exact ret3t (b := w.heap.size + 1 + 1) rfl rfl rfl rfl (row_store3 HR1.out _ _ _) ⟨_, _, rfl, below_store3 HB1.out (by omega) _ _ _, fun _ => ⟨rfl, (HRf.out (by trivial)).2.symm⟩, fun _ _ _ h => absurd ((HRf.out (by trivial)).1.symm.trans h) (by simp)⟩
  | true =>
    cases p2 with
    | false =>
      go_enter Tryz.func63, Tryz.ntmps63
      go_wp2_with (fail)
      rw [← hW]
      clear hW
      refine (HV1.out _ HB0.out).mono ?_
      rintro e w1 ⟨rfl, hb1⟩
      have hz1 := hb1.size
      have HR1 := Lib.hid (HR0.out.on hb1 hz)
      have HS1 := Lib.hid (HS0.out.on hb1 hz)
      have HB1 := Lib.hid (below_join HB0.out hb1 HB0.out.size)
      obtain ⟨x0, x1, x2, y0, y1, y2⟩ := HS1.out
      clear hb1
      go_wp2_with (fail)
      refine (HV2.out _ HB1.out).mono ?_
      rintro e w2 ⟨rfl, hb2⟩
      have r2 := HR1.out.on hb2 (by omega)
      have HR2 := Lib.hid r2
      have HB2 := Lib.hid (below_join HB1.out hb2 HB1.out.size)
      obtain ⟨e0, e1, e2⟩ := three_cells r2
      obtain ⟨f0, f1, f2⟩ := three_frozen r2
      clear r2 hb2
      go_wp2_with (fail)
      exact ret3t (b := w.heap.size + 1 + 1) rfl rfl rfl rfl (row_store3 HR2.out _ _ _) ⟨_, _, rfl, below_store3 HB2.out (by omega) _ _ _, fun _ => ⟨rfl, (HRf.out (by trivial)).2.symm⟩, fun _ _ _ h => absurd ((HRf.out (by trivial)).1.symm.trans h) (by simp)⟩
    | true =>
      go_enter Tryz.func63, Tryz.ntmps63
      go_wp2_with (fail)
      rw [← hW]
      clear hW
      refine (HV1.out _ HB0.out).mono ?_
      rintro e w1 ⟨rfl, hb1⟩
      have hz1 := hb1.size
      have HR1 := Lib.hid (HR0.out.on hb1 hz)
      have HS1 := Lib.hid (HS0.out.on hb1 hz)
      have HB1 := Lib.hid (below_join HB0.out hb1 HB0.out.size)
      obtain ⟨x0, x1, x2, y0, y1, y2⟩ := HS1.out
      clear hb1
      go_wp2_with (fail)
      refine (HV2.out _ HB1.out).mono ?_
      rintro e w2 ⟨rfl, hb2⟩
      have hz2 := hb2.size
      have HR2 := Lib.hid (HR1.out.on hb2 (by omega))
      have HS2 := Lib.hid (HS1.out.on hb2 (by omega))
      have HB2 := Lib.hid (below_join HB1.out hb2 HB1.out.size)
      clear x0 x1 x2 y0 y1 y2
      obtain ⟨x0, x1, x2, y0, y1, y2⟩ := HS2.out
      clear hb2
      go_wp2_with (fail)
      go_at_call 64
      refine (HO.out (by trivial) (by trivial) _ HB2.out).mono ?_
      rintro e w3 ⟨r3, rfl, h3, hb3⟩
      have hz3 := hb3.size
      have HR3 := Lib.hid (HR2.out.on hb3 (by omega))
      have HB3 := Lib.hid (below_join HB2.out hb3 HB2.out.size)
      have H3 := Lib.hid h3
      clear hb3 h3
      go_wp2_with (fail)
      refine (c_reduced q m n hn0 hml hnl _ _ (HT.out.heap (HB3.out.block _ HT.out.lt)) H3.out).mono ?_
      rintro e w4 ⟨v4, y4, rfl, hb4, hno, hso⟩
      have r4 := HR3.out.on hb4 (by omega)
      have HR4 := Lib.hid r4
      have HB4 := Lib.hid (below_join HB3.out hb4 HB3.out.size)
      obtain ⟨e0, e1, e2⟩ := three_cells r4
      obtain ⟨f0, f1, f2⟩ := three_frozen r4
      clear r4 hb4
      obtain ⟨hR1, hZ1⟩ := HRt.out (by trivial) (by trivial)
      rw [← hR1] at hno hso
      subst hZ1
      have HNO := Lib.hid hno
      have HSO := Lib.hid hso
      clear hR1 hno hso
      cases R with
      | none =>
        obtain ⟨rfl, rfl⟩ := HNO.out rfl
        unfold zeroR
        go_wp2_with (fail)
        exact ret3t (b := w.heap.size + 1 + 1) rfl rfl rfl rfl (row_store3 HR4.out _ _ _) ⟨_, _, rfl, below_store3 HB4.out (by omega) _ _ _, fun _ => ⟨rfl, rfl⟩, fun _ _ _ h => absurd h (by simp)⟩
      | some z =>
        obtain ⟨sz, nz, dz⟩ := z
        obtain ⟨⟨z1, z2, rfl, g1, g2⟩, rfl⟩ := HSO.out sz nz dz rfl
        obtain ⟨A5, c5, rfl⟩ := g1.shape
        obtain ⟨A6, c6, rfl⟩ := g2.shape
        have G1 := Lib.hid g1
        have G2 := Lib.hid g2
        clear g1 g2
        go_wp2_with (fail)
        refine ret3t (b := w.heap.size + 1 + 1) rfl rfl rfl rfl (row_store3 HR4.out _ _ _) ⟨_, _, rfl, below_store3 HB4.out (by omega) _ _ _, fun h => absurd h (by simp), fun s' n' d' h => ?_⟩
        injection h with h
        injection h with h1 h
        injection h with h2 h3
        subst h1 h2 h3
        exact ⟨⟨_, _, rfl, natSl_storeZ G1.out HR4.out _ _ _, natSl_storeZ G2.out HR4.out _ _ _⟩, rfl⟩

set_option maxHeartbeats 1000000 in
theorem c_combined_difference (s t : Bool) (a b c d : List Nat) (x y : Value) (w : World) (ht : Tz w) (hx : Fr0 w x s a b) (hy : Fr0 w y t c d) (q : Bool) (m n : Nat) (hn0 : 0 < n) (hml : (nat m).length ≤ 100000) (hnl : (nat n).length ≤ 100000) (p1 p2 : Bool) (hp1 : validB s a b = p1) (hp2 : validB t c d = p2)
    (hop : p1 = true → p2 = true → ∀ X, Below w.heap.size w X → Calls Tryz.prog 65 #[x, y] X (FrPost q m n X))
    (R : Option (Bool × Nat × Nat)) (Z : Int) (hRt : p1 = true → p2 = true → R = redP q m n ∧ Z = 3) (hRf : (p1 && p2) = false → R = none ∧ Z = 1) :
    Calls Tryz.prog 63 #[x, y, .func (.func 65) #[] #[]] w (ResPost R Z w) := by
  have HRt := Lib.hid hRt
  have HRf := Lib.hid hRf
  have HT := Lib.hid ht
  have HX := Lib.hid hx
  have HY := Lib.hid hy
  have HO := Lib.hid hop
  have HV1 := Lib.hid (fun (X : World) (hX : Below w.heap.size w X) => c_ValidF (hx.on hX) p1 hp1 (ht.heap (hX.block _ ht.lt)))
  have HV2 := Lib.hid (fun (X : World) (hX : Below w.heap.size w X) => c_ValidF (hy.on hX) p2 hp2 (ht.heap (hX.block _ ht.lt)))
  obtain ⟨A1, c1, A2, c2, rfl⟩ := hx.shape
  obtain ⟨A3, c3, A4, c4, rfl⟩ := hy.shape
  clear hx hy ht hop hp1 hp2 hRt hRf
  obtain ⟨W, hW⟩ : ∃ W, W = ((w.alloc (.cells #[.bool s, .slice A1 a.length c1, .slice A2 b.length c2] 25)).alloc (.cells #[.bool t, .slice A3 c.length c3, .slice A4 d.length c4] 25)).alloc (.cells #[.bool false, .slice none 0 0, .slice none 0 0] 25) := ⟨_, rfl⟩
  have S0 := six_new w s (.slice A1 a.length c1) (.slice A2 b.length c2) t (.slice A3 c.length c3) (.slice A4 d.length c4) (.cells #[.bool false, .slice none 0 0, .slice none 0 0] 25)
  have R0 := resz_new w (.cells #[.bool s, .slice A1 a.length c1, .slice A2 b.length c2] 25) (.cells #[.bool t, .slice A3 c.length c3, .slice A4 d.length c4] 25)
  rw [← hW] at S0 R0
  have B0 : Below w.heap.size w W := by subst hW; exact (((Below.refl _ _).alloc (Nat.le_refl _) _).alloc (by simp) _).alloc (by simp; omega) _
  have hz : w.heap.size + 2 < W.heap.size := by subst hW; simp
  have HS0 := Lib.hid S0
  have HR0 := Lib.hid R0
  have HB0 := Lib.hid B0
  clear S0 R0 B0
  cases p1 with
  | false =>
    go_enter Tryz.func63, Tryz.ntmps63
    go_wp2_with (fail)
    rw [← hW]
    clear hW
    refine (HV1.out _ HB0.out).mono ?_
    rintro e w1 ⟨rfl, hb1⟩
    have r1 := HR0.out.on hb1 hz
    have HR1 := Lib.hid r1
    have HB1 := Lib.hid (below_join HB0.out hb1 HB0.out.size)
    obtain ⟨e0, e1, e2⟩ := three_cells r1
    obtain ⟨f0, f1, f2⟩ := three_frozen r1
    clear r1
    go_wp2_with (fail)
    exact ret3t (b := w.heap.size + 1 + 1) rfl rfl rfl rfl (row_store3 HR1.out _ _ _) ⟨_, _, rfl, below_store3 HB1.out (by omega) _ _ _, fun _ => ⟨rfl, (HRf.out (by trivial)).2.symm⟩, fun _ _ _ h => absurd ((HRf.out (by trivial)).1.symm.trans h) (by simp)⟩
  | true =>
    cases p2 with
    | false =>
      go_enter Tryz.func63, Tryz.ntmps63
      go_wp2_with (fail)
      rw [← hW]
      clear hW
      refine (HV1.out _ HB0.out).mono ?_
      rintro e w1 ⟨rfl, hb1⟩
      have hz1 := hb1.size
      have HR1 := Lib.hid (HR0.out.on hb1 hz)
      have HS1 := Lib.hid (HS0.out.on hb1 hz)
      have HB1 := Lib.hid (below_join HB0.out hb1 HB0.out.size)
      obtain ⟨x0, x1, x2, y0, y1, y2⟩ := HS1.out
      clear hb1
      go_wp2_with (fail)
      refine (HV2.out _ HB1.out).mono ?_
      rintro e w2 ⟨rfl, hb2⟩
      have r2 := HR1.out.on hb2 (by omega)
      have HR2 := Lib.hid r2
      have HB2 := Lib.hid (below_join HB1.out hb2 HB1.out.size)
      obtain ⟨e0, e1, e2⟩ := three_cells r2
      obtain ⟨f0, f1, f2⟩ := three_frozen r2
      clear r2 hb2
      go_wp2_with (fail)
      exact ret3t (b := w.heap.size + 1 + 1) rfl rfl rfl rfl (row_store3 HR2.out _ _ _) ⟨_, _, rfl, below_store3 HB2.out (by omega) _ _ _, fun _ => ⟨rfl, (HRf.out (by trivial)).2.symm⟩, fun _ _ _ h => absurd ((HRf.out (by trivial)).1.symm.trans h) (by simp)⟩
    | true =>
      go_enter Tryz.func63, Tryz.ntmps63
      go_wp2_with (fail)
      rw [← hW]
      clear hW
      refine (HV1.out _ HB0.out).mono ?_
      rintro e w1 ⟨rfl, hb1⟩
      have hz1 := hb1.size
      have HR1 := Lib.hid (HR0.out.on hb1 hz)
      have HS1 := Lib.hid (HS0.out.on hb1 hz)
      have HB1 := Lib.hid (below_join HB0.out hb1 HB0.out.size)
      obtain ⟨x0, x1, x2, y0, y1, y2⟩ := HS1.out
      clear hb1
      go_wp2_with (fail)
      refine (HV2.out _ HB1.out).mono ?_
      rintro e w2 ⟨rfl, hb2⟩
      have hz2 := hb2.size
      have HR2 := Lib.hid (HR1.out.on hb2 (by omega))
      have HS2 := Lib.hid (HS1.out.on hb2 (by omega))
      have HB2 := Lib.hid (below_join HB1.out hb2 HB1.out.size)
      clear x0 x1 x2 y0 y1 y2
      obtain ⟨x0, x1, x2, y0, y1, y2⟩ := HS2.out
      clear hb2
      go_wp2_with (fail)
      go_at_call 65
      refine (HO.out (by trivial) (by trivial) _ HB2.out).mono ?_
      rintro e w3 ⟨r3, rfl, h3, hb3⟩
      have hz3 := hb3.size
      have HR3 := Lib.hid (HR2.out.on hb3 (by omega))
      have HB3 := Lib.hid (below_join HB2.out hb3 HB2.out.size)
      have H3 := Lib.hid h3
      clear hb3 h3
      go_wp2_with (fail)
      refine (c_reduced q m n hn0 hml hnl _ _ (HT.out.heap (HB3.out.block _ HT.out.lt)) H3.out).mono ?_
      rintro e w4 ⟨v4, y4, rfl, hb4, hno, hso⟩
      have r4 := HR3.out.on hb4 (by omega)
      have HR4 := Lib.hid r4
      have HB4 := Lib.hid (below_join HB3.out hb4 HB3.out.size)
      obtain ⟨e0, e1, e2⟩ := three_cells r4
      obtain ⟨f0, f1, f2⟩ := three_frozen r4
      clear r4 hb4
      obtain ⟨hR1, hZ1⟩ := HRt.out (by trivial) (by trivial)
      rw [← hR1] at hno hso
      subst hZ1
      have HNO := Lib.hid hno
      have HSO := Lib.hid hso
      clear hR1 hno hso
      cases R with
      | none =>
        obtain ⟨rfl, rfl⟩ := HNO.out rfl
        unfold zeroR
        go_wp2_with (fail)
        exact ret3t (b := w.heap.size + 1 + 1) rfl rfl rfl rfl (row_store3 HR4.out _ _ _) ⟨_, _, rfl, below_store3 HB4.out (by omega) _ _ _, fun _ => ⟨rfl, rfl⟩, fun _ _ _ h => absurd h (by simp)⟩
      | some z =>
        obtain ⟨sz, nz, dz⟩ := z
        obtain ⟨⟨z1, z2, rfl, g1, g2⟩, rfl⟩ := HSO.out sz nz dz rfl
        obtain ⟨A5, c5, rfl⟩ := g1.shape
        obtain ⟨A6, c6, rfl⟩ := g2.shape
        have G1 := Lib.hid g1
        have G2 := Lib.hid g2
        clear g1 g2
        go_wp2_with (fail)
        refine ret3t (b := w.heap.size + 1 + 1) rfl rfl rfl rfl (row_store3 HR4.out _ _ _) ⟨_, _, rfl, below_store3 HB4.out (by omega) _ _ _, fun h => absurd h (by simp), fun s' n' d' h => ?_⟩
        injection h with h
        injection h with h1 h
        injection h with h2 h3
        subst h1 h2 h3
        exact ⟨⟨_, _, rfl, natSl_storeZ G1.out HR4.out _ _ _, natSl_storeZ G2.out HR4.out _ _ _⟩, rfl⟩

set_option maxHeartbeats 1000000 in
theorem c_combined_product (s t : Bool) (a b c d : List Nat) (x y : Value) (w : World) (ht : Tz w) (hx : Fr0 w x s a b) (hy : Fr0 w y t c d) (q : Bool) (m n : Nat) (hn0 : 0 < n) (hml : (nat m).length ≤ 100000) (hnl : (nat n).length ≤ 100000) (p1 p2 : Bool) (hp1 : validB s a b = p1) (hp2 : validB t c d = p2)
    (hop : p1 = true → p2 = true → ∀ X, Below w.heap.size w X → Calls Tryz.prog 66 #[x, y] X (FrPost q m n X))
    (R : Option (Bool × Nat × Nat)) (Z : Int) (hRt : p1 = true → p2 = true → R = redP q m n ∧ Z = 3) (hRf : (p1 && p2) = false → R = none ∧ Z = 1) :
    Calls Tryz.prog 63 #[x, y, .func (.func 66) #[] #[]] w (ResPost R Z w) := by
  have HRt := Lib.hid hRt
  have HRf := Lib.hid hRf
  have HT := Lib.hid ht
  have HX := Lib.hid hx
  have HY := Lib.hid hy
  have HO := Lib.hid hop
  have HV1 := Lib.hid (fun (X : World) (hX : Below w.heap.size w X) => c_ValidF (hx.on hX) p1 hp1 (ht.heap (hX.block _ ht.lt)))
  have HV2 := Lib.hid (fun (X : World) (hX : Below w.heap.size w X) => c_ValidF (hy.on hX) p2 hp2 (ht.heap (hX.block _ ht.lt)))
  obtain ⟨A1, c1, A2, c2, rfl⟩ := hx.shape
  obtain ⟨A3, c3, A4, c4, rfl⟩ := hy.shape
  clear hx hy ht hop hp1 hp2 hRt hRf
  obtain ⟨W, hW⟩ : ∃ W, W = ((w.alloc (.cells #[.bool s, .slice A1 a.length c1, .slice A2 b.length c2] 25)).alloc (.cells #[.bool t, .slice A3 c.length c3, .slice A4 d.length c4] 25)).alloc (.cells #[.bool false, .slice none 0 0, .slice none 0 0] 25) := ⟨_, rfl⟩
  have S0 := six_new w s (.slice A1 a.length c1) (.slice A2 b.length c2) t (.slice A3 c.length c3) (.slice A4 d.length c4) (.cells #[.bool false, .slice none 0 0, .slice none 0 0] 25)
  have R0 := resz_new w (.cells #[.bool s, .slice A1 a.length c1, .slice A2 b.length c2] 25) (.cells #[.bool t, .slice A3 c.length c3, .slice A4 d.length c4] 25)
  rw [← hW] at S0 R0
  have B0 : Below w.heap.size w W := by subst hW; exact (((Below.refl _ _).alloc (Nat.le_refl _) _).alloc (by simp) _).alloc (by simp; omega) _
  have hz : w.heap.size + 2 < W.heap.size := by subst hW; simp
  have HS0 := Lib.hid S0
  have HR0 := Lib.hid R0
  have HB0 := Lib.hid B0
  clear S0 R0 B0
  cases p1 with
  | false =>
    go_enter Tryz.func63, Tryz.ntmps63
    go_wp2_with (fail)
    rw [← hW]
    clear hW
    refine (HV1.out _ HB0.out).mono ?_
    rintro e w1 ⟨rfl, hb1⟩
    have r1 := HR0.out.on hb1 hz
    have HR1 := Lib.hid r1
    have HB1 := Lib.hid (below_join HB0.out hb1 HB0.out.size)
    obtain ⟨e0, e1, e2⟩ := three_cells r1
    obtain ⟨f0, f1, f2⟩ := three_frozen r1
    clear r1
    go_wp2_with (fail)
    exact ret3t (b := w.heap.size + 1 + 1) rfl rfl rfl rfl (row_store3 HR1.out _ _ _) ⟨_, _, rfl, below_store3 HB1.out (by omega) _ _ _, fun _ => ⟨rfl, (HRf.out (by trivial)).2.symm⟩, fun _ _ _ h => absurd ((HRf.out (by trivial)).1.symm.trans h) (by simp)⟩
  | true =>
    cases p2 with
    | false =>
      go_enter Tryz.func63, Tryz.ntmps63
      go_wp2_with (fail)
      rw [← hW]
      clear hW
      refine (HV1.out _ HB0.out).mono ?_
      rintro e w1 ⟨rfl, hb1⟩
      have hz1 := hb1.size
      have HR1 := Lib.hid (HR0.out.on hb1 hz)
      have HS1 := Lib.hid (HS0.out.on hb1 hz)
      have HB1 := Lib.hid (below_join HB0.out hb1 HB0.out.size)
      obtain ⟨x0, x1, x2, y0, y1, y2⟩ := HS1.out
      clear hb1
      go_wp2_with (fail)
      refine (HV2.out _ HB1.out).mono ?_
      rintro e w2 ⟨rfl, hb2⟩
      have r2 := HR1.out.on hb2 (by omega)
      have HR2 := Lib.hid r2
      have HB2 := Lib.hid (below_join HB1.out hb2 HB1.out.size)
      obtain ⟨e0, e1, e2⟩ := three_cells r2
      obtain ⟨f0, f1, f2⟩ := three_frozen r2
      clear r2 hb2
      go_wp2_with (fail)
      exact ret3t (b := w.heap.size + 1 + 1) rfl rfl rfl rfl (row_store3 HR2.out _ _ _) ⟨_, _, rfl, below_store3 HB2.out (by omega) _ _ _, fun _ => ⟨rfl, (HRf.out (by trivial)).2.symm⟩, fun _ _ _ h => absurd ((HRf.out (by trivial)).1.symm.trans h) (by simp)⟩
    | true =>
      go_enter Tryz.func63, Tryz.ntmps63
      go_wp2_with (fail)
      rw [← hW]
      clear hW
      refine (HV1.out _ HB0.out).mono ?_
      rintro e w1 ⟨rfl, hb1⟩
      have hz1 := hb1.size
      have HR1 := Lib.hid (HR0.out.on hb1 hz)
      have HS1 := Lib.hid (HS0.out.on hb1 hz)
      have HB1 := Lib.hid (below_join HB0.out hb1 HB0.out.size)
      obtain ⟨x0, x1, x2, y0, y1, y2⟩ := HS1.out
      clear hb1
      go_wp2_with (fail)
      refine (HV2.out _ HB1.out).mono ?_
      rintro e w2 ⟨rfl, hb2⟩
      have hz2 := hb2.size
      have HR2 := Lib.hid (HR1.out.on hb2 (by omega))
      have HS2 := Lib.hid (HS1.out.on hb2 (by omega))
      have HB2 := Lib.hid (below_join HB1.out hb2 HB1.out.size)
      clear x0 x1 x2 y0 y1 y2
      obtain ⟨x0, x1, x2, y0, y1, y2⟩ := HS2.out
      clear hb2
      go_wp2_with (fail)
      go_at_call 66
      refine (HO.out (by trivial) (by trivial) _ HB2.out).mono ?_
      rintro e w3 ⟨r3, rfl, h3, hb3⟩
      have hz3 := hb3.size
      have HR3 := Lib.hid (HR2.out.on hb3 (by omega))
      have HB3 := Lib.hid (below_join HB2.out hb3 HB2.out.size)
      have H3 := Lib.hid h3
      clear hb3 h3
      go_wp2_with (fail)
      refine (c_reduced q m n hn0 hml hnl _ _ (HT.out.heap (HB3.out.block _ HT.out.lt)) H3.out).mono ?_
      rintro e w4 ⟨v4, y4, rfl, hb4, hno, hso⟩
      have r4 := HR3.out.on hb4 (by omega)
      have HR4 := Lib.hid r4
      have HB4 := Lib.hid (below_join HB3.out hb4 HB3.out.size)
      obtain ⟨e0, e1, e2⟩ := three_cells r4
      obtain ⟨f0, f1, f2⟩ := three_frozen r4
      clear r4 hb4
      obtain ⟨hR1, hZ1⟩ := HRt.out (by trivial) (by trivial)
      rw [← hR1] at hno hso
      subst hZ1
      have HNO := Lib.hid hno
      have HSO := Lib.hid hso
      clear hR1 hno hso
      cases R with
      | none =>
        obtain ⟨rfl, rfl⟩ := HNO.out rfl
        unfold zeroR
        go_wp2_with (fail)
        exact ret3t (b := w.heap.size + 1 + 1) rfl rfl rfl rfl (row_store3 HR4.out _ _ _) ⟨_, _, rfl, below_store3 HB4.out (by omega) _ _ _, fun _ => ⟨rfl, rfl⟩, fun _ _ _ h => absurd h (by simp)⟩
      | some z =>
        obtain ⟨sz, nz, dz⟩ := z
        obtain ⟨⟨z1, z2, rfl, g1, g2⟩, rfl⟩ := HSO.out sz nz dz rfl
        obtain ⟨A5, c5, rfl⟩ := g1.shape
        obtain ⟨A6, c6, rfl⟩ := g2.shape
        have G1 := Lib.hid g1
        have G2 := Lib.hid g2
        clear g1 g2
        go_wp2_with (fail)
        refine ret3t (b := w.heap.size + 1 + 1) rfl rfl rfl rfl (row_store3 HR4.out _ _ _) ⟨_, _, rfl, below_store3 HB4.out (by omega) _ _ _, fun h => absurd h (by simp), fun s' n' d' h => ?_⟩
        injection h with h
        injection h with h1 h
        injection h with h2 h3
        subst h1 h2 h3
        exact ⟨⟨_, _, rfl, natSl_storeZ G1.out HR4.out _ _ _, natSl_storeZ G2.out HR4.out _ _ _⟩, rfl⟩

end Go.Proofs.YtfdkdloldjfnjaaGreatDoor
