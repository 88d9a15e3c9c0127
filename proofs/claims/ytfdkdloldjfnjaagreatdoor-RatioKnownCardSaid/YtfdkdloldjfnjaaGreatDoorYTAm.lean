/-
  DERIVED. Several texts in one.
-/
import Derived.Test.YtfdkdloldjfnjaaGreatDoorMZ
set_option linter.unusedVariables false
set_option linter.unusedSimpArgs false

/- DERIVED. Add, Sub, Mul. -/
namespace Go.Proofs.YtfdkdloldjfnjaaGreatDoor
open Go.RowKit
set_option maxRecDepth 100000

set_option maxHeartbeats 1000000 in
theorem c_Add (s t : Bool) (a b c d : List Nat) (x y : Value) (w : World) (ht : Tz w) (hx : Fr0 w x s a b) (hy : Fr0 w y t c d) (q : Bool) (m n : Nat) (hn0 : 0 < n) (hml : (nat m).length ≤ 100000) (hnl : (nat n).length ≤ 100000) (p1 p2 : Bool) (hp1 : validB s a b = p1) (hp2 : validB t c d = p2)
    (hop : p1 = true → p2 = true → ∀ X, Below w.heap.size w X → Calls Tryz.prog 64 #[x, y] X (FrPost q m n X))
    (R : Option (Bool × Nat × Nat)) (Z : Int) (hRt : p1 = true → p2 = true → R = redP q m n ∧ Z = 3) (hRf : (p1 && p2) = false → R = none ∧ Z = 1) :
    Calls Tryz.prog 24 #[x, y] w (ResPost R Z w) := by
  have HC := Lib.hid (fun (X : World) (hX : Below w.heap.size w X) => c_combined_sum s t a b c d x y X (ht.heap (hX.block _ ht.lt)) (hx.on hX) (hy.on hX) q m n hn0 hml hnl p1 p2 hp1 hp2 (fun h1 h2 Y hY => hop h1 h2 Y (below_join hX hY hX.size)) R Z hRt hRf)
  obtain ⟨A1, c1, A2, c2, rfl⟩ := hx.shape
  obtain ⟨A3, c3, A4, c4, rfl⟩ := hy.shape
  clear hx hy ht hop hp1 hp2 hRt hRf
  obtain ⟨W, hW⟩ : ∃ W, W = ((w.alloc (.cells #[.bool s, .slice A1 a.length c1, .slice A2 b.length c2] 25)).alloc (.cells #[.bool t, .slice A3 c.length c3, .slice A4 d.length c4] 25)).alloc (.cells #[.bool false, .slice none 0 0, .slice none 0 0] 25) := ⟨_, rfl⟩
  have R0 := resz_new w (.cells #[.bool s, .slice A1 a.length c1, .slice A2 b.length c2] 25) (.cells #[.bool t, .slice A3 c.length c3, .slice A4 d.length c4] 25)
  rw [← hW] at R0
  have B0 : Below w.heap.size w W := by subst hW; exact (((Below.refl _ _).alloc (Nat.le_refl _) _).alloc (by simp) _).alloc (by simp; omega) _
  have hz : w.heap.size + 2 < W.heap.size := by subst hW; simp
  have HR0 := Lib.hid R0
  have HB0 := Lib.hid B0
  clear R0 B0
  go_enter Tryz.func24, Tryz.ntmps24
  go_wp2_with (fail)
  rw [← hW]
  clear hW
  refine (HC.out _ HB0.out).mono ?_
  rintro e w4 ⟨v4, y4, rfl, hb4, hno, hso⟩
  have r4 := HR0.out.on hb4 (by omega)
  have HR4 := Lib.hid r4
  have HB4 := Lib.hid (below_join HB0.out hb4 HB0.out.size)
  obtain ⟨e0, e1, e2⟩ := three_cells r4
  obtain ⟨f0, f1, f2⟩ := three_frozen r4
  clear r4 hb4
  have HNO := Lib.hid hno
  have HSO := Lib.hid hso
  clear hno hso
  cases R with
  | none =>
    obtain ⟨rfl, rfl⟩ := HNO.out rfl
    unfold zeroR
    go_wp2_with (fail)
    exact ret3t (b := w.heap.size + 1 + 1) rfl rfl rfl rfl (row_store3 HR4.out _ _ _) ⟨_, _, rfl, below_store3 HB4.out (by omega) _ _ _, fun _ => ⟨rfl, rfl⟩, fun _ _ _ h => absurd h (by simp)⟩
  | some z =>
    obtain ⟨sz, nz, dz⟩ := z
    obtain ⟨⟨z1, z2, rfl, g1, g2⟩, rfl⟩ := HSO.out sz nz dz rfl
    obtain ⟨A5, c5, rfl⟩ := g1.shape
    obtain ⟨A6, c6, rfl⟩ := g2.shape
    have G1 := Lib.hid g1
    have G2 := Lib.hid g2
    clear g1 g2
    go_wp2_with (fail)
    refine ret3t (b := w.heap.size + 1 + 1) rfl rfl rfl rfl (row_store3 HR4.out _ _ _) ⟨_, _, rfl, below_store3 HB4.out (by omega) _ _ _, fun h => absurd h (by simp), fun s' n' d' h => ?_⟩
    injection h with h
    injection h with h1 h
    injection h with h2 h3
    subst h1 h2 h3
    exact ⟨⟨_, _, rfl, natSl_storeZ G1.out HR4.out _ _ _, natSl_storeZ G2.out HR4.out _ _ _⟩, rfl⟩

set_option maxHeartbeats 1000000 in
theorem c_Sub (s t : Bool) (a b c d : List Nat) (x y : Value) (w : World) (ht : Tz w) (hx : Fr0 w x s a b) (hy : Fr0 w y t c d) (q : Bool) (m n : Nat) (hn0 : 0 < n) (hml : (nat m).length ≤ 100000) (hnl : (nat n).length ≤ 100000) (p1 p2 : Bool) (hp1 : validB s a b = p1) (hp2 : validB t c d = p2)
    (hop : p1 = true → p2 = true → ∀ X, Below w.heap.size w X → Calls Tryz.prog 65 #[x, y] X (FrPost q m n X))
    (R : Option (Bool × Nat × Nat)) (Z : Int) (hRt : p1 = true → p2 = true → R = redP q m n ∧ Z = 3) (hRf : (p1 && p2) = false → R = none ∧ Z = 1) :
    Calls Tryz.prog 25 #[x, y] w (ResPost R Z w) := by
  have HC := Lib.hid (fun (X : World) (hX : Below w.heap.size w X) => c_combined_difference s t a b c d x y X (ht.heap (hX.block _ ht.lt)) (hx.on hX) (hy.on hX) q m n hn0 hml hnl p1 p2 hp1 hp2 (fun h1 h2 Y hY => hop h1 h2 Y (below_join hX hY hX.size)) R Z hRt hRf)
  obtain ⟨A1, c1, A2, c2, rfl⟩ := hx.shape
  obtain ⟨A3, c3, A4, c4, rfl⟩ := hy.shape
  clear hx hy ht hop hp1 hp2 hRt hRf
  obtain ⟨W, hW⟩ : ∃ W, W = ((w.alloc (.cells #[.bool s, .slice A1 a.length c1, .slice A2 b.length c2] 25)).alloc (.cells #[.bool t, .slice A3 c.length c3, .slice A4 d.length c4] 25)).alloc (.cells #[.bool false, .slice none 0 0, .slice none 0 0] 25) := ⟨_, rfl⟩
  have R0 := resz_new w (.cells #[.bool s, .slice A1 a.length c1, .slice A2 b.length c2] 25) (.cells #[.bool t, .slice A3 c.length c3, .slice A4 d.length c4] 25)
  rw [← hW] at R0
  have B0 : Below w.heap.size w W := by subst hW; exact (((Below.refl _ _).alloc (Nat.le_refl _) _).alloc (by simp) _).alloc (by simp; omega) _
  have hz : w.heap.size + 2 < W.heap.size := by subst hW; simp
  have HR0 := Lib.hid R0
  have HB0 := Lib.hid B0
  clear R0 B0
  go_enter Tryz.func25, Tryz.ntmps25
  go_wp2_with (fail)
  rw [← hW]
  clear hW
  refine (HC.out _ HB0.out).mono ?_
  rintro e w4 ⟨v4, y4, rfl, hb4, hno, hso⟩
  have r4 := HR0.out.on hb4 (by omega)
  have HR4 := Lib.hid r4
  have HB4 := Lib.hid (below_join HB0.out hb4 HB0.out.size)
  obtain ⟨e0, e1, e2⟩ := three_cells r4
  obtain ⟨f0, f1, f2⟩ := three_frozen r4
  clear r4 hb4
  have HNO := Lib.hid hno
  have HSO := Lib.hid hso
  clear hno hso
  cases R with
  | none =>
    obtain ⟨rfl, rfl⟩ := HNO.out rfl
    unfold zeroR
    go_wp2_with (fail)
    exact ret3t (b := w.heap.size + 1 + 1) rfl rfl rfl rfl (row_store3 HR4.out _ _ _) ⟨_, _, rfl, below_store3 HB4.out (by omega) _ _ _, fun _ => ⟨rfl, rfl⟩, fun _ _ _ h => absurd h (by simp)⟩
  | some z =>
    obtain ⟨sz, nz, dz⟩ := z
    obtain ⟨⟨z1, z2, rfl, g1, g2⟩, rfl⟩ := HSO.out sz nz dz rfl
    obtain ⟨A5, c5, rfl⟩ := g1.shape
    obtain ⟨A6, c6, rfl⟩ := g2.shape
    have G1 := Lib.hid g1
    have G2 := Lib.hid g2
    clear g1 g2
    go_wp2_with (fail)
    refine ret3t (b := w.heap.size + 1 + 1) rfl rfl rfl rfl (row_store3 HR4.out _ _ _) ⟨_, _, rfl, below_store3 HB4.out (by omega) _ _ _, fun h => absurd h (by simp), fun s' n' d' h => ?_⟩
    injection h with h
    injection h with h1 h
    injection h with h2 h3
    subst h1 h2 h3
    exact ⟨⟨_, _, rfl, natSl_storeZ G1.out HR4.out _ _ _, natSl_storeZ G2.out HR4.out _ _ _⟩, rfl⟩

set_option maxHeartbeats 1000000 in
theorem c_Mul (s t : Bool) (a b c d : List Nat) (x y : Value) (w : World) (ht : Tz w) (hx : Fr0 w x s a b) (hy : Fr0 w y t c d) (q : Bool) (m n : Nat) (hn0 : 0 < n) (hml : (nat m).length ≤ 100000) (hnl : (nat n).length ≤ 100000) (p1 p2 : Bool) (hp1 : validB s a b = p1) (hp2 : validB t c d = p2)
    (hop : p1 = true → p2 = true → ∀ X, Below w.heap.size w X → Calls Tryz.prog 66 #[x, y] X (FrPost q m n X))
    (R : Option (Bool × Nat × Nat)) (Z : Int) (hRt : p1 = true → p2 = true → R = redP q m n ∧ Z = 3) (hRf : (p1 && p2) = false → R = none ∧ Z = 1) :
    Calls Tryz.prog 26 #[x, y] w (ResPost R Z w) := by
  have HC := Lib.hid (fun (X : World) (hX : Below w.heap.size w X) => c_combined_product s t a b c d x y X (ht.heap (hX.block _ ht.lt)) (hx.on hX) (hy.on hX) q m n hn0 hml hnl p1 p2 hp1 hp2 (fun h1 h2 Y hY => hop h1 h2 Y (below_join hX hY hX.size)) R Z hRt hRf)
  obtain ⟨A1, c1, A2, c2, rfl⟩ := hx.shape
  obtain ⟨A3, c3, A4, c4, rfl⟩ := hy.shape
  clear hx hy ht hop hp1 hp2 hRt hRf
  obtain ⟨W, hW⟩ : ∃ W, W = ((w.alloc (.cells #[.bool s, .slice A1 a.length c1, .slice A2 b.length c2] 25)).alloc (.cells #[.bool t, .slice A3 c.length c3, .slice A4 d.length c4] 25)).alloc (.cells #[.bool false, .slice none 0 0, .slice none 0 0] 25) := ⟨_, rfl⟩
  have R0 := resz_new w (.cells #[.bool s, .slice A1 a.length c1, .slice A2 b.length c2] 25) (.cells #[.bool t, .slice A3 c.length c3, .slice A4 d.length c4] 25)
  rw [← hW] at R0
  have B0 : Below w.heap.size w W := by subst hW; exact (((Below.refl _ _).alloc (Nat.le_refl _) _).alloc (by simp) _).alloc (by simp; omega) _
  have hz : w.heap.size + 2 < W.heap.size := by subst hW; simp
  have HR0 := Lib.hid R0
  have HB0 := Lib.hid B0
  clear R0 B0
  go_enter Tryz.func26, Tryz.ntmps26
  go_wp2_with (fail)
  rw [← hW]
  clear hW
  refine (HC.out _ HB0.out).mono ?_
  rintro e w4 ⟨v4, y4, rfl, hb4, hno, hso⟩
  have r4 := HR0.out.on hb4 (by omega)
  have HR4 := Lib.hid r4
  have HB4 := Lib.hid (below_join HB0.out hb4 HB0.out.size)
  obtain ⟨e0, e1, e2⟩ := three_cells r4
  obtain ⟨f0, f1, f2⟩ := three_frozen r4
  clear r4 hb4
  have HNO := Lib.hid hno
  have HSO := Lib.hid hso
  clear hno hso
  cases R with
  | none =>
    obtain ⟨rfl, rfl⟩ := HNO.out rfl
    unfold zeroR
    go_wp2_with (fail)
    exact ret3t (b := w.heap.size + 1 + 1) rfl rfl rfl rfl (row_store3 HR4.out _ _ _) ⟨_, _, rfl, below_store3 HB4.out (by omega) _ _ _, fun _ => ⟨rfl, rfl⟩, fun _ _ _ h => absurd h (by simp)⟩
  | some z =>
    obtain ⟨sz, nz, dz⟩ := z
    obtain ⟨⟨z1, z2, rfl, g1, g2⟩, rfl⟩ := HSO.out sz nz dz rfl
    obtain ⟨A5, c5, rfl⟩ := g1.shape
    obtain ⟨A6, c6, rfl⟩ := g2.shape
    have G1 := Lib.hid g1
    have G2 := Lib.hid g2
    clear g1 g2
    go_wp2_with (fail)
    refine ret3t (b := w.heap.size + 1 + 1) rfl rfl rfl rfl (row_store3 HR4.out _ _ _) ⟨_, _, rfl, below_store3 HB4.out (by omega) _ _ _, fun h => absurd h (by simp), fun s' n' d' h => ?_⟩
    injection h with h
    injection h with h1 h
    injection h with h2 h3
    subst h1 h2 h3
    exact ⟨⟨_, _, rfl, natSl_storeZ G1.out HR4.out _ _ _, natSl_storeZ G2.out HR4.out _ _ _⟩, rfl⟩

end Go.Proofs.YtfdkdloldjfnjaaGreatDoor

/- DERIVED. Cmp. -/
namespace Go.Proofs.YtfdkdloldjfnjaaGreatDoor
open Go.RowKit
set_option maxRecDepth 100000

set_option maxHeartbeats 1000000 in
theorem c_Cmp (s t : Bool) (a b c d : List Nat) (x y : Value) (w : World) (ht : Tz w) (hx : Fr0 w x s a b) (hy : Fr0 w y t c d) (p1 p2 : Bool) (hp1 : validB s a b = p1) (hp2 : validB t c d = p2) (o : Int)
    (hop : p1 = true → p2 = true → ∀ X, Below w.heap.size w X → Calls Tryz.prog 71 #[x, y] X fun e Y => e = .returned (.int .i64 o) ∧ Below X.heap.size X Y)
    (R Z : Int) (hRt : p1 = true → p2 = true → R = o ∧ Z = 0) (hRf : (p1 && p2) = false → R = 0 ∧ Z = 1) :
    Calls Tryz.prog 32 #[x, y] w fun e w' => e = .returned (.tuple #[.int .i64 R, .int .i64 Z]) ∧ Below w.heap.size w w' := by
  have HRt := Lib.hid hRt
  have HRf := Lib.hid hRf
  have HO := Lib.hid hop
  have HV1 := Lib.hid (fun (X : World) (hX : Below w.heap.size w X) => c_ValidF (hx.on hX) p1 hp1 (ht.heap (hX.block _ ht.lt)))
  have HV2 := Lib.hid (fun (X : World) (hX : Below w.heap.size w X) => c_ValidF (hy.on hX) p2 hp2 (ht.heap (hX.block _ ht.lt)))
  obtain ⟨A1, c1, A2, c2, rfl⟩ := hx.shape
  obtain ⟨A3, c3, A4, c4, rfl⟩ := hy.shape
  clear hx hy ht hop hp1 hp2 hRt hRf
  obtain ⟨W, hW⟩ : ∃ W, W = (w.alloc (.cells #[.bool s, .slice A1 a.length c1, .slice A2 b.length c2] 25)).alloc (.cells #[.bool t, .slice A3 c.length c3, .slice A4 d.length c4] 25) := ⟨_, rfl⟩
  have hbb : Below (w.heap.size + 2) W (W.alloc (.cells #[.bool false, .slice none 0 0, .slice none 0 0] 25)) := (Below.refl _ _).alloc (by subst hW; simp) _
  have S0 : Six w.heap.size s (.slice A1 a.length c1) (.slice A2 b.length c2) t (.slice A3 c.length c3) (.slice A4 d.length c4) W := by
    have := six_new w s (.slice A1 a.length c1) (.slice A2 b.length c2) t (.slice A3 c.length c3) (.slice A4 d.length c4) (.cells #[.bool false, .slice none 0 0, .slice none 0 0] 25)
    rw [← hW] at this
    obtain ⟨h0, h1, h2, h3, h4, h5⟩ := this
    have e : ∀ k q, k < w.heap.size + 2 → (W.alloc (.cells #[.bool false, .slice none 0 0, .slice none 0 0] 25)).cell? ⟨k, q, none⟩ = W.cell? ⟨k, q, none⟩ := fun k q hk => hbb.cell (p := ⟨k, q, none⟩) hk
    exact ⟨(e _ _ (by omega)).symm.trans h0, (e _ _ (by omega)).symm.trans h1, (e _ _ (by omega)).symm.trans h2, (e _ _ (by omega)).symm.trans h3, (e _ _ (by omega)).symm.trans h4, (e _ _ (by omega)).symm.trans h5⟩
  clear hbb
  have B0 : Below w.heap.size w W := by subst hW; exact ((Below.refl _ _).alloc (Nat.le_refl _) _).alloc (by simp) _
  have hz : w.heap.size + 1 < W.heap.size := by subst hW; simp
  have HS0 := Lib.hid S0
  have HB0 := Lib.hid B0
  clear S0 B0
  have six1 : ∀ (X Y : World), Below X.heap.size X Y → w.heap.size + 1 < X.heap.size → Six w.heap.size s (.slice A1 a.length c1) (.slice A2 b.length c2) t (.slice A3 c.length c3) (.slice A4 d.length c4) X → Six w.heap.size s (.slice A1 a.length c1) (.slice A2 b.length c2) t (.slice A3 c.length c3) (.slice A4 d.length c4) Y := by
    intro X Y hb hs h
    obtain ⟨h0, h1, h2, h3, h4, h5⟩ := h
    have e : ∀ k q, k < X.heap.size → Y.cell? ⟨k, q, none⟩ = X.cell? ⟨k, q, none⟩ := fun k q hk => hb.cell (p := ⟨k, q, none⟩) hk
    exact ⟨(e _ _ (by omega)).trans h0, (e _ _ (by omega)).trans h1, (e _ _ (by omega)).trans h2, (e _ _ (by omega)).trans h3, (e _ _ (by omega)).trans h4, (e _ _ (by omega)).trans h5⟩
  have SIX := Lib.hid six1
  clear six1
  cases p1 with
  | false =>
    obtain ⟨rfl, rfl⟩ := HRf.out rfl
    go_enter Tryz.func32, Tryz.ntmps32
    go_wp2_with (fail)
    rw [← hW]
    clear hW
    refine (HV1.out _ HB0.out).mono ?_
    rintro e w1 ⟨rfl, hb1⟩
    have HB1 := Lib.hid (below_join HB0.out hb1 HB0.out.size)
    clear hb1
    go_wp2_with (fail)
    exact bodyPost_ret (by simp [results, go_sem]) rfl ⟨rfl, HB1.out⟩
  | true =>
    cases p2 with
    | false =>
      obtain ⟨rfl, rfl⟩ := HRf.out rfl
      go_enter Tryz.func32, Tryz.ntmps32
      go_wp2_with (fail)
      rw [← hW]
      clear hW
      refine (HV1.out _ HB0.out).mono ?_
      rintro e w1 ⟨rfl, hb1⟩
      have HS1 := Lib.hid (SIX.out _ _ hb1 hz HS0.out)
      have HB1 := Lib.hid (below_join HB0.out hb1 HB0.out.size)
      obtain ⟨x0, x1, x2, y0, y1, y2⟩ := HS1.out
      clear hb1
      go_wp2_with (fail)
      refine (HV2.out _ HB1.out).mono ?_
      rintro e w2 ⟨rfl, hb2⟩
      have HB2 := Lib.hid (below_join HB1.out hb2 HB1.out.size)
      clear hb2
      go_wp2_with (fail)
      exact bodyPost_ret (by simp [results, go_sem]) rfl ⟨rfl, HB2.out⟩
    | true =>
      obtain ⟨rfl, rfl⟩ := HRt.out rfl rfl
      go_enter Tryz.func32, Tryz.ntmps32
      go_wp2_with (fail)
      rw [← hW]
      clear hW
      refine (HV1.out _ HB0.out).mono ?_
      rintro e w1 ⟨rfl, hb1⟩
      have hz1 := hb1.size
      have HS1 := Lib.hid (SIX.out _ _ hb1 hz HS0.out)
      have HB1 := Lib.hid (below_join HB0.out hb1 HB0.out.size)
      obtain ⟨x0, x1, x2, y0, y1, y2⟩ := HS1.out
      clear hb1
      go_wp2_with (fail)
      refine (HV2.out _ HB1.out).mono ?_
      rintro e w2 ⟨rfl, hb2⟩
      have HS2 := Lib.hid (SIX.out _ _ hb2 (by omega) HS1.out)
      have HB2 := Lib.hid (below_join HB1.out hb2 HB1.out.size)
      clear x0 x1 x2 y0 y1 y2
      obtain ⟨x0, x1, x2, y0, y1, y2⟩ := HS2.out
      clear hb2
      go_wp2_with (fail)
      refine (HO.out (by trivial) (by trivial) _ HB2.out).mono ?_
      rintro e w3 ⟨rfl, hb3⟩
      have HB3 := Lib.hid (below_join HB2.out hb3 HB2.out.size)
      clear hb3
      go_wp2_with (fail)
      exact bodyPost_ret (by simp [results, go_sem]) rfl ⟨rfl, HB3.out⟩
end Go.Proofs.YtfdkdloldjfnjaaGreatDoor
