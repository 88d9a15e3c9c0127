/-
  DERIVED. Several texts in one.
-/
import Derived.Test.YtfdkdloldjfnjaaGreatDoorYTAm
set_option linter.unusedVariables false
set_option linter.unusedSimpArgs false

/- DERIVED. Of. -/
namespace Go.Proofs.YtfdkdloldjfnjaaGreatDoor
open Go.RowKit
set_option maxRecDepth 100000

theorem nat_len_u64 {n : Nat} (h : n < 18446744073709551616) : (nat n).length ≤ 2 := nat_len_le.2 (by unfold BB; omega)
theorem natSl_any {w : World} {ok : Nat → Prop} {v : Value} {l : List Nat} (h : NatSl w (fun k => ok k ∧ k < w.heap.size) v l) : NatSl w (fun i => i < w.heap.size) v l := h.mono fun _ hk => hk.2

set_option maxHeartbeats 1000000 in
theorem c_Of (n d : Int) (h1 : -9223372036854775808 ≤ n) (h2 : n ≤ 9223372036854775807) (h3 : -9223372036854775808 ≤ d) (h4 : d ≤ 9223372036854775807) (w : World) (ht : Tz w)
    (R : Option (Bool × Nat × Nat)) (Z : Int) (hR0 : d = 0 → R = none ∧ Z = 2) (hR1 : d ≠ 0 → R = redP (decide (n < 0) != decide (d < 0)) n.natAbs d.natAbs ∧ Z = 3) :
    Calls Tryz.prog 13 #[.int .i64 n, .int .i64 d] w (ResPost R Z w) := by
  obtain ⟨W, hW⟩ : ∃ W, W = w.alloc (.cells #[.bool false, .slice none 0 0, .slice none 0 0] 25) := ⟨_, rfl⟩
  have R0 : ResZ w.heap.size W := by subst hW; exact row_new4 _ _ _ rfl
  have B0 : Below w.heap.size w W := by subst hW; exact (Below.refl _ _).alloc (Nat.le_refl _) _
  have hz : w.heap.size < W.heap.size := by subst hW; simp
  have HR0 := Lib.hid R0
  have HB0 := Lib.hid B0
  have HT := Lib.hid ht
  obtain ⟨e0, e1, e2⟩ := three_cells R0
  obtain ⟨f0, f1, f2⟩ := three_frozen R0
  clear R0 B0 ht
  by_cases hd : d = 0
  · obtain ⟨rfl, rfl⟩ := hR0 hd
    clear hR0 hR1
    subst hd
    go_enter Tryz.func13, Tryz.ntmps13
    go_wp2_with (fail)
    rw [← hW]
    exact ret3t (b := w.heap.size) rfl rfl rfl rfl HR0.out ⟨_, _, rfl, HB0.out, fun _ => ⟨rfl, rfl⟩, fun _ _ _ h => absurd h (by simp)⟩
  · obtain ⟨hR, rfl⟩ := hR1 hd
    have hne : (d == 0) = false := by rw [beq_eq_false_iff_ne]; exact hd
    have hd0 : 0 < d.natAbs := by omega
    obtain ⟨p, hp⟩ : ∃ p, decide (n < 0) = p := ⟨_, rfl⟩
    obtain ⟨q, hq⟩ : ∃ q, decide (d < 0) = q := ⟨_, rfl⟩
    rw [hp, hq] at hR
    have HR := Lib.hid hR
    have HM1 := Lib.hid (fun X => c_magnitude n h1 h2 X)
    have HM2 := Lib.hid (fun X => c_magnitude d h3 h4 X)
    have hl1 := nat_len_u64 (show n.natAbs < 18446744073709551616 by omega)
    have hl2 := nat_len_u64 (show d.natAbs < 18446744073709551616 by omega)
    have HD := Lib.hid hd0
    clear hR0 hR1 hd hd0 hR h1 h2 h3 h4
    generalize n.natAbs = m at *
    generalize d.natAbs = k at *
    go_enter Tryz.func13, Tryz.ntmps13
    go_wp2_with (fail)
    rw [← hW]
    clear hW
    refine (HM1.out _).mono ?_
    rintro e w1 ⟨v1, rfl, g1, hb1⟩
    obtain ⟨A1, c1, rfl⟩ := g1.shape
    have hz1 := hb1.size
    have HR1 := Lib.hid (HR0.out.on hb1 hz)
    have HB1 := Lib.hid (below_join HB0.out hb1 HB0.out.size)
    have G1 := Lib.hid (natSl_any g1)
    clear hb1 g1 e0 e1 e2 f0 f1 f2
    go_wp2_with (fail)
    refine (HM2.out _).mono ?_
    rintro e w2 ⟨v2, rfl, g2, hb2⟩
    obtain ⟨A2, c2, rfl⟩ := g2.shape
    have hz2 := hb2.size
    have HR2 := Lib.hid (HR1.out.on hb2 (by omega))
    have HB2 := Lib.hid (below_join HB1.out hb2 HB1.out.size)
    have G2 := Lib.hid (natSl_any g2)
    have G3 := Lib.hid (G1.out.below (ok' := fun i => i < w2.heap.size) hb2 (fun i hi => ⟨hi, Nat.lt_of_lt_of_le hi hz2⟩))
    clear hb2 g2
    go_wp2_with (fail)
    refine (c_reduced (p != q) m k HD.out (by omega) (by omega) _ _ (HT.out.heap (HB2.out.block _ HT.out.lt)) ⟨_, _, rfl, G3.out, G2.out⟩).mono ?_
    rintro e w4 ⟨v4, y4, rfl, hb4, hno, hso⟩
    have r4 := HR2.out.on hb4 (by omega)
    have HR4 := Lib.hid r4
    have HB4 := Lib.hid (below_join HB2.out hb4 HB2.out.size)
    obtain ⟨e0, e1, e2⟩ := three_cells r4
    obtain ⟨f0, f1, f2⟩ := three_frozen r4
    clear r4 hb4
    rw [← HR.out] at hno hso
    have HNO := Lib.hid hno
    have HSO := Lib.hid hso
    clear hno hso
    cases R with
    | none =>
      obtain ⟨rfl, rfl⟩ := HNO.out rfl
      unfold zeroR
      go_wp2_with (fail)
      exact ret3t (b := w.heap.size) rfl rfl rfl rfl (row_store3 HR4.out _ _ _) ⟨_, _, rfl, below_store3 HB4.out (Nat.le_refl _) _ _ _, fun _ => ⟨rfl, rfl⟩, fun _ _ _ h => absurd h (by simp)⟩
    | some z =>
      obtain ⟨sz, nz, dz⟩ := z
      obtain ⟨⟨z1, z2, rfl, g1, g2⟩, rfl⟩ := HSO.out sz nz dz rfl
      obtain ⟨A5, c5, rfl⟩ := g1.shape
      obtain ⟨A6, c6, rfl⟩ := g2.shape
      have G1 := Lib.hid g1
      have G2 := Lib.hid g2
      clear g1 g2
      go_wp2_with (fail)
      refine ret3t (b := w.heap.size) rfl rfl rfl rfl (row_store3 HR4.out _ _ _) ⟨_, _, rfl, below_store3 HB4.out (Nat.le_refl _) _ _ _, fun h => absurd h (by simp), fun s' n' d' h => ?_⟩
      injection h with h
      injection h with h1 h
      injection h with h2 h3
      subst h1 h2 h3
      exact ⟨⟨_, _, rfl, natSl_storeZ G1.out HR4.out _ _ _, natSl_storeZ G2.out HR4.out _ _ _⟩, rfl⟩
end Go.Proofs.YtfdkdloldjfnjaaGreatDoor

/- DERIVED. Floor. -/
namespace Go.Proofs.YtfdkdloldjfnjaaGreatDoor
open Go.RowKit
set_option maxRecDepth 100000

theorem Fr.to0 {w : World} {v : Value} {s : Bool} {m n : Nat} (h : Fr w v s m n) (hm : (nat m).length ≤ 100000) (hn : (nat n).length ≤ 100000) : Fr0 w v s (nat m) (nat n) := by
  obtain ⟨va, vb, h1, h2, h3⟩ := h
  exact ⟨va, vb, h1, h2, h3, lb_nat m, lb_nat n, hm, hn⟩
/-- A fraction's row. -/
def Rt (X : World) (g : Nat) (s : Bool) (v1 v2 : Value) : Prop := X.heap[g]? = some (.cells #[.bool s, v1, v2] 25 (0, 0))
theorem Rt.on {g : Nat} {s : Bool} {v1 v2 : Value} {X Y : World} {B : Nat} (h : Rt X g s v1 v2) (hb : Below B X Y) (hB : g < B) : Rt Y g s v1 v2 := (hb.block _ hB).trans h
theorem Rt.lt {g : Nat} {s : Bool} {v1 v2 : Value} {X : World} (h : Rt X g s v1 v2) : g < X.heap.size := (Array.getElem?_eq_some_iff.1 h).1
theorem Rt.cells {g : Nat} {s : Bool} {v1 v2 : Value} {X : World} (h : Rt X g s v1 v2) : X.cell? ⟨g, 0, none⟩ = some (.bool s) ∧ X.cell? ⟨g, 1, none⟩ = some v1 ∧ X.cell? ⟨g, 2, none⟩ = some v2 := three_cells h
theorem Rt.frozen {g : Nat} {s : Bool} {v1 v2 : Value} {X : World} (h : Rt X g s v1 v2) : X.frozen? ⟨g, 0, none⟩ = false ∧ X.frozen? ⟨g, 1, none⟩ = false ∧ X.frozen? ⟨g, 2, none⟩ = false := three_frozen h
theorem rt_new (w : World) (s : Bool) (v1 v2 : Value) (b : Nat) (hb : b = w.heap.size) : Rt (w.alloc (.cells #[.bool s, v1, v2] 25)) b s v1 v2 := row_new4 _ _ _ hb
/-- A fresh box beside it and a fresh result. -/
theorem two_new (w : World) (s : Bool) (v1 v2 : Value) (o : Obj) : Rt ((w.alloc (.cells #[.bool s, v1, v2] 25)).alloc o) w.heap.size s v1 v2 := ((Below.refl (w.heap.size + 1) (w.alloc (.cells #[.bool s, v1, v2] 25))).alloc (by simp) o).block _ (by omega) |>.trans (row_new4 _ _ _ rfl)
theorem resz_two (w : World) (o : Obj) : ResZ (w.heap.size + 1) ((w.alloc o).alloc (.cells #[.bool false, .slice none 0 0, .slice none 0 0] 25)) := row_new4 _ _ _ (by simp)
theorem below_two (w : World) (o o' : Obj) : Below w.heap.size w ((w.alloc o).alloc o') := ((Below.refl _ _).alloc (Nat.le_refl _) _).alloc (by simp) _

theorem cell_store3 {X : World} {k b o : Nat} {v : Value} (h : X.cell? ⟨k, o, none⟩ = some v) (hb : k ≠ b) (x y z : Value) : (((X.setCell ⟨b, 0, none⟩ x).setCell ⟨b, 1, none⟩ y).setCell ⟨b, 2, none⟩ z).cell? ⟨k, o, none⟩ = some v :=
  (World.cell?_of_block (a := ⟨k, o, none⟩) (by rw [Below.heap_setCell _ _ _ _ hb, Below.heap_setCell _ _ _ _ hb, Below.heap_setCell _ _ _ _ hb])).trans h
theorem len_le_of_le {a b k : Nat} (h : a ≤ b) (hb : (nat b).length ≤ k) : (nat a).length ≤ k := nat_len_le.2 (Nat.lt_of_le_of_lt h (nat_len_le.1 hb))
theorem c_one (X : World) : Calls Tryz.prog 75 #[.int .u64 1] X (NewNat 1 X) := c_natural 1 (by omega) X

set_option maxHeartbeats 1000000 in
theorem c_FloorN (s : Bool) (a b : List Nat) (x : Value) (w : World) (ht : Tz w) (hx : Fr0 w x s a b) (hv : validB s a b = false) :
    Calls Tryz.prog 34 #[x] w (ResPost none 1 w) := by
  have HV := Lib.hid (fun (X : World) (hX : Below w.heap.size w X) => c_ValidF (hx.on hX) false hv (ht.heap (hX.block _ ht.lt)))
  obtain ⟨A1, c1, A2, c2, rfl⟩ := hx.shape
  obtain ⟨W, hW⟩ : ∃ W, W = (w.alloc (.cells #[.bool s, .slice A1 a.length c1, .slice A2 b.length c2] 25)).alloc (.cells #[.bool false, .slice none 0 0, .slice none 0 0] 25) := ⟨_, rfl⟩
  have R0 : ResZ (w.heap.size + 1) W := by subst hW; exact resz_two _ _
  have B0 : Below w.heap.size w W := by subst hW; exact below_two _ _ _
  have hz : w.heap.size + 1 < W.heap.size := by subst hW; simp
  have HR0 := Lib.hid R0
  have HB0 := Lib.hid B0
  clear R0 B0 hx ht hv
  go_enter Tryz.func34, Tryz.ntmps34
  go_wp2_with (fail)
  rw [← hW]
  clear hW
  refine (HV.out _ HB0.out).mono ?_
  rintro e w1 ⟨rfl, hb1⟩
  have r1 := HR0.out.on hb1 hz
  have HR1 := Lib.hid r1
  have HB1 := Lib.hid (below_join HB0.out hb1 HB0.out.size)
  obtain ⟨e0, e1, e2⟩ := three_cells r1
  obtain ⟨f0, f1, f2⟩ := three_frozen r1
  clear r1 hb1
  go_wp2_with (fail)
  exact ret3t (b := w.heap.size + 1) rfl rfl rfl rfl (row_store3 HR1.out _ _ _) ⟨_, _, rfl, below_store3 HB1.out (by omega) _ _ _, fun _ => ⟨rfl, rfl⟩, fun _ _ _ h => absurd h (by simp)⟩

set_option maxHeartbeats 1000000 in
theorem c_FloorV (s : Bool) (m n : Nat) (hm : (nat m).length ≤ 50000) (hn : (nat n).length ≤ 50000) (hn0 : 0 < n) (x : Value) (w : World) (ht : Tz w) (hx : Fr w x s m n) (hv : validB s (nat m) (nat n) = true) (N : Nat) (hN : N = if s = true ∧ 0 < m % n then m / n + 1 else m / n) :
    Calls Tryz.prog 34 #[x] w (ResPost (some (s, N, 1)) 0 w) := by
  have hx0 := hx.to0 (by omega) (by omega)
  have HV := Lib.hid (fun (X : World) (hX : Below w.heap.size w X) => c_ValidF (hx0.on hX) true hv (ht.heap (hX.block _ ht.lt)))
  obtain ⟨v1, v2, rfl, h1, h2⟩ := hx
  obtain ⟨A1, c1, rfl⟩ := h1.shape
  obtain ⟨A2, c2, rfl⟩ := h2.shape
  have HD := Lib.hid (fun (X : World) (hX : Below w.heap.size w X) => c_divideN m n hn0 (by omega) (by omega) _ _ X (h1.below (ok' := fun i => i < X.heap.size) hX (fun i hi => ⟨hi, Nat.lt_of_lt_of_le hi hX.size⟩)) (h2.below (ok' := fun i => i < X.heap.size) hX (fun i hi => ⟨hi, Nat.lt_of_lt_of_le hi hX.size⟩)))
  have hq : (nat (m / n)).length ≤ 50000 := len_le_of_le (Nat.div_le_self m n) hm
  have hN1 := Lib.hid (fun X => c_one X)
  obtain ⟨W, hW⟩ : ∃ W, W = (w.alloc (.cells #[.bool s, .slice A1 (nat m).length c1, .slice A2 (nat n).length c2] 25)).alloc (.cells #[.bool false, .slice none 0 0, .slice none 0 0] 25) := ⟨_, rfl⟩
  have X0 : Rt W w.heap.size s (.slice A1 (nat m).length c1) (.slice A2 (nat n).length c2) := by subst hW; exact two_new _ _ _ _ _
  have R0 : ResZ (w.heap.size + 1) W := by subst hW; exact resz_two _ _
  have B0 : Below w.heap.size w W := by subst hW; exact below_two _ _ _
  have hz : w.heap.size + 1 < W.heap.size := by subst hW; simp
  have HX0 := Lib.hid X0
  have HR0 := Lib.hid R0
  have HB0 := Lib.hid B0
  have HN := Lib.hid hN
  have HVV := Lib.hid hv
  clear R0 B0 X0 hx0 ht hv h1 h2 hN
  by_cases hr : 0 < m % n
  · have hgt : (0 : Int) < ((nat (m % n)).length : Int) := by have := nat_len_pos.2 hr; omega
    cases s with
    | true =>
      have HNV := Lib.hid (show N = m / n + 1 by rw [HN.out, if_pos ⟨rfl, hr⟩])
      go_enter Tryz.func34, Tryz.ntmps34
      go_wp2_with (fail)
      rw [← hW]
      clear hW
      refine (HV.out _ HB0.out).mono ?_
      rintro e w1 ⟨rfl, hb1⟩
      have hz1 := hb1.size
      have HX1 := Lib.hid (HX0.out.on hb1 (by omega))
      have HR1 := Lib.hid (HR0.out.on hb1 hz)
      have HB1 := Lib.hid (below_join HB0.out hb1 HB0.out.size)
      obtain ⟨x0, x1, x2⟩ := HX1.out.cells
      clear hb1
      go_wp2_with (fail)
      refine (HD.out _ HB1.out).mono ?_
      rintro e w2 ⟨q, r, rfl, gq, gr, hb2⟩
      obtain ⟨D1, d1, rfl⟩ := gq.shape
      obtain ⟨D2, d2, rfl⟩ := gr.shape
      have hz2 := hb2.size
      have HX2 := Lib.hid (HX1.out.on hb2 (by omega))
      have HR2 := Lib.hid (HR1.out.on hb2 (by omega))
      have HB2 := Lib.hid (below_join HB1.out hb2 HB1.out.size)
      have HQ := Lib.hid gq
      clear hb2 gq gr x0 x1 x2
      obtain ⟨x0, x1, x2⟩ := HX2.out.cells
      go_wp2_with (fail)
      refine (hN1.out _).mono ?_
      rintro e w3 ⟨o1, rfl, go1, hb3⟩
      obtain ⟨D3, d3, rfl⟩ := go1.shape
      have hz3 := hb3.size
      have HO1 := Lib.hid (show Fs w2.heap.size w3 _ 1 from go1)
      have HQ3 := Lib.hid (HQ.out.on hb3)
      have HX3 := Lib.hid (HX2.out.on hb3 (by omega))
      have HR3 := Lib.hid (HR2.out.on hb3 (by omega))
      have HB3 := Lib.hid (below_join HB2.out hb3 HB2.out.size)
      clear hb3 go1 x0 x1 x2
      obtain ⟨x0, x1, x2⟩ := HX3.out.cells
      go_wp2_with (fail)
      refine (c_addF HQ3.out HO1.out (by omega) (by have := nat_len_u64 (n := 1) (by omega); omega)).mono ?_
      rintro e w4 ⟨o2, rfl, go2, hb4⟩
      obtain ⟨D4, d4, rfl⟩ := go2.shape
      have hz4 := hb4.size
      have HQ4 := Lib.hid (show Fs w3.heap.size w4 _ (m / n + 1) from go2)
      have HX4 := Lib.hid (HX3.out.on hb4 (by omega))
      have HR4 := Lib.hid (HR3.out.on hb4 (by omega))
      have HB4 := Lib.hid (below_join HB3.out hb4 HB3.out.size)
      clear hb4 go2 x0 x1 x2
      obtain ⟨x0, x1, x2⟩ := HX4.out.cells
      go_wp2_with (fail)
      go_region_held3 (fun X => X.cell? ⟨w.heap.size, 0, none⟩ = some (.bool true))
        (first | exact HS9.out | exact cell_store3 HS9.out (by omega) _ _ _ | exact x0)
        ((go_at_call 75; (with_reducible refine (hN1.out _).mono ?_); rintro e w9 ⟨v9, rfl, g9, hb90⟩; obtain ⟨D9, d9, rfl⟩ := g9.shape; have hb9 := Below.undrew hb90; have HS9 := Lib.hid ((hb9.cell (p := ⟨w.heap.size, 0, none⟩) (by show w.heap.size < _; omega)).trans x0); have HB9 := Lib.hid (below_join HB4.out hb9 HB4.out.size); have HQ9 := Lib.hid (HQ4.out.on hb9); have HG9 := Lib.hid (show NatSl w9 (fun i => w4.heap.size ≤ i ∧ i < w9.heap.size) _ _ from g9); have hz9 := hb9.size; have hres := HR4.out.on hb9 (by omega); clear g9 hb9 hb90; obtain ⟨e0, e1, e2⟩ := three_cells hres; obtain ⟨f0, f1, f2⟩ := three_frozen hres; have HRES := Lib.hid hres; clear hres))
      go_wp2_with (fail)
      have hNn := HNV.out
      subst hNn
      refine ret3t (b := w.heap.size + 1) rfl rfl rfl rfl (row_store3 HRES.out _ _ _) ⟨_, _, rfl, below_store3 HB9.out (by omega) _ _ _, fun h => absurd h (by simp), fun s' n' d' h => ?_⟩
      injection h with h
      injection h with h1 h
      injection h with h2 h3
      subst h1 h2 h3
      exact ⟨⟨_, _, rfl, natSl_store3 HQ9.out (by omega) _ _ _, natSl_store3 HG9.out (by omega) _ _ _⟩, rfl⟩
    | false =>
      have HNV := Lib.hid (show N = m / n by rw [HN.out, if_neg (by simp)])
      go_enter Tryz.func34, Tryz.ntmps34
      go_wp2_with (fail)
      rw [← hW]
      clear hW
      refine (HV.out _ HB0.out).mono ?_
      rintro e w1 ⟨rfl, hb1⟩
      have hz1 := hb1.size
      have HX1 := Lib.hid (HX0.out.on hb1 (by omega))
      have HR1 := Lib.hid (HR0.out.on hb1 hz)
      have HB1 := Lib.hid (below_join HB0.out hb1 HB0.out.size)
      obtain ⟨x0, x1, x2⟩ := HX1.out.cells
      clear hb1
      go_wp2_with (fail)
      refine (HD.out _ HB1.out).mono ?_
      rintro e w2 ⟨q, r, rfl, gq, gr, hb2⟩
      obtain ⟨D1, d1, rfl⟩ := gq.shape
      obtain ⟨D2, d2, rfl⟩ := gr.shape
      have hz2 := hb2.size
      have HX2 := Lib.hid (HX1.out.on hb2 (by omega))
      have HR2 := Lib.hid (HR1.out.on hb2 (by omega))
      have HB2 := Lib.hid (below_join HB1.out hb2 HB1.out.size)
      have HQ := Lib.hid gq
      clear hb2 gq gr x0 x1 x2
      obtain ⟨x0, x1, x2⟩ := HX2.out.cells
      go_wp2_with (fail)
      go_region_held3 (fun X => X.cell? ⟨w.heap.size, 0, none⟩ = some (.bool false))
        (first | exact HS9.out | exact cell_store3 HS9.out (by omega) _ _ _ | exact x0)
        ((go_at_call 75; (with_reducible refine (hN1.out _).mono ?_); rintro e w9 ⟨v9, rfl, g9, hb90⟩; obtain ⟨D9, d9, rfl⟩ := g9.shape; have hb9 := Below.undrew hb90; have HS9 := Lib.hid ((hb9.cell (p := ⟨w.heap.size, 0, none⟩) (by show w.heap.size < _; omega)).trans x0); have HB9 := Lib.hid (below_join HB2.out hb9 HB2.out.size); have HQ9 := Lib.hid (HQ.out.on hb9); have HG9 := Lib.hid (show NatSl w9 (fun i => w2.heap.size ≤ i ∧ i < w9.heap.size) _ _ from g9); have hz9 := hb9.size; have hres := HR2.out.on hb9 (by omega); clear g9 hb9 hb90; obtain ⟨e0, e1, e2⟩ := three_cells hres; obtain ⟨f0, f1, f2⟩ := three_frozen hres; have HRES := Lib.hid hres; clear hres))
      go_wp2_with (fail)
      have hNn := HNV.out
      subst hNn
      refine ret3t (b := w.heap.size + 1) rfl rfl rfl rfl (row_store3 HRES.out _ _ _) ⟨_, _, rfl, below_store3 HB9.out (by omega) _ _ _, fun h => absurd h (by simp), fun s' n' d' h => ?_⟩
      injection h with h
      injection h with h1 h
      injection h with h2 h3
      subst h1 h2 h3
      exact ⟨⟨_, _, rfl, natSl_store3 HQ9.out (by omega) _ _ _, natSl_store3 HG9.out (by omega) _ _ _⟩, rfl⟩
  · have hgt : ¬ (0 : Int) < ((nat (m % n)).length : Int) := by have := mt nat_len_pos.1 hr; omega
    cases s with
    | true =>
      have HNV := Lib.hid (show N = m / n by rw [HN.out, if_neg (fun h => hr h.2)])
      go_enter Tryz.func34, Tryz.ntmps34
      go_wp2_with (fail)
      rw [← hW]
      clear hW
      refine (HV.out _ HB0.out).mono ?_
      rintro e w1 ⟨rfl, hb1⟩
      have hz1 := hb1.size
      have HX1 := Lib.hid (HX0.out.on hb1 (by omega))
      have HR1 := Lib.hid (HR0.out.on hb1 hz)
      have HB1 := Lib.hid (below_join HB0.out hb1 HB0.out.size)
      obtain ⟨x0, x1, x2⟩ := HX1.out.cells
      clear hb1
      go_wp2_with (fail)
      refine (HD.out _ HB1.out).mono ?_
      rintro e w2 ⟨q, r, rfl, gq, gr, hb2⟩
      obtain ⟨D1, d1, rfl⟩ := gq.shape
      obtain ⟨D2, d2, rfl⟩ := gr.shape
      have hz2 := hb2.size
      have HX2 := Lib.hid (HX1.out.on hb2 (by omega))
      have HR2 := Lib.hid (HR1.out.on hb2 (by omega))
      have HB2 := Lib.hid (below_join HB1.out hb2 HB1.out.size)
      have HQ := Lib.hid gq
      clear hb2 gq gr x0 x1 x2
      obtain ⟨x0, x1, x2⟩ := HX2.out.cells
      go_wp2_with (fail)
      go_region_held3 (fun X => X.cell? ⟨w.heap.size, 0, none⟩ = some (.bool true))
        (first | exact HS9.out | exact cell_store3 HS9.out (by omega) _ _ _ | exact x0)
        ((go_at_call 75; (with_reducible refine (hN1.out _).mono ?_); rintro e w9 ⟨v9, rfl, g9, hb90⟩; obtain ⟨D9, d9, rfl⟩ := g9.shape; have hb9 := Below.undrew hb90; have HS9 := Lib.hid ((hb9.cell (p := ⟨w.heap.size, 0, none⟩) (by show w.heap.size < _; omega)).trans x0); have HB9 := Lib.hid (below_join HB2.out hb9 HB2.out.size); have HQ9 := Lib.hid (HQ.out.on hb9); have HG9 := Lib.hid (show NatSl w9 (fun i => w2.heap.size ≤ i ∧ i < w9.heap.size) _ _ from g9); have hz9 := hb9.size; have hres := HR2.out.on hb9 (by omega); clear g9 hb9 hb90; obtain ⟨e0, e1, e2⟩ := three_cells hres; obtain ⟨f0, f1, f2⟩ := three_frozen hres; have HRES := Lib.hid hres; clear hres))
      go_wp2_with (fail)
      have hNn := HNV.out
      subst hNn
      refine ret3t (b := w.heap.size + 1) rfl rfl rfl rfl (row_store3 HRES.out _ _ _) ⟨_, _, rfl, below_store3 HB9.out (by omega) _ _ _, fun h => absurd h (by simp), fun s' n' d' h => ?_⟩
      injection h with h
      injection h with h1 h
      injection h with h2 h3
      subst h1 h2 h3
      exact ⟨⟨_, _, rfl, natSl_store3 HQ9.out (by omega) _ _ _, natSl_store3 HG9.out (by omega) _ _ _⟩, rfl⟩
    | false =>
      have HNV := Lib.hid (show N = m / n by rw [HN.out, if_neg (by simp)])
      go_enter Tryz.func34, Tryz.ntmps34
      go_wp2_with (fail)
      rw [← hW]
      clear hW
      refine (HV.out _ HB0.out).mono ?_
      rintro e w1 ⟨rfl, hb1⟩
      have hz1 := hb1.size
      have HX1 := Lib.hid (HX0.out.on hb1 (by omega))
      have HR1 := Lib.hid (HR0.out.on hb1 hz)
      have HB1 := Lib.hid (below_join HB0.out hb1 HB0.out.size)
      obtain ⟨x0, x1, x2⟩ := HX1.out.cells
      clear hb1
      go_wp2_with (fail)
      refine (HD.out _ HB1.out).mono ?_
      rintro e w2 ⟨q, r, rfl, gq, gr, hb2⟩
      obtain ⟨D1, d1, rfl⟩ := gq.shape
      obtain ⟨D2, d2, rfl⟩ := gr.shape
      have hz2 := hb2.size
      have HX2 := Lib.hid (HX1.out.on hb2 (by omega))
      have HR2 := Lib.hid (HR1.out.on hb2 (by omega))
      have HB2 := Lib.hid (below_join HB1.out hb2 HB1.out.size)
      have HQ := Lib.hid gq
      clear hb2 gq gr x0 x1 x2
      obtain ⟨x0, x1, x2⟩ := HX2.out.cells
      go_wp2_with (fail)
      go_region_held3 (fun X => X.cell? ⟨w.heap.size, 0, none⟩ = some (.bool false))
        (first | exact HS9.out | exact cell_store3 HS9.out (by omega) _ _ _ | exact x0)
        ((go_at_call 75; (with_reducible refine (hN1.out _).mono ?_); rintro e w9 ⟨v9, rfl, g9, hb90⟩; obtain ⟨D9, d9, rfl⟩ := g9.shape; have hb9 := Below.undrew hb90; have HS9 := Lib.hid ((hb9.cell (p := ⟨w.heap.size, 0, none⟩) (by show w.heap.size < _; omega)).trans x0); have HB9 := Lib.hid (below_join HB2.out hb9 HB2.out.size); have HQ9 := Lib.hid (HQ.out.on hb9); have HG9 := Lib.hid (show NatSl w9 (fun i => w2.heap.size ≤ i ∧ i < w9.heap.size) _ _ from g9); have hz9 := hb9.size; have hres := HR2.out.on hb9 (by omega); clear g9 hb9 hb90; obtain ⟨e0, e1, e2⟩ := three_cells hres; obtain ⟨f0, f1, f2⟩ := three_frozen hres; have HRES := Lib.hid hres; clear hres))
      go_wp2_with (fail)
      have hNn := HNV.out
      subst hNn
      refine ret3t (b := w.heap.size + 1) rfl rfl rfl rfl (row_store3 HRES.out _ _ _) ⟨_, _, rfl, below_store3 HB9.out (by omega) _ _ _, fun h => absurd h (by simp), fun s' n' d' h => ?_⟩
      injection h with h
      injection h with h1 h
      injection h with h2 h3
      subst h1 h2 h3
      exact ⟨⟨_, _, rfl, natSl_store3 HQ9.out (by omega) _ _ _, natSl_store3 HG9.out (by omega) _ _ _⟩, rfl⟩
end Go.Proofs.YtfdkdloldjfnjaaGreatDoor

/- DERIVED. Div. -/
namespace Go.Proofs.YtfdkdloldjfnjaaGreatDoor
open Go.RowKit
set_option maxRecDepth 100000

set_option maxHeartbeats 1000000 in
theorem c_Div (s t : Bool) (a b c d : List Nat) (x y : Value) (w : World) (ht : Tz w) (hx : Fr0 w x s a b) (hy : Fr0 w y t c d) (q : Bool) (m n : Nat) (hn0 : c.length ≠ 0 → 0 < n) (hml : (nat m).length ≤ 100000) (hnl : (nat n).length ≤ 100000) (p1 p2 : Bool) (hp1 : validB s a b = p1) (hp2 : validB t c d = p2)
    (hop : p1 = true → p2 = true → c.length ≠ 0 → ∀ X, Below w.heap.size w X → Calls Tryz.prog 67 #[x, y] X (FrPost q m n X))
    (R : Option (Bool × Nat × Nat)) (Z : Int) (hRt : p1 = true → p2 = true → c.length ≠ 0 → R = redP q m n ∧ Z = 3) (hR0 : p1 = true → p2 = true → c.length = 0 → R = none ∧ Z = 2) (hRf : (p1 && p2) = false → R = none ∧ Z = 1) :
    Calls Tryz.prog 27 #[x, y] w (ResPost R Z w) := by
  have HRt := Lib.hid hRt
  have HR00 := Lib.hid hR0
  have HRf := Lib.hid hRf
  have HT := Lib.hid ht
  have HX := Lib.hid hx
  have HY := Lib.hid hy
  have HO := Lib.hid hop
  have HV1 := Lib.hid (fun (X : World) (hX : Below w.heap.size w X) => c_ValidF (hx.on hX) p1 hp1 (ht.heap (hX.block _ ht.lt)))
  have HV2 := Lib.hid (fun (X : World) (hX : Below w.heap.size w X) => c_ValidF (hy.on hX) p2 hp2 (ht.heap (hX.block _ ht.lt)))
  obtain ⟨A1, c1, A2, c2, rfl⟩ := hx.shape
  obtain ⟨A3, c3, A4, c4, rfl⟩ := hy.shape
  clear hx hy ht hop hp1 hp2 hRt hRf hR0
  obtain ⟨W, hW⟩ : ∃ W, W = ((w.alloc (.cells #[.bool s, .slice A1 a.length c1, .slice A2 b.length c2] 25)).alloc (.cells #[.bool t, .slice A3 c.length c3, .slice A4 d.length c4] 25)).alloc (.cells #[.bool false, .slice none 0 0, .slice none 0 0] 25) := ⟨_, rfl⟩
  have S0 := six_new w s (.slice A1 a.length c1) (.slice A2 b.length c2) t (.slice A3 c.length c3) (.slice A4 d.length c4) (.cells #[.bool false, .slice none 0 0, .slice none 0 0] 25)
  have R0 := resz_new w (.cells #[.bool s, .slice A1 a.length c1, .slice A2 b.length c2] 25) (.cells #[.bool t, .slice A3 c.length c3, .slice A4 d.length c4] 25)
  rw [← hW] at S0 R0
  have B0 : Below w.heap.size w W := by subst hW; exact (((Below.refl _ _).alloc (Nat.le_refl _) _).alloc (by simp) _).alloc (by simp; omega) _
  have hz : w.heap.size + 2 < W.heap.size := by subst hW; simp
  have HS0 := Lib.hid S0
  have HR0 := Lib.hid R0
  have HB0 := Lib.hid B0
  clear S0 R0 B0
  cases p1 with
  | false =>
    go_enter Tryz.func27, Tryz.ntmps27
    go_wp2_with (fail)
    rw [← hW]
    clear hW
    refine (HV1.out _ HB0.out).mono ?_
    rintro e w1 ⟨rfl, hb1⟩
    have r1 := HR0.out.on hb1 hz
    have HR1 := Lib.hid r1
    have HB1 := Lib.hid (below_join HB0.out hb1 HB0.out.size)
    obtain ⟨e0, e1, e2⟩ := three_cells r1
    obtain ⟨f0, f1, f2⟩ := three_frozen r1
    clear r1
    go_wp2_with (fail)
    exact ret3t (b := w.heap.size + 1 + 1) rfl rfl rfl rfl (row_store3 HR1.out _ _ _) ⟨_, _, rfl, below_store3 HB1.out (by omega) _ _ _, fun _ => ⟨rfl, (HRf.out (by trivial)).2.symm⟩, fun _ _ _ h => absurd ((HRf.out (by trivial)).1.symm.trans h) (by simp)⟩
  | true =>
    cases p2 with
    | false =>
      go_enter Tryz.func27, Tryz.ntmps27
      go_wp2_with (fail)
      rw [← hW]
      clear hW
      refine (HV1.out _ HB0.out).mono ?_
      rintro e w1 ⟨rfl, hb1⟩
      have hz1 := hb1.size
      have HR1 := Lib.hid (HR0.out.on hb1 hz)
      have HS1 := Lib.hid (HS0.out.on hb1 hz)
      have HB1 := Lib.hid (below_join HB0.out hb1 HB0.out.size)
      obtain ⟨x0, x1, x2, y0, y1, y2⟩ := HS1.out
      clear hb1
      go_wp2_with (fail)
      refine (HV2.out _ HB1.out).mono ?_
      rintro e w2 ⟨rfl, hb2⟩
      have r2 := HR1.out.on hb2 (by omega)
      have HR2 := Lib.hid r2
      have HB2 := Lib.hid (below_join HB1.out hb2 HB1.out.size)
      obtain ⟨e0, e1, e2⟩ := three_cells r2
      obtain ⟨f0, f1, f2⟩ := three_frozen r2
      clear r2 hb2
      go_wp2_with (fail)
      exact ret3t (b := w.heap.size + 1 + 1) rfl rfl rfl rfl (row_store3 HR2.out _ _ _) ⟨_, _, rfl, below_store3 HB2.out (by omega) _ _ _, fun _ => ⟨rfl, (HRf.out (by trivial)).2.symm⟩, fun _ _ _ h => absurd ((HRf.out (by trivial)).1.symm.trans h) (by simp)⟩
    | true =>
      by_cases hcz : c.length = 0
      · have hn0 := Lib.hid hn0
        have hce : (((c.length : Nat) : Int) == 0) = true := by rw [beq_iff_eq]; omega
        obtain ⟨hR1, hZ1⟩ := HR00.out (by trivial) (by trivial) hcz
        clear hcz
        subst hR1 hZ1
        go_enter Tryz.func27, Tryz.ntmps27
        go_wp2_with (fail)
        rw [← hW]
        clear hW
        refine (HV1.out _ HB0.out).mono ?_
        rintro e w1 ⟨rfl, hb1⟩
        have hz1 := hb1.size
        have HR1 := Lib.hid (HR0.out.on hb1 hz)
        have HS1 := Lib.hid (HS0.out.on hb1 hz)
        have HB1 := Lib.hid (below_join HB0.out hb1 HB0.out.size)
        obtain ⟨x0, x1, x2, y0, y1, y2⟩ := HS1.out
        clear hb1
        go_wp2_with (fail)
        refine (HV2.out _ HB1.out).mono ?_
        rintro e w2 ⟨rfl, hb2⟩
        have hz2 := hb2.size
        have HR2 := Lib.hid (HR1.out.on hb2 (by omega))
        have HS2 := Lib.hid (HS1.out.on hb2 (by omega))
        have HB2 := Lib.hid (below_join HB1.out hb2 HB1.out.size)
        clear x0 x1 x2 y0 y1 y2
        obtain ⟨x0, x1, x2, y0, y1, y2⟩ := HS2.out
        clear hb2
        have r2 := HR2.out
        obtain ⟨e0, e1, e2⟩ := three_cells r2
        obtain ⟨f0, f1, f2⟩ := three_frozen r2
        clear r2
        go_wp2_with (fail)
        exact ret3t (b := w.heap.size + 1 + 1) rfl rfl rfl rfl (row_store3 HR2.out _ _ _) ⟨_, _, rfl, below_store3 HB2.out (by omega) _ _ _, fun _ => ⟨rfl, rfl⟩, fun _ _ _ h => absurd h (by simp)⟩
      · have hn0 := Lib.hid hn0
        have hce : (((c.length : Nat) : Int) == 0) = false := by rw [beq_eq_false_iff_ne]; omega
        have HCN := Lib.hid hcz
        clear hcz
        go_enter Tryz.func27, Tryz.ntmps27
        go_wp2_with (fail)
        rw [← hW]
        clear hW
        refine (HV1.out _ HB0.out).mono ?_
        rintro e w1 ⟨rfl, hb1⟩
        have hz1 := hb1.size
        have HR1 := Lib.hid (HR0.out.on hb1 hz)
        have HS1 := Lib.hid (HS0.out.on hb1 hz)
        have HB1 := Lib.hid (below_join HB0.out hb1 HB0.out.size)
        obtain ⟨x0, x1, x2, y0, y1, y2⟩ := HS1.out
        clear hb1
        go_wp2_with (fail)
        refine (HV2.out _ HB1.out).mono ?_
        rintro e w2 ⟨rfl, hb2⟩
        have hz2 := hb2.size
        have HR2 := Lib.hid (HR1.out.on hb2 (by omega))
        have HS2 := Lib.hid (HS1.out.on hb2 (by omega))
        have HB2 := Lib.hid (below_join HB1.out hb2 HB1.out.size)
        clear x0 x1 x2 y0 y1 y2
        obtain ⟨x0, x1, x2, y0, y1, y2⟩ := HS2.out
        clear hb2
        go_wp2_with (fail)
        go_at_call 67
        refine (HO.out (by trivial) (by trivial) HCN.out _ HB2.out).mono ?_
        rintro e w3 ⟨r3, rfl, h3, hb3⟩
        have hz3 := hb3.size
        have HR3 := Lib.hid (HR2.out.on hb3 (by omega))
        have HB3 := Lib.hid (below_join HB2.out hb3 HB2.out.size)
        have H3 := Lib.hid h3
        clear hb3 h3
        go_wp2_with (fail)
        refine (c_reduced q m n (hn0.out HCN.out) hml hnl _ _ (HT.out.heap (HB3.out.block _ HT.out.lt)) H3.out).mono ?_
        rintro e w4 ⟨v4, y4, rfl, hb4, hno, hso⟩
        have r4 := HR3.out.on hb4 (by omega)
        have HR4 := Lib.hid r4
        have HB4 := Lib.hid (below_join HB3.out hb4 HB3.out.size)
        obtain ⟨e0, e1, e2⟩ := three_cells r4
        obtain ⟨f0, f1, f2⟩ := three_frozen r4
        clear r4 hb4
        obtain ⟨hR1, hZ1⟩ := HRt.out (by trivial) (by trivial) HCN.out
        rw [← hR1] at hno hso
        subst hZ1
        have HNO := Lib.hid hno
        have HSO := Lib.hid hso
        clear hR1 hno hso
        cases R with
        | none =>
          obtain ⟨rfl, rfl⟩ := HNO.out rfl
          unfold zeroR
          go_wp2_with (fail)
          exact ret3t (b := w.heap.size + 1 + 1) rfl rfl rfl rfl (row_store3 HR4.out _ _ _) ⟨_, _, rfl, below_store3 HB4.out (by omega) _ _ _, fun _ => ⟨rfl, rfl⟩, fun _ _ _ h => absurd h (by simp)⟩
        | some z =>
          obtain ⟨sz, nz, dz⟩ := z
          obtain ⟨⟨z1, z2, rfl, g1, g2⟩, rfl⟩ := HSO.out sz nz dz rfl
          obtain ⟨A5, c5, rfl⟩ := g1.shape
          obtain ⟨A6, c6, rfl⟩ := g2.shape
          have G1 := Lib.hid g1
          have G2 := Lib.hid g2
          clear g1 g2
          go_wp2_with (fail)
          refine ret3t (b := w.heap.size + 1 + 1) rfl rfl rfl rfl (row_store3 HR4.out _ _ _) ⟨_, _, rfl, below_store3 HB4.out (by omega) _ _ _, fun h => absurd h (by simp), fun s' n' d' h => ?_⟩
          injection h with h
          injection h with h1 h
          injection h with h2 h3
          subst h1 h2 h3
          exact ⟨⟨_, _, rfl, natSl_storeZ G1.out HR4.out _ _ _, natSl_storeZ G2.out HR4.out _ _ _⟩, rfl⟩
end Go.Proofs.YtfdkdloldjfnjaaGreatDoor
