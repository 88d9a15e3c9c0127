/-
  DERIVED. Several texts in one.
-/
import Derived.Test.YtfdkdloldjfnjaaGreatDoorYMUm
set_option linter.unusedVariables false
set_option linter.unusedSimpArgs false

/- DERIVED. reduced. -/
namespace Go.Proofs.YtfdkdloldjfnjaaGreatDoor
open Go.RowKit
set_option maxRecDepth 100000

def DivN (q r : Nat) (w : World) (e : Ending) (w' : World) : Prop := ∃ x y, e = .returned (.tuple #[x, y]) ∧ Fs w.heap.size w' x q ∧ Fs w.heap.size w' y r ∧ Below w.heap.size w w'
theorem c_divideN (m n : Nat) (hn0 : 0 < n) (hm : (nat m).length ≤ 100000) (hn : (nat n).length ≤ 100000) (va vb : Value) (w : World) (h : NatSl w (fun i => i < w.heap.size) va (nat m)) (k : NatSl w (fun i => i < w.heap.size) vb (nat n)) :
    Calls Tryz.prog 73 #[va, vb] w (DivN (m / n) (m % n) w) := by
  refine (c_divide (nat m) (nat n) (lb_nat m) (can_nat n) (nat_len_pos.2 hn0) hm hn va vb _ _ w h k (fun i hi => hi) (fun i hi => hi)).mono ?_
  rintro e w' ⟨q, g, c, L, h1, h2, h3, h4, h5, h6, h7, h8, h9, h10, h11⟩
  rw [val_nat, val_nat] at *
  refine ⟨q, _, h1, NatSl.mono h2 (fun i hi => hi.1), ?_, h11⟩
  have := h3.sl (o := 0) (n := (nat (m % n)).length) (c := c) (by omega) h8 h9
  rw [List.drop_zero, h5] at this
  exact NatSl.mono this (fun i hi => by subst hi; exact ⟨h10, h3.lt⟩)
theorem c_divisorN (m n : Nat) (hn0 : 0 < n) (hm : (nat m).length ≤ 100000) (hn : (nat n).length ≤ 100000) (va vb : Value) (w : World) (ht : Tz w) (h : NatSl w (fun i => i < w.heap.size) va (nat m)) (k : NatSl w (fun i => i < w.heap.size) vb (nat n)) :
    Calls Tryz.prog 57 #[va, vb] w fun e w' => ∃ r, e = .returned r ∧ Fs w.heap.size w' r (Nat.gcd m n) ∧ Below w.heap.size w w' := by
  have := c_divisor (nat m) (nat n) (lb_nat m) (can_nat n) (nat_len_pos.2 hn0) hm hn va vb _ _ w ht h k (fun i hi => hi) (fun i hi => hi)
  rw [val_nat, val_nat] at this
  exact this.mono fun e w' h => h
theorem c_reduced1 (m n : Nat) (hn0 : 0 < n) (hm : (nat m).length ≤ 100000) (hn : (nat n).length ≤ 100000) (va vb : Value) (g : Nat) (w : World) (h : NatSl w (fun i => i < w.heap.size) va (nat m)) (k : NatSl w (fun i => i < w.heap.size) vb (nat n)) (hg : w.cell? ⟨g, 0, none⟩ = some vb) :
    Calls Tryz.prog 88 #[va, .pointer (some ⟨g, 0, none⟩)] w fun e w' => ∃ r, e = .returned r ∧ Fs w.heap.size w' r (m / n) ∧ Below w.heap.size w w' := by
  have HD := Lib.hid (c_divideN m n hn0 hm hn va vb w h k)
  obtain ⟨A1, c1, rfl⟩ := h.shape
  obtain ⟨A2, c2, rfl⟩ := k.shape
  clear h k
  go_enter Tryz.func88, Tryz.ntmps88
  go_wp2_with (go_at_call 73; (with_reducible refine HD.out.mono ?_); rintro e w1 ⟨x, y, rfl, hx, hy, hb⟩; have HX := Lib.hid hx; have HBB := Lib.hid hb; clear hx hy hb)
  all_goals exact bodyPost_ret (by simp [results, go_sem]) rfl ⟨_, rfl, HX.out, HBB.out⟩
end Go.Proofs.YtfdkdloldjfnjaaGreatDoor

/- DERIVED. reduced. -/
namespace Go.Proofs.YtfdkdloldjfnjaaGreatDoor
open Go.RowKit
set_option maxRecDepth 100000

/-- A fraction in lowest terms, if it is not too long. -/
def redP (s : Bool) (n d : Nat) : Option (Bool × Nat × Nat) :=
  if 32 < (nat (n / Nat.gcd n d)).length ∨ 32 < (nat (d / Nat.gcd n d)).length then none else some (s && decide (0 < n / Nat.gcd n d), n / Nat.gcd n d, d / Nat.gcd n d)
theorem len_mono {a b k : Nat} (h : a ≤ b) (hb : (nat b).length ≤ k) : (nat a).length ≤ k := nat_len_le.2 (Nat.lt_of_le_of_lt h (nat_len_le.1 hb))
/-- The zero fraction, as a value. -/
def zeroR : Value := .agg #[.bool false, .slice none 0 0, .slice none 0 0]
def ResPost (r : Option (Bool × Nat × Nat)) (z : Int) (w : World) (e : Ending) (w' : World) : Prop :=
  ∃ v y, e = .returned (.tuple #[v, .int .i64 y]) ∧ Below w.heap.size w w' ∧ (r = none → v = zeroR ∧ y = z) ∧ ∀ s n d, r = some (s, n, d) → Fr w' v s n d ∧ y = 0

theorem ret3t {fn : Func} {a : Act} {W : World} {R : Ending → World → Prop} {b i j : Nat} {x0 x1 x2 y : Value} (hfn : fn.results = #[.cell i 25, .tmp j]) (hp : a.tmps[i]?.getD undef = .pointer (some ⟨b, 0, none⟩)) (hj : a.tmps[j]?.getD undef = y) (hd : a.defers = [])
    (h : W.heap[b]? = some (.cells #[x0, x1, x2] 25 (0, 0))) (hR : R (.returned (.tuple #[.agg #[x0, x1, x2], y])) W) : bodyPost Tryz.prog fn R .ret a W := by
  obtain ⟨c0, c1, c2⟩ := three_cells h
  exact bodyPost_ret (v := .tuple #[.agg #[x0, x1, x2], y]) (by simp [results, hfn, hp, hj, go_sem, c0, c1, c2]) hd hR

theorem row_other4 {W : World} {b B i : Nat} {o : Obj} (h : W.heap[b]? = some o) (hne : b ≠ B) (v : Value) : (W.setCell ⟨B, i, none⟩ v).heap[b]? = some o := (Below.heap_setCell W ⟨B, i, none⟩ v b hne).trans h
theorem fs_store4 {V : World} {g n : Nat} {v : Value} (h : Fs (g + 2) V v n) (t x y z : Value) : NatSl ((((V.setCell ⟨g, 0, none⟩ t).setCell ⟨g + 1, 0, none⟩ x).setCell ⟨g + 1, 1, none⟩ y).setCell ⟨g + 1, 2, none⟩ z) (fun i => i < ((((V.setCell ⟨g, 0, none⟩ t).setCell ⟨g + 1, 0, none⟩ x).setCell ⟨g + 1, 1, none⟩ y).setCell ⟨g + 1, 2, none⟩ z).heap.size) v (nat n) :=
  NatSl.stand h fun k hk => ⟨by simpa [World.setCell] using hk.2, by
    have h1 : k ≠ g := by omega
    have h2 : k ≠ g + 1 := by omega
    rw [Below.heap_setCell _ _ _ _ h2, Below.heap_setCell _ _ _ _ h2, Below.heap_setCell _ _ _ _ h2, Below.heap_setCell _ _ _ _ h1]⟩

set_option maxHeartbeats 1000000 in
theorem c_reduced (s : Bool) (n d : Nat) (hd0 : 0 < d) (hn : (nat n).length ≤ 100000) (hd : (nat d).length ≤ 100000) (v : Value) (w : World) (ht : Tz w) (h : Fr w v s n d) :
    Calls Tryz.prog 46 #[v] w (ResPost (redP s n d) 3 w) := by
  obtain ⟨v1, v2, rfl, h1, h2⟩ := h
  obtain ⟨A1, c1, rfl⟩ := h1.shape
  obtain ⟨A2, c2, rfl⟩ := h2.shape
  have hg0 : 0 < Nat.gcd n d := Nat.gcd_pos_of_pos_right _ hd0
  have hgl : (nat (Nat.gcd n d)).length ≤ 100000 := len_mono (Nat.le_of_dvd hd0 (Nat.gcd_dvd_right n d)) hd
  have H1 := Lib.hid h1
  have H2 := Lib.hid h2
  have HT := Lib.hid ht
  clear h1 h2 ht
  have HDV := Lib.hid (fun (X : World) (hX : Below w.heap.size w X) => c_divisorN n d hd0 hn hd _ _ X (HT.out.heap (hX.block _ HT.out.lt)) (H1.out.below (ok' := fun i => i < X.heap.size) hX (fun i hi => ⟨hi, Nat.lt_of_lt_of_le hi hX.size⟩)) (H2.out.below (ok' := fun i => i < X.heap.size) hX (fun i hi => ⟨hi, Nat.lt_of_lt_of_le hi hX.size⟩)))
  generalize hG : Nat.gcd n d = G at *
  go_enter Tryz.func46, Tryz.ntmps46
  go_wp2_with (fail)
  obtain ⟨W0, hW0⟩ : ∃ W, W = (w.alloc (.cells #[.bool s, .slice A1 (nat n).length c1, .slice A2 (nat d).length c2] 25)).alloc (.cells #[.bool false, .slice none 0 0, .slice none 0 0] 25) := ⟨_, rfl⟩
  have X0 : W0.heap[w.heap.size]? = some (.cells #[.bool s, .slice A1 (nat n).length c1, .slice A2 (nat d).length c2] 25 (0, 0)) := by
    subst hW0
    exact ((((Below.refl (w.heap.size + 1) (w.alloc (.cells #[.bool s, .slice A1 (nat n).length c1, .slice A2 (nat d).length c2] 25))).alloc (by simp) _).block _ (by omega))).trans (row_new4 _ _ _ rfl)
  have R0 : ResZ (w.heap.size + 1) W0 := by subst hW0; exact row_new4 _ _ _ (by simp)
  have B0 : Below w.heap.size w W0 := by subst hW0; exact ((Below.refl _ _).alloc (Nat.le_refl _) _).alloc (by simp) _
  have hz : w.heap.size + 1 < W0.heap.size := by subst hW0; simp
  rw [← hW0]
  clear hW0
  refine (HDV.out _ B0).mono ?_
  rintro e w1 ⟨gv, rfl, hgv, hb1⟩
  obtain ⟨A3, c3, rfl⟩ := hgv.shape
  obtain ⟨W, hW⟩ : ∃ W, W = w1.alloc (.cells #[.slice A3 (nat G).length c3] 23) := ⟨_, rfl⟩
  have hb2 : Below W0.heap.size W0 W := by subst hW; exact hb1.alloc hb1.size _
  have X1 := (hb2.block _ (by omega : w.heap.size < W0.heap.size)).trans X0
  have R1 := R0.on hb2 hz
  have B1 := below_join B0 hb2 B0.size
  have q0 : W.cell? ⟨w1.heap.size, 0, none⟩ = some (.slice A3 (nat G).length c3) := by
    have := row_new4 w1 (.cells #[.slice A3 (nat G).length c3] 23) w1.heap.size rfl
    rw [← hW] at this
    simp [World.cell?, this]
  have hz1 : w.heap.size + 1 < w1.heap.size := Nat.lt_of_lt_of_le hz hb1.size
  have hz2 : w1.heap.size < W.heap.size := by subst hW; simp
  have hgv2 : Fs W0.heap.size W (.slice A3 (nat G).length c3) G := hgv.on (by subst hW; exact (Below.refl _ _).alloc (Nat.le_refl _) _)
  have HV1 := Lib.hid (fun (X : World) (hX : Below W.heap.size W X) => c_reduced1 n G hg0 hn hgl (.slice A1 (nat n).length c1) _ w1.heap.size X ((H1.out.below (ok' := fun i => i < W.heap.size) B1 (fun i hi => ⟨hi, Nat.lt_of_lt_of_le hi B1.size⟩)).below (ok' := fun i => i < X.heap.size) hX (fun i hi => ⟨hi, Nat.lt_of_lt_of_le hi hX.size⟩)) (NatSl.mono (hgv2.on hX) (fun i hi => hi.2)) ((hX.cell (p := ⟨w1.heap.size, 0, none⟩) hz2).trans q0))
  have HV2 := Lib.hid (fun (X : World) (hX : Below W.heap.size W X) => c_reduced1 d G hg0 hd hgl (.slice A2 (nat d).length c2) _ w1.heap.size X ((H2.out.below (ok' := fun i => i < W.heap.size) B1 (fun i hi => ⟨hi, Nat.lt_of_lt_of_le hi B1.size⟩)).below (ok' := fun i => i < X.heap.size) hX (fun i hi => ⟨hi, Nat.lt_of_lt_of_le hi hX.size⟩)) (NatSl.mono (hgv2.on hX) (fun i hi => hi.2)) ((hX.cell (p := ⟨w1.heap.size, 0, none⟩) hz2).trans q0))
  have HB1 := Lib.hid B1
  have HX1 := Lib.hid X1
  have HR1 := Lib.hid R1
  clear hb1 hb2 X0 R0 B0 q0 hgv hgv2 HDV H1 H2 HT R1 B1
  obtain ⟨x0, x1, x2⟩ := three_cells X1
  clear X1
  have HB0 := Lib.hid (Below.refl W.heap.size W)
  go_wp2_with (fail)
  try rw [← hW]
  clear hW
  go_region_with (first
    | (go_at_call 88; (with_reducible refine (HV1.out _ HB0.out.drew).mono ?_); rintro e wa ⟨ra, rfl, hra, hba0⟩; obtain ⟨D1, e1, rfl⟩ := hra.shape; have hba := Below.undrew hba0; have HBa := Lib.hid hba; have HNa := Lib.hid (show Fs W.heap.size wa _ _ from hra); have hza := hba.size; have HXa := Lib.hid ((hba.block _ (by omega : w.heap.size < W.heap.size)).trans HX1.out); clear hra hba hba0; obtain ⟨-, y1, y2⟩ := three_cells HXa.out)
    | (go_at_call 88; (with_reducible refine (HV2.out _ HBa.out).mono ?_); rintro e wb ⟨rb, rfl, hrb, hbb⟩; obtain ⟨D2, e2, rfl⟩ := hrb.shape; have HBb := Lib.hid (below_join HBa.out hbb HBa.out.size); have HNb := Lib.hid (show Fs wa.heap.size wb _ _ from hrb); have HNa2 := Lib.hid (HNa.out.on hbb); have hzb := hbb.size; have HXb := Lib.hid ((hbb.block _ (by omega : w.heap.size < wa.heap.size)).trans HXa.out); clear hrb hbb; obtain ⟨f0, f1, f2⟩ := three_cells HXb.out; obtain ⟨g0, g1, g2⟩ := three_frozen HXb.out))
  all_goals (
    obtain ⟨V, hV⟩ : ∃ V, V = (wb.setCell ⟨w.heap.size, 1, none⟩ (.slice D1 (nat (n / G)).length e1)).setCell ⟨w.heap.size, 2, none⟩ (.slice D2 (nat (d / G)).length e2) := ⟨_, rfl⟩
    have XV : V.heap[w.heap.size]? = some (.cells #[.bool s, .slice D1 (nat (n / G)).length e1, .slice D2 (nat (d / G)).length e2] 25 (0, 0)) := by subst hV; exact row_set3 (row_set3 HXb.out _) _
    have BV : Below w.heap.size w V := by subst hV; exact ((below_join HB1.out HBb.out HB1.out.size).setCell (Nat.le_refl _) _).setCell (Nat.le_refl _) _
    have KV : ∀ k, k ≠ w.heap.size → V.heap[k]? = wb.heap[k]? := fun k hk => by subst hV; rw [Below.heap_setCell _ _ _ _ hk, Below.heap_setCell _ _ _ _ hk]
    have hVs : V.heap.size = wb.heap.size := by subst hV; simp [World.setCell]
    have RV : ResZ (w.heap.size + 1) V := (KV _ (by omega)).trans (HR1.out.on HBb.out (by omega))
    have NV1 : Fs (w.heap.size + 2) V (.slice D1 (nat (n / G)).length e1) (n / G) := NatSl.stand HNa2.out fun k hk => ⟨⟨by omega, by omega⟩, KV k (by omega)⟩
    have NV2 : Fs (w.heap.size + 2) V (.slice D2 (nat (d / G)).length e2) (d / G) := NatSl.stand HNb.out fun k hk => ⟨⟨by omega, by omega⟩, KV k (by omega)⟩
    rw [← hV]
    have HXV := Lib.hid XV
    have HBV := Lib.hid BV
    have HRV := Lib.hid RV
    have HN1 := Lib.hid NV1
    have HN2 := Lib.hid NV2
    clear hV KV NV1 NV2 BV f0 f1 f2 g0 g1 g2 y1 y2 x0 x1 x2 HXb HXa HNa HNa2 HNb HBa HBb HV1 HV2 HB1 HB0
    obtain ⟨x0, x1, x2⟩ := three_cells XV
    obtain ⟨f0, f1, f2⟩ := three_frozen XV
    obtain ⟨y0, y1, y2⟩ := three_cells RV
    obtain ⟨g0, g1, g2⟩ := three_frozen RV
    clear XV RV
    go_wp2_with (fail))
  all_goals first
    | (have hno : redP s n d = none := by unfold redP; rw [hG, if_pos (by omega)]
       exact ret3t (b := w.heap.size + 1) rfl rfl rfl rfl (row_store3 HRV.out _ _ _) ⟨_, _, rfl, below_store3 HBV.out (by omega) _ _ _, fun _ => ⟨rfl, rfl⟩, fun _ _ _ h => absurd (hno.symm.trans h) (by simp)⟩)
    | (have hso : redP s n d = some (s && decide (0 < n / G), n / G, d / G) := by unfold redP; rw [hG, if_neg (by omega)]
       have hX : decide (0 < (nat (n / G)).length) = (s && decide (0 < n / G)) := by
         have hs : s = true := by assumption
         rw [hs, Bool.true_and]; exact decide_eq_decide.2 nat_len_pos
       refine ret3t (b := w.heap.size + 1) rfl rfl rfl rfl (row_store3 (row_other4 HRV.out (by omega) _) _ _ _) ⟨_, _, rfl, below_store3 (HBV.out.setCell (Nat.le_refl _) _) (by omega) _ _ _, fun h => absurd (hso.symm.trans h) (by simp), fun s' n' d' h => ?_⟩
       have h' := Option.some.inj (hso.symm.trans h)
       obtain ⟨rfl, rfl, rfl⟩ : (s && decide (0 < n / G)) = s' ∧ n / G = n' ∧ d / G = d' := ⟨congrArg (·.1) h', congrArg (·.2.1) h', congrArg (·.2.2) h'⟩
       exact ⟨⟨_, _, congrArg (fun b => Value.agg #[.bool b, _, _]) hX, fs_store4 HN1.out _ _ _ _, fs_store4 HN2.out _ _ _ _⟩, rfl⟩)
    | (have hso : redP s n d = some (s && decide (0 < n / G), n / G, d / G) := by unfold redP; rw [hG, if_neg (by omega)]
       have hX : false = (s && decide (0 < n / G)) := by
         have hs : s = false := Bool.eq_false_iff.2 (by assumption)
         rw [hs]; rfl
       refine ret3t (b := w.heap.size + 1) rfl rfl rfl rfl (row_store3 (row_other4 HRV.out (by omega) _) _ _ _) ⟨_, _, rfl, below_store3 (HBV.out.setCell (Nat.le_refl _) _) (by omega) _ _ _, fun h => absurd (hso.symm.trans h) (by simp), fun s' n' d' h => ?_⟩
       have h' := Option.some.inj (hso.symm.trans h)
       obtain ⟨rfl, rfl, rfl⟩ : (s && decide (0 < n / G)) = s' ∧ n / G = n' ∧ d / G = d' := ⟨congrArg (·.1) h', congrArg (·.2.1) h', congrArg (·.2.2) h'⟩
       exact ⟨⟨_, _, congrArg (fun b => Value.agg #[.bool b, _, _]) hX, fs_store4 HN1.out _ _ _ _, fs_store4 HN2.out _ _ _ _⟩, rfl⟩)
end Go.Proofs.YtfdkdloldjfnjaaGreatDoor
