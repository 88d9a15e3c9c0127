/-
  DERIVED. Int.
-/
import Derived.Test.YtfdkdloldjfnjaaGreatDoorYTCm
set_option linter.unusedVariables false
set_option linter.unusedSimpArgs false
namespace Go.Proofs.YtfdkdloldjfnjaaGreatDoor
open Go.RowKit
set_option maxRecDepth 100000

theorem two_low (m : Nat) (h : m < 18446744073709551616) : (nat m).getD 1 0 * BB + (nat m).getD 0 0 = m ∧ (nat m).getD 1 0 < BB ∧ (nat m).getD 0 0 < BB := by
  refine ⟨?_, lb_get (lb_nat m) 1, lb_get (lb_nat m) 0⟩
  rcases Nat.eq_zero_or_pos m with h0 | h0
  · subst h0; rw [nat_zero]; simp only [List.getD_nil, Nat.zero_mul, Nat.add_zero]
  · rw [nat_pos h0]
    simp only [List.getD_cons_zero, List.getD_cons_succ]
    have hdm := Nat.mod_add_div m BB
    rcases Nat.eq_zero_or_pos (m / BB) with h1 | h1
    · rw [h1, nat_zero]
      rw [h1] at hdm
      rw [Nat.mul_zero, Nat.add_zero] at hdm
      rw [List.getD_nil, Nat.zero_mul, Nat.zero_add]
      exact hdm
    · have hlt : m / BB < BB := by rw [Nat.div_lt_iff_lt_mul (by decide)]; exact h
      rw [nat_pos h1, List.getD_cons_zero, Nat.mod_eq_of_lt hlt]
      rw [Nat.add_comm, Nat.mul_comm]
      exact hdm
theorem two_limbs_of (m : Nat) (h : m < 18446744073709551616) : ∃ hi lo, (nat m).getD 1 0 = hi ∧ (nat m).getD 0 0 = lo ∧ bits BinOp.or IntKind.u64 (IntKind.u64.wrap (IntKind.u64.wrap (hi : Int) * 4294967296)) (IntKind.u64.wrap (lo : Int)) = (m : Int) := by
  obtain ⟨tl, tl1, tl0⟩ := two_low m h
  have := two_limbs tl1 tl0
  rw [tl] at this
  exact ⟨_, _, rfl, rfl, this⟩
def IntPost (V Z : Int) (w : World) (e : Ending) (w' : World) : Prop := e = .returned (.tuple #[.int .i64 V, .int .i64 Z]) ∧ Below w.heap.size w w'
theorem ret_pair {a b c d : Int} (h : a = b) (k : c = d) : Ending.returned (.tuple #[.int .i64 a, .int .i64 c]) = .returned (.tuple #[.int .i64 b, .int .i64 d]) := by rw [h, k]
theorem rt_new' (w : World) (s : Bool) (v1 v2 : Value) : Rt (w.alloc (.cells #[.bool s, v1, v2] 25)) w.heap.size s v1 v2 := rt_new w s v1 v2 _ rfl
theorem below_drewN {B : Nat} {w w' : World} (h : Below B w w') (k : Nat) : Below B w (w'.drewN k) := ⟨h.os, h.tape, h.output, h.size, h.block⟩
theorem limb_at {f : FuncId} {args : Array Value} {w : World} {x y : Nat} (e : x = y) (h : Calls Tryz.prog f args w fun e w' => e = .returned (.int .u32 (x : Int)) ∧ w = w') : Calls Tryz.prog f args w fun e w' => e = .returned (.int .u32 (y : Int)) ∧ w = w' := e ▸ h
theorem c_magMax (X : World) : Calls Tryz.prog 47 #[.int .i64 9223372036854775807] X (NewNat 9223372036854775807 X) := c_magnitude 9223372036854775807 (by omega) (by omega) X
theorem c_magMin (X : World) : Calls Tryz.prog 47 #[.int .i64 (-9223372036854775808)] X (NewNat 9223372036854775808 X) := c_magnitude (-9223372036854775808) (by omega) (by omega) X
theorem cmpI_le {a b : Nat} (h : a ≤ b) : ¬ (0 : Int) < cmpI a b := by unfold cmpI; split <;> first | decide | (split <;> first | omega | decide)
theorem cmpI_more {a b : Nat} (h : b < a) : (0 : Int) < cmpI a b := by unfold cmpI; rw [if_neg (by omega), if_pos h]; decide

set_option maxHeartbeats 1000000 in
theorem c_IntN (s : Bool) (a b : List Nat) (x : Value) (w : World) (ht : Tz w) (hx : Fr0 w x s a b) (hv : validB s a b = false) :
    Calls Tryz.prog 36 #[x] w (IntPost 0 1 w) := by
  have HV := Lib.hid (fun (X : World) (hX : Below w.heap.size w X) => c_ValidF (hx.on hX) false hv (ht.heap (hX.block _ ht.lt)))
  obtain ⟨A1, c1, A2, c2, rfl⟩ := hx.shape
  have HB0 := Lib.hid ((Below.refl w.heap.size w).alloc (Nat.le_refl _) (.cells #[.bool s, .slice A1 a.length c1, .slice A2 b.length c2] 25))
  clear hx ht hv
  go_enter Tryz.func36, Tryz.ntmps36
  go_wp2_with (fail)
  refine (HV.out _ HB0.out).mono ?_
  rintro e w1 ⟨rfl, hb1⟩
  have HB1 := Lib.hid (below_join HB0.out hb1 HB0.out.size)
  clear hb1
  go_wp2_with (fail)
  exact bodyPost_ret (by simp [results, go_sem]) rfl ⟨rfl, HB1.out⟩

set_option maxHeartbeats 1000000 in
theorem c_IntP (m n : Nat) (hm : (nat m).length ≤ 50000) (hn : (nat n).length ≤ 50000) (hmm : m ≤ 9223372036854775807) (hn1 : n = 1) (x : Value) (w : World) (ht : Tz w) (hx : Fr w x false m n) (hv : validB false (nat m) (nat n) = true) :
    Calls Tryz.prog 36 #[x] w (IntPost m 0 w) := by
  have hx0 := hx.to0 (by omega) (by omega)
  have HV := Lib.hid (fun (X : World) (hX : Below w.heap.size w X) => c_ValidF (hx0.on hX) true hv (ht.heap (hX.block _ ht.lt)))
  obtain ⟨v1, v2, rfl, h1, h2⟩ := hx
  obtain ⟨A1, c1, rfl⟩ := h1.shape
  obtain ⟨A2, c2, rfl⟩ := h2.shape
  have H1 := Lib.hid h1
  have H2 := Lib.hid h2
  obtain ⟨W, hW⟩ : ∃ W, W = w.alloc (.cells #[.bool false, .slice A1 (nat m).length c1, .slice A2 (nat n).length c2] 25) := ⟨_, rfl⟩
  have X0 : Rt W w.heap.size false (.slice A1 (nat m).length c1) (.slice A2 (nat n).length c2) := by subst hW; exact rt_new' _ _ _ _
  have HB0 := Lib.hid (show Below w.heap.size w W by subst hW; exact (Below.refl _ _).alloc (Nat.le_refl _) _)
  have hz : w.heap.size < W.heap.size := by subst hW; simp
  have HX0 := Lib.hid X0
  have HC := Lib.hid (cmpI_le hmm)
  have HO := Lib.hid (show decide (n = 1) = true by simpa using hn1)
  obtain ⟨hi, lo, e1, e0, hbig⟩ := two_limbs_of m (by omega)
  have HBIG := Lib.hid hbig
  have HE := Lib.hid (And.intro e1 e0)
  have HMM := Lib.hid hmm
  clear hbig e1 e0
  clear hx0 ht hv h1 h2 X0 hm hn
  clear hmm
  clear hn1
  go_enter Tryz.func36, Tryz.ntmps36
  go_wp2_with (fail)
  rw [← hW]
  clear hW
  refine (HV.out _ HB0.out).mono ?_
  rintro e w1 ⟨rfl, hb1⟩
  have hz1 := hb1.size
  have HX1 := Lib.hid (HX0.out.on hb1 hz)
  have HB1 := Lib.hid (below_join HB0.out hb1 HB0.out.size)
  clear hb1
  go_wp2_with (fail)
  refine (c_magMax _).mono ?_
  rintro e w2 ⟨u2, rfl, g2, hb2⟩
  obtain ⟨D2, d2, rfl⟩ := g2.shape
  have hz2 := hb2.size
  have HX2 := Lib.hid (HX1.out.on hb2 (by omega))
  have HB2 := Lib.hid (below_join HB1.out hb2 HB1.out.size)
  have HG2 := Lib.hid g2
  clear hb2 g2
  obtain ⟨x0, x1, x2⟩ := HX2.out.cells
  go_wp2_with (fail)
  have HN1 := Lib.hid (H1.out.below (ok' := fun i => i < w2.heap.size) HB2.out (fun i hi => ⟨hi, Nat.lt_of_lt_of_le hi HB2.out.size⟩))
  have HN2 := Lib.hid (H2.out.below (ok' := fun i => i < w2.heap.size) HB2.out (fun i hi => ⟨hi, Nat.lt_of_lt_of_le hi HB2.out.size⟩))
  refine (c_isOne n true HO.out _ _ w2 HN2.out).mono ?_
  rintro e w9 ⟨rfl, rfl⟩
  go_wp2_with (fail)
  refine (c_compareF (lo := 0) (HN1.out.mono (fun i hi => ⟨Nat.zero_le _, hi⟩)) HG2.out).mono ?_
  rintro e w9 ⟨rfl, nd, rfl⟩
  have hcmp := HC.out
  generalize cmpI m 9223372036854775807 = z at hcmp
  go_wp2_with (fail)
  obtain ⟨W3, hW3⟩ : ∃ W3, W3 = w2.drewN nd := ⟨_, rfl⟩
  have HX3' := Lib.hid (show Rt W3 w.heap.size false (.slice A1 (nat m).length c1) (.slice A2 (nat n).length c2) by subst hW3; exact HX2.out)
  have HN3 := Lib.hid (show NatSl W3 _ _ (nat m) by subst hW3; exact HN1.out.drewN _)
  have HB3' := Lib.hid (show Below w.heap.size w W3 by subst hW3; exact below_drewN HB2.out _)
  rw [← hW3]
  clear hW3 x0 x1 x2
  obtain ⟨x0, x1, x2⟩ := HX3'.out.cells
  have HL1 := Lib.hid (fun (a : Nat) => limb_at HE.out.1 (c_limb (nat m) _ _ _ (HN3.out.drewN a) 1 (by omega)))
  have HL0 := Lib.hid (fun (a : Nat) => limb_at HE.out.2 (c_limb (nat m) _ _ _ (HN3.out.drewN a) 0 (by omega)))
  go_quiet ((first | (go_at_call 79; with_reducible exact calm_once HL1.out) | (go_at_call 79; with_reducible exact calm_once HL0.out)))
  rw [HBIG.out]
  go_wp2_with (fail)
  refine bodyPost_ret (by simp [results, go_sem]; rfl) rfl ⟨ret_pair ?_ rfl, below_drewN HB3'.out _⟩
  have hmm := HMM.out
  unfold wrap64
  omega

set_option maxHeartbeats 1000000 in
theorem c_IntM (m n : Nat) (hm : (nat m).length ≤ 50000) (hn : (nat n).length ≤ 50000) (hmm : m ≤ 9223372036854775808) (hn1 : n = 1) (x : Value) (w : World) (ht : Tz w) (hx : Fr w x true m n) (hv : validB true (nat m) (nat n) = true) :
    Calls Tryz.prog 36 #[x] w (IntPost (-(m : Int)) 0 w) := by
  have hx0 := hx.to0 (by omega) (by omega)
  have HV := Lib.hid (fun (X : World) (hX : Below w.heap.size w X) => c_ValidF (hx0.on hX) true hv (ht.heap (hX.block _ ht.lt)))
  obtain ⟨v1, v2, rfl, h1, h2⟩ := hx
  obtain ⟨A1, c1, rfl⟩ := h1.shape
  obtain ⟨A2, c2, rfl⟩ := h2.shape
  have H1 := Lib.hid h1
  have H2 := Lib.hid h2
  obtain ⟨W, hW⟩ : ∃ W, W = w.alloc (.cells #[.bool true, .slice A1 (nat m).length c1, .slice A2 (nat n).length c2] 25) := ⟨_, rfl⟩
  have X0 : Rt W w.heap.size true (.slice A1 (nat m).length c1) (.slice A2 (nat n).length c2) := by subst hW; exact rt_new' _ _ _ _
  have HB0 := Lib.hid (show Below w.heap.size w W by subst hW; exact (Below.refl _ _).alloc (Nat.le_refl _) _)
  have hz : w.heap.size < W.heap.size := by subst hW; simp
  have HX0 := Lib.hid X0
  have HC := Lib.hid (cmpI_le hmm)
  have HO := Lib.hid (show decide (n = 1) = true by simpa using hn1)
  obtain ⟨hi, lo, e1, e0, hbig⟩ := two_limbs_of m (by omega)
  have HBIG := Lib.hid hbig
  have HE := Lib.hid (And.intro e1 e0)
  have HMM := Lib.hid hmm
  clear hbig e1 e0
  clear hx0 ht hv h1 h2 X0 hm hn
  clear hmm
  clear hn1
  go_enter Tryz.func36, Tryz.ntmps36
  go_wp2_with (fail)
  rw [← hW]
  clear hW
  refine (HV.out _ HB0.out).mono ?_
  rintro e w1 ⟨rfl, hb1⟩
  have hz1 := hb1.size
  have HX1 := Lib.hid (HX0.out.on hb1 hz)
  have HB1 := Lib.hid (below_join HB0.out hb1 HB0.out.size)
  clear hb1
  go_wp2_with (fail)
  refine (c_magMax _).mono ?_
  rintro e w2 ⟨u2, rfl, g2, hb2⟩
  obtain ⟨D2, d2, rfl⟩ := g2.shape
  have hz2 := hb2.size
  have HX2 := Lib.hid (HX1.out.on hb2 (by omega))
  have HB2 := Lib.hid (below_join HB1.out hb2 HB1.out.size)
  have HG2 := Lib.hid g2
  clear hb2 g2
  obtain ⟨x0, x1, x2⟩ := HX2.out.cells
  go_wp2_with (fail)
  refine (c_magMin _).mono ?_
  rintro e w3 ⟨u3, rfl, g3, hb3⟩
  obtain ⟨D3, d3, rfl⟩ := g3.shape
  have hz3 := hb3.size
  have HX3 := Lib.hid (HX2.out.on hb3 (by omega))
  have HB3 := Lib.hid (below_join HB2.out hb3 HB2.out.size)
  have HG3 := Lib.hid g3
  clear hb3 g3 x0 x1 x2
  obtain ⟨x0, x1, x2⟩ := HX3.out.cells
  go_wp2_with (fail)
  have HN1 := Lib.hid (H1.out.below (ok' := fun i => i < w3.heap.size) HB3.out (fun i hi => ⟨hi, Nat.lt_of_lt_of_le hi HB3.out.size⟩))
  have HN2 := Lib.hid (H2.out.below (ok' := fun i => i < w3.heap.size) HB3.out (fun i hi => ⟨hi, Nat.lt_of_lt_of_le hi HB3.out.size⟩))
  refine (c_isOne n true HO.out _ _ w3 HN2.out).mono ?_
  rintro e w9 ⟨rfl, rfl⟩
  go_wp2_with (fail)
  refine (c_compareF (lo := 0) (HN1.out.mono (fun i hi => ⟨Nat.zero_le _, hi⟩)) HG3.out).mono ?_
  rintro e w9 ⟨rfl, nd, rfl⟩
  have hcmp := HC.out
  generalize cmpI m 9223372036854775808 = z at hcmp
  go_wp2_with (fail)
  obtain ⟨W3, hW3⟩ : ∃ W3, W3 = w3.drewN nd := ⟨_, rfl⟩
  have HX3' := Lib.hid (show Rt W3 w.heap.size true (.slice A1 (nat m).length c1) (.slice A2 (nat n).length c2) by subst hW3; exact HX3.out)
  have HN3 := Lib.hid (show NatSl W3 _ _ (nat m) by subst hW3; exact HN1.out.drewN _)
  have HB3' := Lib.hid (show Below w.heap.size w W3 by subst hW3; exact below_drewN HB3.out _)
  rw [← hW3]
  clear hW3 x0 x1 x2
  obtain ⟨x0, x1, x2⟩ := HX3'.out.cells
  have HL1 := Lib.hid (fun (a : Nat) => limb_at HE.out.1 (c_limb (nat m) _ _ _ (HN3.out.drewN a) 1 (by omega)))
  have HL0 := Lib.hid (fun (a : Nat) => limb_at HE.out.2 (c_limb (nat m) _ _ _ (HN3.out.drewN a) 0 (by omega)))
  go_quiet ((first | (go_at_call 79; with_reducible exact calm_once HL1.out) | (go_at_call 79; with_reducible exact calm_once HL0.out)))
  rw [HBIG.out]
  go_wp2_with (fail)
  refine bodyPost_ret (by simp [results, go_sem]; rfl) rfl ⟨ret_pair ?_ rfl, below_drewN HB3'.out _⟩
  have hmm := HMM.out
  unfold wrap64
  omega

set_option maxHeartbeats 1000000 in
theorem c_IntDenP (m n : Nat) (hm : (nat m).length ≤ 50000) (hn : (nat n).length ≤ 50000) (hn1 : ¬ n = 1) (x : Value) (w : World) (ht : Tz w) (hx : Fr w x false m n) (hv : validB false (nat m) (nat n) = true) :
    Calls Tryz.prog 36 #[x] w (IntPost 0 2 w) := by
  have hx0 := hx.to0 (by omega) (by omega)
  have HV := Lib.hid (fun (X : World) (hX : Below w.heap.size w X) => c_ValidF (hx0.on hX) true hv (ht.heap (hX.block _ ht.lt)))
  obtain ⟨v1, v2, rfl, h1, h2⟩ := hx
  obtain ⟨A1, c1, rfl⟩ := h1.shape
  obtain ⟨A2, c2, rfl⟩ := h2.shape
  have H1 := Lib.hid h1
  have H2 := Lib.hid h2
  obtain ⟨W, hW⟩ : ∃ W, W = w.alloc (.cells #[.bool false, .slice A1 (nat m).length c1, .slice A2 (nat n).length c2] 25) := ⟨_, rfl⟩
  have X0 : Rt W w.heap.size false (.slice A1 (nat m).length c1) (.slice A2 (nat n).length c2) := by subst hW; exact rt_new' _ _ _ _
  have HB0 := Lib.hid (show Below w.heap.size w W by subst hW; exact (Below.refl _ _).alloc (Nat.le_refl _) _)
  have hz : w.heap.size < W.heap.size := by subst hW; simp
  have HX0 := Lib.hid X0
  have HO := Lib.hid (show decide (n = 1) = false by simpa using hn1)
  clear hx0 ht hv h1 h2 X0 hm hn
  clear hn1
  go_enter Tryz.func36, Tryz.ntmps36
  go_wp2_with (fail)
  rw [← hW]
  clear hW
  refine (HV.out _ HB0.out).mono ?_
  rintro e w1 ⟨rfl, hb1⟩
  have hz1 := hb1.size
  have HX1 := Lib.hid (HX0.out.on hb1 hz)
  have HB1 := Lib.hid (below_join HB0.out hb1 HB0.out.size)
  clear hb1
  go_wp2_with (fail)
  refine (c_magMax _).mono ?_
  rintro e w2 ⟨u2, rfl, g2, hb2⟩
  obtain ⟨D2, d2, rfl⟩ := g2.shape
  have hz2 := hb2.size
  have HX2 := Lib.hid (HX1.out.on hb2 (by omega))
  have HB2 := Lib.hid (below_join HB1.out hb2 HB1.out.size)
  have HG2 := Lib.hid g2
  clear hb2 g2
  obtain ⟨x0, x1, x2⟩ := HX2.out.cells
  go_wp2_with (fail)
  have HN1 := Lib.hid (H1.out.below (ok' := fun i => i < w2.heap.size) HB2.out (fun i hi => ⟨hi, Nat.lt_of_lt_of_le hi HB2.out.size⟩))
  have HN2 := Lib.hid (H2.out.below (ok' := fun i => i < w2.heap.size) HB2.out (fun i hi => ⟨hi, Nat.lt_of_lt_of_le hi HB2.out.size⟩))
  refine (c_isOne n false HO.out _ _ w2 HN2.out).mono ?_
  rintro e w9 ⟨rfl, rfl⟩
  go_wp2_with (fail)
  exact bodyPost_ret (by simp [results, go_sem]) rfl ⟨rfl, HB2.out⟩

set_option maxHeartbeats 1000000 in
theorem c_IntBigP (m n : Nat) (hm : (nat m).length ≤ 50000) (hn : (nat n).length ≤ 50000) (hmm : 9223372036854775807 < m) (hn1 : n = 1) (x : Value) (w : World) (ht : Tz w) (hx : Fr w x false m n) (hv : validB false (nat m) (nat n) = true) :
    Calls Tryz.prog 36 #[x] w (IntPost 0 2 w) := by
  have hx0 := hx.to0 (by omega) (by omega)
  have HV := Lib.hid (fun (X : World) (hX : Below w.heap.size w X) => c_ValidF (hx0.on hX) true hv (ht.heap (hX.block _ ht.lt)))
  obtain ⟨v1, v2, rfl, h1, h2⟩ := hx
  obtain ⟨A1, c1, rfl⟩ := h1.shape
  obtain ⟨A2, c2, rfl⟩ := h2.shape
  have H1 := Lib.hid h1
  have H2 := Lib.hid h2
  obtain ⟨W, hW⟩ : ∃ W, W = w.alloc (.cells #[.bool false, .slice A1 (nat m).length c1, .slice A2 (nat n).length c2] 25) := ⟨_, rfl⟩
  have X0 : Rt W w.heap.size false (.slice A1 (nat m).length c1) (.slice A2 (nat n).length c2) := by subst hW; exact rt_new' _ _ _ _
  have HB0 := Lib.hid (show Below w.heap.size w W by subst hW; exact (Below.refl _ _).alloc (Nat.le_refl _) _)
  have hz : w.heap.size < W.heap.size := by subst hW; simp
  have HX0 := Lib.hid X0
  have HC := Lib.hid (cmpI_more hmm)
  have HO := Lib.hid (show decide (n = 1) = true by simpa using hn1)
  clear hx0 ht hv h1 h2 X0 hm hn
  clear hmm
  clear hn1
  go_enter Tryz.func36, Tryz.ntmps36
  go_wp2_with (fail)
  rw [← hW]
  clear hW
  refine (HV.out _ HB0.out).mono ?_
  rintro e w1 ⟨rfl, hb1⟩
  have hz1 := hb1.size
  have HX1 := Lib.hid (HX0.out.on hb1 hz)
  have HB1 := Lib.hid (below_join HB0.out hb1 HB0.out.size)
  clear hb1
  go_wp2_with (fail)
  refine (c_magMax _).mono ?_
  rintro e w2 ⟨u2, rfl, g2, hb2⟩
  obtain ⟨D2, d2, rfl⟩ := g2.shape
  have hz2 := hb2.size
  have HX2 := Lib.hid (HX1.out.on hb2 (by omega))
  have HB2 := Lib.hid (below_join HB1.out hb2 HB1.out.size)
  have HG2 := Lib.hid g2
  clear hb2 g2
  obtain ⟨x0, x1, x2⟩ := HX2.out.cells
  go_wp2_with (fail)
  have HN1 := Lib.hid (H1.out.below (ok' := fun i => i < w2.heap.size) HB2.out (fun i hi => ⟨hi, Nat.lt_of_lt_of_le hi HB2.out.size⟩))
  have HN2 := Lib.hid (H2.out.below (ok' := fun i => i < w2.heap.size) HB2.out (fun i hi => ⟨hi, Nat.lt_of_lt_of_le hi HB2.out.size⟩))
  refine (c_isOne n true HO.out _ _ w2 HN2.out).mono ?_
  rintro e w9 ⟨rfl, rfl⟩
  go_wp2_with (fail)
  refine (c_compareF (lo := 0) (HN1.out.mono (fun i hi => ⟨Nat.zero_le _, hi⟩)) HG2.out).mono ?_
  rintro e w9 ⟨rfl, nd, rfl⟩
  have hcmp := HC.out
  generalize cmpI m 9223372036854775807 = z at hcmp
  go_wp2_with (fail)
  exact bodyPost_ret (by simp [results, go_sem]) rfl ⟨rfl, below_drewN HB2.out _⟩

set_option maxHeartbeats 1000000 in
theorem c_IntDenM (m n : Nat) (hm : (nat m).length ≤ 50000) (hn : (nat n).length ≤ 50000) (hn1 : ¬ n = 1) (x : Value) (w : World) (ht : Tz w) (hx : Fr w x true m n) (hv : validB true (nat m) (nat n) = true) :
    Calls Tryz.prog 36 #[x] w (IntPost 0 2 w) := by
  have hx0 := hx.to0 (by omega) (by omega)
  have HV := Lib.hid (fun (X : World) (hX : Below w.heap.size w X) => c_ValidF (hx0.on hX) true hv (ht.heap (hX.block _ ht.lt)))
  obtain ⟨v1, v2, rfl, h1, h2⟩ := hx
  obtain ⟨A1, c1, rfl⟩ := h1.shape
  obtain ⟨A2, c2, rfl⟩ := h2.shape
  have H1 := Lib.hid h1
  have H2 := Lib.hid h2
  obtain ⟨W, hW⟩ : ∃ W, W = w.alloc (.cells #[.bool true, .slice A1 (nat m).length c1, .slice A2 (nat n).length c2] 25) := ⟨_, rfl⟩
  have X0 : Rt W w.heap.size true (.slice A1 (nat m).length c1) (.slice A2 (nat n).length c2) := by subst hW; exact rt_new' _ _ _ _
  have HB0 := Lib.hid (show Below w.heap.size w W by subst hW; exact (Below.refl _ _).alloc (Nat.le_refl _) _)
  have hz : w.heap.size < W.heap.size := by subst hW; simp
  have HX0 := Lib.hid X0
  have HO := Lib.hid (show decide (n = 1) = false by simpa using hn1)
  clear hx0 ht hv h1 h2 X0 hm hn
  clear hn1
  go_enter Tryz.func36, Tryz.ntmps36
  go_wp2_with (fail)
  rw [← hW]
  clear hW
  refine (HV.out _ HB0.out).mono ?_
  rintro e w1 ⟨rfl, hb1⟩
  have hz1 := hb1.size
  have HX1 := Lib.hid (HX0.out.on hb1 hz)
  have HB1 := Lib.hid (below_join HB0.out hb1 HB0.out.size)
  clear hb1
  go_wp2_with (fail)
  refine (c_magMax _).mono ?_
  rintro e w2 ⟨u2, rfl, g2, hb2⟩
  obtain ⟨D2, d2, rfl⟩ := g2.shape
  have hz2 := hb2.size
  have HX2 := Lib.hid (HX1.out.on hb2 (by omega))
  have HB2 := Lib.hid (below_join HB1.out hb2 HB1.out.size)
  have HG2 := Lib.hid g2
  clear hb2 g2
  obtain ⟨x0, x1, x2⟩ := HX2.out.cells
  go_wp2_with (fail)
  refine (c_magMin _).mono ?_
  rintro e w3 ⟨u3, rfl, g3, hb3⟩
  obtain ⟨D3, d3, rfl⟩ := g3.shape
  have hz3 := hb3.size
  have HX3 := Lib.hid (HX2.out.on hb3 (by omega))
  have HB3 := Lib.hid (below_join HB2.out hb3 HB2.out.size)
  have HG3 := Lib.hid g3
  clear hb3 g3 x0 x1 x2
  obtain ⟨x0, x1, x2⟩ := HX3.out.cells
  go_wp2_with (fail)
  have HN1 := Lib.hid (H1.out.below (ok' := fun i => i < w3.heap.size) HB3.out (fun i hi => ⟨hi, Nat.lt_of_lt_of_le hi HB3.out.size⟩))
  have HN2 := Lib.hid (H2.out.below (ok' := fun i => i < w3.heap.size) HB3.out (fun i hi => ⟨hi, Nat.lt_of_lt_of_le hi HB3.out.size⟩))
  refine (c_isOne n false HO.out _ _ w3 HN2.out).mono ?_
  rintro e w9 ⟨rfl, rfl⟩
  go_wp2_with (fail)
  exact bodyPost_ret (by simp [results, go_sem]) rfl ⟨rfl, HB3.out⟩

set_option maxHeartbeats 1000000 in
theorem c_IntBigM (m n : Nat) (hm : (nat m).length ≤ 50000) (hn : (nat n).length ≤ 50000) (hmm : 9223372036854775808 < m) (hn1 : n = 1) (x : Value) (w : World) (ht : Tz w) (hx : Fr w x true m n) (hv : validB true (nat m) (nat n) = true) :
    Calls Tryz.prog 36 #[x] w (IntPost 0 2 w) := by
  have hx0 := hx.to0 (by omega) (by omega)
  have HV := Lib.hid (fun (X : World) (hX : Below w.heap.size w X) => c_ValidF (hx0.on hX) true hv (ht.heap (hX.block _ ht.lt)))
  obtain ⟨v1, v2, rfl, h1, h2⟩ := hx
  obtain ⟨A1, c1, rfl⟩ := h1.shape
  obtain ⟨A2, c2, rfl⟩ := h2.shape
  have H1 := Lib.hid h1
  have H2 := Lib.hid h2
  obtain ⟨W, hW⟩ : ∃ W, W = w.alloc (.cells #[.bool true, .slice A1 (nat m).length c1, .slice A2 (nat n).length c2] 25) := ⟨_, rfl⟩
  have X0 : Rt W w.heap.size true (.slice A1 (nat m).length c1) (.slice A2 (nat n).length c2) := by subst hW; exact rt_new' _ _ _ _
  have HB0 := Lib.hid (show Below w.heap.size w W by subst hW; exact (Below.refl _ _).alloc (Nat.le_refl _) _)
  have hz : w.heap.size < W.heap.size := by subst hW; simp
  have HX0 := Lib.hid X0
  have HC := Lib.hid (cmpI_more hmm)
  have HO := Lib.hid (show decide (n = 1) = true by simpa using hn1)
  clear hx0 ht hv h1 h2 X0 hm hn
  clear hmm
  clear hn1
  go_enter Tryz.func36, Tryz.ntmps36
  go_wp2_with (fail)
  rw [← hW]
  clear hW
  refine (HV.out _ HB0.out).mono ?_
  rintro e w1 ⟨rfl, hb1⟩
  have hz1 := hb1.size
  have HX1 := Lib.hid (HX0.out.on hb1 hz)
  have HB1 := Lib.hid (below_join HB0.out hb1 HB0.out.size)
  clear hb1
  go_wp2_with (fail)
  refine (c_magMax _).mono ?_
  rintro e w2 ⟨u2, rfl, g2, hb2⟩
  obtain ⟨D2, d2, rfl⟩ := g2.shape
  have hz2 := hb2.size
  have HX2 := Lib.hid (HX1.out.on hb2 (by omega))
  have HB2 := Lib.hid (below_join HB1.out hb2 HB1.out.size)
  have HG2 := Lib.hid g2
  clear hb2 g2
  obtain ⟨x0, x1, x2⟩ := HX2.out.cells
  go_wp2_with (fail)
  refine (c_magMin _).mono ?_
  rintro e w3 ⟨u3, rfl, g3, hb3⟩
  obtain ⟨D3, d3, rfl⟩ := g3.shape
  have hz3 := hb3.size
  have HX3 := Lib.hid (HX2.out.on hb3 (by omega))
  have HB3 := Lib.hid (below_join HB2.out hb3 HB2.out.size)
  have HG3 := Lib.hid g3
  clear hb3 g3 x0 x1 x2
  obtain ⟨x0, x1, x2⟩ := HX3.out.cells
  go_wp2_with (fail)
  have HN1 := Lib.hid (H1.out.below (ok' := fun i => i < w3.heap.size) HB3.out (fun i hi => ⟨hi, Nat.lt_of_lt_of_le hi HB3.out.size⟩))
  have HN2 := Lib.hid (H2.out.below (ok' := fun i => i < w3.heap.size) HB3.out (fun i hi => ⟨hi, Nat.lt_of_lt_of_le hi HB3.out.size⟩))
  refine (c_isOne n true HO.out _ _ w3 HN2.out).mono ?_
  rintro e w9 ⟨rfl, rfl⟩
  go_wp2_with (fail)
  refine (c_compareF (lo := 0) (HN1.out.mono (fun i hi => ⟨Nat.zero_le _, hi⟩)) HG3.out).mono ?_
  rintro e w9 ⟨rfl, nd, rfl⟩
  have hcmp := HC.out
  generalize cmpI m 9223372036854775808 = z at hcmp
  go_wp2_with (fail)
  exact bodyPost_ret (by simp [results, go_sem]) rfl ⟨rfl, below_drewN HB3.out _⟩
end Go.Proofs.YtfdkdloldjfnjaaGreatDoor
