/-
  DERIVED. The law's same; the reference's Floor. (Written by gen/genUP.py.)
-/
import Derived.Test.YtfdkdloldjfnjaaGreatDoorUO
set_option linter.unusedVariables false
set_option linter.unusedSimpArgs false
namespace Go.Proofs.YtfdkdloldjfnjaaGreatDoor
open Go.RowKit
set_option maxRecDepth 100000

/-- A result as the package and the reference give it. -/
def Rs (w : World) (v : Value) (y : Int) (R : Option (Bool × Nat × Nat)) (z : Int) : Prop := (R = none → v = zeroR ∧ y = z) ∧ ∀ s n d, R = some (s, n, d) → Fr w v s n d ∧ y = 0
theorem Rs.on {w w' : World} {v : Value} {y z : Int} {R : Option (Bool × Nat × Nat)} (h : Rs w v y R z) (hb : Below w.heap.size w w') : Rs w' v y R z := ⟨h.1, fun s n d hr => ⟨(h.2 s n d hr).1.on hb, (h.2 s n d hr).2⟩⟩
theorem res_open {R : Option (Bool × Nat × Nat)} {z : Int} {w : World} {e : Ending} {w' : World} (h : ResPost R z w e w') : ∃ (s : Bool) (A : Option Addr) (m c : Nat) (B : Option Addr) (k d : Nat) (y : Int), e = .returned (.tuple #[.agg #[.bool s, .slice A m c, .slice B k d], .int .i64 y]) ∧ Rs w' (.agg #[.bool s, .slice A m c, .slice B k d]) y R z ∧ Below w.heap.size w w' := by
  obtain ⟨v, y, rfl, hb, h1, h2⟩ := h
  rcases R with _ | ⟨s, n, d⟩
  · obtain ⟨rfl, rfl⟩ := h1 rfl
    exact ⟨_, _, _, _, _, _, _, _, rfl, ⟨fun _ => ⟨rfl, rfl⟩, fun _ _ _ h => by cases h⟩, hb⟩
  · obtain ⟨hf, rfl⟩ := h2 _ _ _ rfl
    have hf' := hf
    obtain ⟨va, vb, rfl, ha, hb'⟩ := hf
    obtain ⟨A, c, rfl⟩ := ha.shape
    obtain ⟨B, k, rfl⟩ := hb'.shape
    exact ⟨_, _, _, _, _, _, _, _, rfl, ⟨fun h => (by cases h), fun s' n' d' h => (by injection h with h; injection h with h1 h3; injection h3 with h3 h4; subst h1 h3 h4; exact ⟨hf', rfl⟩)⟩, hb⟩
theorem Rs.raw {w : World} {s : Bool} {va vb : Value} {y z : Int} {R : Option (Bool × Nat × Nat)} (h : Rs w (.agg #[.bool s, va, vb]) y R z) : ∃ a b : List Nat, Ls w va a ∧ Ls w vb b ∧ (R = none → s = false ∧ a = [] ∧ b = [] ∧ y = z) ∧ ∀ s' n d, R = some (s', n, d) → s = s' ∧ a = nat n ∧ b = nat d ∧ y = 0 := by
  rcases R with _ | ⟨s', n, d⟩
  · obtain ⟨e, rfl⟩ := h.1 rfl
    unfold zeroR at e
    injection e with e
    injection e with e
    simp only [List.cons.injEq, Value.bool.injEq, and_true] at e
    obtain ⟨rfl, rfl, rfl⟩ := e
    exact ⟨[], [], ⟨NatSl.nil _ _, lb_nil⟩, ⟨NatSl.nil _ _, lb_nil⟩, fun _ => ⟨rfl, rfl, rfl, rfl⟩, fun _ _ _ h => by cases h⟩
  · obtain ⟨⟨ua, ub, e, h1, h2⟩, rfl⟩ := h.2 _ _ _ rfl
    injection e with e
    injection e with e
    simp only [List.cons.injEq, Value.bool.injEq, and_true] at e
    obtain ⟨rfl, rfl, rfl⟩ := e
    exact ⟨_, _, ⟨h1, lb_nat _⟩, ⟨h2, lb_nat _⟩, fun h => (by cases h), fun s2 n2 d2 h => (by injection h with h; injection h with h1 h3; injection h3 with h3 h4; subst h1 h3 h4; exact ⟨rfl, rfl, rfl, rfl⟩)⟩
set_option maxHeartbeats 2000000 in
theorem c_lsame {s t : Bool} {va vb vc vd : Value} {y y' z : Int} {R : Option (Bool × Nat × Nat)} {w : World} (hv : Rs w (.agg #[.bool s, va, vb]) y R z) (hu : Rs w (.agg #[.bool t, vc, vd]) y' R z) :
    Calls Tryz.prog 17 #[.agg #[.bool s, va, vb], .int .i64 y, .agg #[.bool t, vc, vd], .int .i64 y'] w fun e w' => e = .returned (.bool true) ∧ Below w.heap.size w w' := by
  obtain ⟨a, b, h1, h2, h3, h4⟩ := hv.raw
  obtain ⟨c, d, k1, k2, k3, k4⟩ := hu.raw
  have hall : s = t ∧ a = c ∧ b = d ∧ y = y' := by
    rcases R with _ | ⟨s', n, d'⟩
    · obtain ⟨rfl, rfl, rfl, rfl⟩ := h3 rfl
      obtain ⟨rfl, rfl, rfl, rfl⟩ := k3 rfl
      exact ⟨rfl, rfl, rfl, rfl⟩
    · obtain ⟨rfl, rfl, rfl, rfl⟩ := h4 _ _ _ rfl
      obtain ⟨rfl, rfl, rfl, rfl⟩ := k4 _ _ _ rfl
      exact ⟨rfl, rfl, rfl, rfl⟩
  obtain ⟨rfl, rfl, rfl, rfl⟩ := hall
  obtain ⟨A1, c1, rfl, -, -⟩ := h1.nilcap
  obtain ⟨A2, c2, rfl, -, -⟩ := h2.nilcap
  obtain ⟨A3, c3, rfl, -, -⟩ := k1.nilcap
  obtain ⟨A4, c4, rfl, -, -⟩ := k2.nilcap
  have HS := Lib.hid (fun (X : World) (hX : Below w.heap.size w X) => c_eSame s s a b a b true (decide_eq_true ⟨rfl, rfl, rfl⟩) _ _ _ _ X (h1.on hX) (h2.on hX) (k1.on hX) (k2.on hX))
  have HB := Lib.hid (below_two w (.cells #[.bool s, .slice A1 a.length c1, .slice A2 b.length c2] 25) (.cells #[.bool s, .slice A3 a.length c3, .slice A4 b.length c4] 25))
  clear hv hu h1 h2 h3 h4 k1 k2 k3 k4
  go_enter Tryz.func17, Tryz.ntmps17
  go_wp2_with (fail)
  go_at_call 22
  refine (HS.out _ HB.out).mono ?_
  rintro e w1 ⟨rfl, hb1⟩
  go_wp2_with (fail)
  go_ret
  exact ⟨rfl, HB.out.trans (hb1.mono HB.out.size)⟩
theorem floor_big (p : Rat) (N : Nat) (hN : N = if qneg p = true ∧ 0 < p.num.natAbs % p.den then p.num.natAbs / p.den + 1 else p.num.natAbs / p.den) : N ≤ p.num.natAbs + 1 ∧ (Sm p → (nat N).length ≤ 32) := by
  have h1 := Nat.div_le_self p.num.natAbs p.den
  have hle : N ≤ p.num.natAbs + 1 := by
    subst hN
    split
    · exact Nat.add_le_add_right h1 1
    · exact Nat.le_trans h1 (Nat.le_succ _)
  refine ⟨hle, fun hs => ?_⟩
  have hdm := Nat.div_add_mod p.num.natAbs p.den
  have hb := nat_len_le.1 hs.1
  have hd := p.den_pos
  have hN2 : N ≤ max p.num.natAbs 1 := by
    subst hN
    split
    · rename_i h
      rcases Nat.lt_or_ge p.num.natAbs p.den with h2 | h2
      · rw [Nat.div_eq_of_lt h2]; exact Nat.le_max_right _ _
      · have hd2 : 2 ≤ p.den := by
          rcases Nat.lt_or_ge p.den 2 with h3 | h3
          · have : p.den = 1 := by omega
            rw [this, Nat.mod_one] at h
            omega
          · exact h3
        have : p.num.natAbs / p.den ≤ p.num.natAbs / 2 := Nat.div_le_div_left hd2 (by omega)
        have h4 := Nat.le_max_left p.num.natAbs 1
        omega
    · exact Nat.le_trans h1 (Nat.le_max_left _ _)
  refine nat_len_le.2 (Nat.lt_of_le_of_lt hN2 ?_)
  have : 1 < BB ^ 32 := by decide +kernel
  exact Nat.max_lt.2 ⟨hb, this⟩
theorem floor_rest {p : Rat} {N : Nat} (hN : N = if qneg p = true ∧ 0 < p.num.natAbs % p.den then p.num.natAbs / p.den + 1 else p.num.natAbs / p.den) : redP (qneg p) N 1 = some (qneg p && decide (0 < N), N, 1) ∨ 32 < (nat N).length := by
  rcases Nat.lt_or_ge 32 (nat N).length with h | h
  · exact .inr h
  · left
    unfold redP
    rw [Nat.gcd_one_right, Nat.div_one, if_neg]
    rw [nat_one]
    simp
    exact h
theorem Fr.storeZ {X : World} {b : Nat} {v : Value} {s : Bool} {m n : Nat} (h : Fr X v s m n) (hr : ResZ b X) (x0 x1 x2 : Value) : Fr (((X.setCell ⟨b, 0, none⟩ x0).setCell ⟨b, 1, none⟩ x1).setCell ⟨b, 2, none⟩ x2) v s m n := by
  obtain ⟨va, vb, e, h1, h2⟩ := h
  exact ⟨va, vb, e, natSl_storeZ h1 hr _ _ _, natSl_storeZ h2 hr _ _ _⟩
theorem Rs.storeZ {X : World} {b : Nat} {v : Value} {y z : Int} {R : Option (Bool × Nat × Nat)} (h : Rs X v y R z) (hr : ResZ b X) (x0 x1 x2 : Value) : Rs (((X.setCell ⟨b, 0, none⟩ x0).setCell ⟨b, 1, none⟩ x1).setCell ⟨b, 2, none⟩ x2) v y R z :=
  ⟨h.1, fun s n d hR => ⟨(h.2 s n d hR).1.storeZ hr _ _ _, (h.2 s n d hR).2⟩⟩
set_option maxHeartbeats 4000000 in
theorem floor_f (m n : Nat) (h0 : 0 < n) (hm : (nat m).length ≤ 32) (hn : (nat n).length ≤ 32) (hv : validB false (nat m) (nat n) = true) (x : Value) (w : World) (hx : Fr w x false m n) :
    Calls Tryz.prog 35 #[x] w (ResPost (redP false (m / n) 1) 3 w) := by
  obtain ⟨va, vb, rfl, ha, hb⟩ := hx
  obtain ⟨A, ca, rfl⟩ := ha.shape
  obtain ⟨B, cb, rfl⟩ := hb.shape
  have hla : Ls w _ (nat m) := ⟨ha, lb_nat _⟩
  have hlb : Ls w _ (nat n) := ⟨hb, lb_nat _⟩
  obtain ⟨W, hW⟩ : ∃ W, W = (w.alloc (.cells #[.bool false, .slice A (nat m).length ca, .slice B (nat n).length cb] 25)).alloc (.cells #[.bool false, .slice none 0 0, .slice none 0 0] 25) := ⟨_, rfl⟩
  have B0 : Below w.heap.size w W := by subst hW; exact below_two _ _ _
  have hz : w.heap.size + 1 < W.heap.size := by subst hW; simp
  have HX := Lib.hid (show Rt W w.heap.size false (.slice A (nat m).length ca) (.slice B (nat n).length cb) by subst hW; exact two_new _ _ _ _ _)
  have HR := Lib.hid (show ResZ (w.heap.size + 1) W by subst hW; exact resz_two _ _)
  have HB := Lib.hid B0
  have HV := Lib.hid (c_eValid false (nat m) (nat n) true hv _ _ W (hla.on B0) (hlb.on B0))
  have HA1 := Lib.hid (hla.on B0)
  have HB1 := Lib.hid (hlb.on B0)
  clear B0 ha hb hla hlb hv
  go_enter Tryz.func35, Tryz.ntmps35
  go_wp2_with (fail)
  rw [← hW]
  clear hW
  obtain ⟨x0, x1, x2⟩ := HX.out.cells
  go_wp2_with (fail)
  go_at_call 19
  refine HV.out.mono ?_
  rintro e w1 ⟨rfl, b1⟩
  replace HX := Lib.hid (HX.out.on b1 HX.out.lt)
  replace HR := Lib.hid (HR.out.on b1 hz)
  replace HB := Lib.hid (below_join HB.out b1 HB.out.size)
  have HA2 := Lib.hid (HA1.out.on b1)
  have HB2 := Lib.hid (HB1.out.on b1)
  have hz1 := b1.size
  have HQ := Lib.hid (c_eQuotient m n h0 (by omega) (by omega) _ _ w1 HA2.out HB2.out)
  clear b1 x0 x1 x2
  obtain ⟨x0, x1, x2⟩ := HX.out.cells
  go_wp2_with (fail)
  go_at_call 76
  refine HQ.out.mono ?_
  rintro e w2 ⟨q, r, rfl, hq, hr, b2⟩
  obtain ⟨A2, c2, rfl⟩ := hq.1.shape
  obtain ⟨A3, c3, rfl⟩ := hr.1.shape
  replace HX := Lib.hid (HX.out.on b2 HX.out.lt)
  replace HR := Lib.hid (HR.out.on b2 (by omega))
  replace HB := Lib.hid (below_join HB.out b2 HB.out.size)
  have HQ2 := Lib.hid hq
  have hz2 := b2.size
  have hlq : (nat (m / n)).length ≤ 32 := len_le_of_le (Nat.div_le_self _ _) hm
  clear hq hr b2 x0 x1 x2
  obtain ⟨x0, x1, x2⟩ := HX.out.cells
  obtain ⟨U, hU⟩ : ∃ U, U = w2.alloc (.cells #[.int .u32 1] 51) := ⟨_, rfl⟩
  have bU : Below w2.heap.size w2 U := by subst hU; exact (Below.refl _ _).alloc (Nat.le_refl _) _
  have HM := Lib.hid (c_eMade false (m / n) 1 (by omega) (by omega) (by rw [nat_one]; simp) _ (.slice (some ⟨w2.heap.size, 0, none⟩) 1 1) U (HQ2.out.on bU) (by subst hU; exact ls_one w2))
  have HBU := Lib.hid bU
  go_wp2_with (fail)
  rw [← hU]
  clear hU bU x0 x1 x2
  go_at_call 48
  refine HM.out.mono ?_
  rintro e w5 h5
  obtain ⟨s5, A6, m6, c6, A7, m7, c7, y5, rfl, hr5, b5⟩ := res_open h5
  have b45 : Below w2.heap.size w2 w5 := below_join HBU.out b5 HBU.out.size
  replace HR := Lib.hid (HR.out.on b45 (by omega))
  replace HB := Lib.hid (below_join HB.out b45 HB.out.size)
  have HR5 := Lib.hid hr5
  clear h5 hr5 b5 b45
  obtain ⟨z0, z1, z2⟩ := Rt.cells HR.out
  obtain ⟨f0, f1, f2⟩ := Rt.frozen HR.out
  go_wp2_with (fail)
  refine ret3t rfl rfl rfl rfl (row_store3 HR.out _ _ _) ⟨_, _, rfl, below_store3 HB.out (by omega) _ _ _, ?_⟩
  exact HR5.out.storeZ HR.out _ _ _
set_option maxHeartbeats 4000000 in
theorem floor_r (m n : Nat) (h0 : 0 < n) (hm : (nat m).length ≤ 32) (hn : (nat n).length ≤ 32) (hr0 : 0 < m % n) (hv : validB true (nat m) (nat n) = true) (x : Value) (w : World) (hx : Fr w x true m n) :
    Calls Tryz.prog 35 #[x] w (ResPost (redP true (m / n + 1) 1) 3 w) := by
  obtain ⟨va, vb, rfl, ha, hb⟩ := hx
  obtain ⟨A, ca, rfl⟩ := ha.shape
  obtain ⟨B, cb, rfl⟩ := hb.shape
  have hla : Ls w _ (nat m) := ⟨ha, lb_nat _⟩
  have hlb : Ls w _ (nat n) := ⟨hb, lb_nat _⟩
  obtain ⟨W, hW⟩ : ∃ W, W = (w.alloc (.cells #[.bool true, .slice A (nat m).length ca, .slice B (nat n).length cb] 25)).alloc (.cells #[.bool false, .slice none 0 0, .slice none 0 0] 25) := ⟨_, rfl⟩
  have B0 : Below w.heap.size w W := by subst hW; exact below_two _ _ _
  have hz : w.heap.size + 1 < W.heap.size := by subst hW; simp
  have HX := Lib.hid (show Rt W w.heap.size true (.slice A (nat m).length ca) (.slice B (nat n).length cb) by subst hW; exact two_new _ _ _ _ _)
  have HR := Lib.hid (show ResZ (w.heap.size + 1) W by subst hW; exact resz_two _ _)
  have HB := Lib.hid B0
  have HV := Lib.hid (c_eValid true (nat m) (nat n) true hv _ _ W (hla.on B0) (hlb.on B0))
  have HA1 := Lib.hid (hla.on B0)
  have HB1 := Lib.hid (hlb.on B0)
  clear B0 ha hb hla hlb hv
  go_enter Tryz.func35, Tryz.ntmps35
  go_wp2_with (fail)
  rw [← hW]
  clear hW
  obtain ⟨x0, x1, x2⟩ := HX.out.cells
  go_wp2_with (fail)
  go_at_call 19
  refine HV.out.mono ?_
  rintro e w1 ⟨rfl, b1⟩
  replace HX := Lib.hid (HX.out.on b1 HX.out.lt)
  replace HR := Lib.hid (HR.out.on b1 hz)
  replace HB := Lib.hid (below_join HB.out b1 HB.out.size)
  have HA2 := Lib.hid (HA1.out.on b1)
  have HB2 := Lib.hid (HB1.out.on b1)
  have hz1 := b1.size
  have HQ := Lib.hid (c_eQuotient m n h0 (by omega) (by omega) _ _ w1 HA2.out HB2.out)
  clear b1 x0 x1 x2
  obtain ⟨x0, x1, x2⟩ := HX.out.cells
  go_wp2_with (fail)
  go_at_call 76
  refine HQ.out.mono ?_
  rintro e w2 ⟨q, r, rfl, hq, hr, b2⟩
  obtain ⟨A2, c2, rfl⟩ := hq.1.shape
  obtain ⟨A3, c3, rfl⟩ := hr.1.shape
  replace HX := Lib.hid (HX.out.on b2 HX.out.lt)
  replace HR := Lib.hid (HR.out.on b2 (by omega))
  replace HB := Lib.hid (below_join HB.out b2 HB.out.size)
  have HQ2 := Lib.hid hq
  have hz2 := b2.size
  have hlq : (nat (m / n)).length ≤ 32 := len_le_of_le (Nat.div_le_self _ _) hm
  clear hq hr b2 x0 x1 x2
  obtain ⟨x0, x1, x2⟩ := HX.out.cells
  have hrl : ((0 : Int) < ((nat (m % n)).length : Nat)) := Int.natCast_pos.2 (nat_len_pos.2 hr0)
  generalize (nat (m % n)).length = rl at *
  obtain ⟨V, hV⟩ : ∃ V, V = w2.alloc (.cells #[.int .u32 1] 51) := ⟨_, rfl⟩
  have bV : Below w2.heap.size w2 V := by subst hV; exact (Below.refl _ _).alloc (Nat.le_refl _) _
  have HS := Lib.hid (c_eSumN (m / n) 1 (by omega) (by rw [nat_one]; simp) _ (.slice (some ⟨w2.heap.size, 0, none⟩) 1 1) V (HQ2.out.on bV) (by subst hV; exact ls_one w2))
  have HBV := Lib.hid bV
  go_wp2_with (fail)
  rw [← hV]
  clear hV bV x0 x1 x2
  go_at_call 77
  refine HS.out.mono ?_
  rintro e w3 h3
  obtain ⟨v3, rfl, g3, b3⟩ := h3.ls
  obtain ⟨A5, c5, rfl⟩ := g3.1.shape
  have b23 : Below w2.heap.size w2 w3 := below_join HBV.out b3 HBV.out.size
  replace HX := Lib.hid (HX.out.on b23 HX.out.lt)
  replace HR := Lib.hid (HR.out.on b23 (by omega))
  replace HB := Lib.hid (below_join HB.out b23 HB.out.size)
  have HQ3 := Lib.hid g3
  have hz3 := b23.size
  have hlq3 : (nat (m / n + 1)).length ≤ 80000 := Nat.le_trans (len_le_of_le (show m / n + 1 ≤ 2 * (m / n) + 1 by omega) (len_succ hlq)) (by omega)
  clear g3 b3 b23 h3
  obtain ⟨x0, x1, x2⟩ := HX.out.cells
  obtain ⟨U, hU⟩ : ∃ U, U = w3.alloc (.cells #[.int .u32 1] 51) := ⟨_, rfl⟩
  have bU : Below w3.heap.size w3 U := by subst hU; exact (Below.refl _ _).alloc (Nat.le_refl _) _
  have HM := Lib.hid (c_eMade true (m / n + 1) 1 (by omega) hlq3 (by rw [nat_one]; simp) _ (.slice (some ⟨w3.heap.size, 0, none⟩) 1 1) U (HQ3.out.on bU) (by subst hU; exact ls_one w3))
  have HBU := Lib.hid bU
  go_wp2_with (fail)
  rw [← hU]
  clear hU bU x0 x1 x2
  go_at_call 48
  refine HM.out.mono ?_
  rintro e w5 h5
  obtain ⟨s5, A6, m6, c6, A7, m7, c7, y5, rfl, hr5, b5⟩ := res_open h5
  have b45 : Below w3.heap.size w3 w5 := below_join HBU.out b5 HBU.out.size
  replace HR := Lib.hid (HR.out.on b45 (by omega))
  replace HB := Lib.hid (below_join HB.out b45 HB.out.size)
  have HR5 := Lib.hid hr5
  clear h5 hr5 b5 b45
  obtain ⟨z0, z1, z2⟩ := Rt.cells HR.out
  obtain ⟨f0, f1, f2⟩ := Rt.frozen HR.out
  go_wp2_with (fail)
  refine ret3t rfl rfl rfl rfl (row_store3 HR.out _ _ _) ⟨_, _, rfl, below_store3 HB.out (by omega) _ _ _, ?_⟩
  exact HR5.out.storeZ HR.out _ _ _
set_option maxHeartbeats 4000000 in
theorem floor_z (m n : Nat) (h0 : 0 < n) (hm : (nat m).length ≤ 32) (hn : (nat n).length ≤ 32) (hr0 : ¬ 0 < m % n) (hv : validB true (nat m) (nat n) = true) (x : Value) (w : World) (hx : Fr w x true m n) :
    Calls Tryz.prog 35 #[x] w (ResPost (redP true (m / n) 1) 3 w) := by
  obtain ⟨va, vb, rfl, ha, hb⟩ := hx
  obtain ⟨A, ca, rfl⟩ := ha.shape
  obtain ⟨B, cb, rfl⟩ := hb.shape
  have hla : Ls w _ (nat m) := ⟨ha, lb_nat _⟩
  have hlb : Ls w _ (nat n) := ⟨hb, lb_nat _⟩
  obtain ⟨W, hW⟩ : ∃ W, W = (w.alloc (.cells #[.bool true, .slice A (nat m).length ca, .slice B (nat n).length cb] 25)).alloc (.cells #[.bool false, .slice none 0 0, .slice none 0 0] 25) := ⟨_, rfl⟩
  have B0 : Below w.heap.size w W := by subst hW; exact below_two _ _ _
  have hz : w.heap.size + 1 < W.heap.size := by subst hW; simp
  have HX := Lib.hid (show Rt W w.heap.size true (.slice A (nat m).length ca) (.slice B (nat n).length cb) by subst hW; exact two_new _ _ _ _ _)
  have HR := Lib.hid (show ResZ (w.heap.size + 1) W by subst hW; exact resz_two _ _)
  have HB := Lib.hid B0
  have HV := Lib.hid (c_eValid true (nat m) (nat n) true hv _ _ W (hla.on B0) (hlb.on B0))
  have HA1 := Lib.hid (hla.on B0)
  have HB1 := Lib.hid (hlb.on B0)
  clear B0 ha hb hla hlb hv
  go_enter Tryz.func35, Tryz.ntmps35
  go_wp2_with (fail)
  rw [← hW]
  clear hW
  obtain ⟨x0, x1, x2⟩ := HX.out.cells
  go_wp2_with (fail)
  go_at_call 19
  refine HV.out.mono ?_
  rintro e w1 ⟨rfl, b1⟩
  replace HX := Lib.hid (HX.out.on b1 HX.out.lt)
  replace HR := Lib.hid (HR.out.on b1 hz)
  replace HB := Lib.hid (below_join HB.out b1 HB.out.size)
  have HA2 := Lib.hid (HA1.out.on b1)
  have HB2 := Lib.hid (HB1.out.on b1)
  have hz1 := b1.size
  have HQ := Lib.hid (c_eQuotient m n h0 (by omega) (by omega) _ _ w1 HA2.out HB2.out)
  clear b1 x0 x1 x2
  obtain ⟨x0, x1, x2⟩ := HX.out.cells
  go_wp2_with (fail)
  go_at_call 76
  refine HQ.out.mono ?_
  rintro e w2 ⟨q, r, rfl, hq, hr, b2⟩
  obtain ⟨A2, c2, rfl⟩ := hq.1.shape
  obtain ⟨A3, c3, rfl⟩ := hr.1.shape
  replace HX := Lib.hid (HX.out.on b2 HX.out.lt)
  replace HR := Lib.hid (HR.out.on b2 (by omega))
  replace HB := Lib.hid (below_join HB.out b2 HB.out.size)
  have HQ2 := Lib.hid hq
  have hz2 := b2.size
  have hlq : (nat (m / n)).length ≤ 32 := len_le_of_le (Nat.div_le_self _ _) hm
  clear hq hr b2 x0 x1 x2
  obtain ⟨x0, x1, x2⟩ := HX.out.cells
  have hrl : (nat (m % n)).length = 0 := Nat.eq_zero_of_not_pos (fun h => hr0 (nat_len_pos.1 h))
  generalize (nat (m % n)).length = rl at *
  subst hrl
  obtain ⟨U, hU⟩ : ∃ U, U = w2.alloc (.cells #[.int .u32 1] 51) := ⟨_, rfl⟩
  have bU : Below w2.heap.size w2 U := by subst hU; exact (Below.refl _ _).alloc (Nat.le_refl _) _
  have HM := Lib.hid (c_eMade true (m / n) 1 (by omega) (by omega) (by rw [nat_one]; simp) _ (.slice (some ⟨w2.heap.size, 0, none⟩) 1 1) U (HQ2.out.on bU) (by subst hU; exact ls_one w2))
  have HBU := Lib.hid bU
  go_wp2_with (fail)
  rw [← hU]
  clear hU bU x0 x1 x2
  go_at_call 48
  refine HM.out.mono ?_
  rintro e w5 h5
  obtain ⟨s5, A6, m6, c6, A7, m7, c7, y5, rfl, hr5, b5⟩ := res_open h5
  have b45 : Below w2.heap.size w2 w5 := below_join HBU.out b5 HBU.out.size
  replace HR := Lib.hid (HR.out.on b45 (by omega))
  replace HB := Lib.hid (below_join HB.out b45 HB.out.size)
  have HR5 := Lib.hid hr5
  clear h5 hr5 b5 b45
  obtain ⟨z0, z1, z2⟩ := Rt.cells HR.out
  obtain ⟨f0, f1, f2⟩ := Rt.frozen HR.out
  go_wp2_with (fail)
  refine ret3t rfl rfl rfl rfl (row_store3 HR.out _ _ _) ⟨_, _, rfl, below_store3 HB.out (by omega) _ _ _, ?_⟩
  exact HR5.out.storeZ HR.out _ _ _
end Go.Proofs.YtfdkdloldjfnjaaGreatDoor
