/-
  DERIVED. The reference's Mul, of fractions that are valid.
-/
import Derived.Test.YtfdkdloldjfnjaaGreatDoorUZ
import Derived.Test.YtfdkdloldjfnjaaGreatDoorUN
import Derived.Test.YtfdkdloldjfnjaaGreatDoorUO
set_option linter.unusedVariables false
set_option linter.unusedSimpArgs false
namespace Go.Proofs.YtfdkdloldjfnjaaGreatDoor
open Go.RowKit
set_option maxRecDepth 100000

theorem prodN (m n : Nat) (hm : (nat m).length ≤ 32) (hn : (nat n).length ≤ 32) {va vb : Value} {X : World} (h : Ls X va (nat m)) (k : Ls X vb (nat n)) : Calls Tryz.prog 69 #[va, vb] X (NewNat (m * n) X) := by
  have := c_eProduct (nat m) (nat n) (by omega) (by omega) va vb X h k
  rwa [val_nat, val_nat] at this
set_option maxHeartbeats 8000000 in
theorem c_eMulV (s t : Bool) (m n a b : Nat) (hx : validB s (nat m) (nat a) = true) (hy : validB t (nat n) (nat b) = true) (hab : 0 < a * b) (hm : (nat m).length ≤ 32) (hn : (nat n).length ≤ 32) (ha : (nat a).length ≤ 32) (hb : (nat b).length ≤ 32) (v1 v2 u1 u2 : Value) (w : World) (k1 : Ls w v1 (nat m)) (k2 : Ls w v2 (nat a)) (k3 : Ls w u1 (nat n)) (k4 : Ls w u2 (nat b)) :
    Calls Tryz.prog 30 #[.agg #[.bool s, v1, v2], .agg #[.bool t, u1, u2]] w (ResPost (redP (s != t) (m * n) (a * b)) 3 w) := by
  obtain ⟨W, hW⟩ : ∃ W, W = ((w.alloc (.cells #[.bool s, v1, v2] 25)).alloc (.cells #[.bool t, u1, u2] 25)).alloc (.cells #[.bool false, .slice none 0 0, .slice none 0 0] 25) := ⟨_, rfl⟩
  have S0 : Six w.heap.size s v1 v2 t u1 u2 W := by subst hW; exact six_new _ _ _ _ _ _ _ _
  have R0 : ResZ (w.heap.size + 2) W := by subst hW; exact row_new4 _ _ _ (by simp)
  have B0 : Below w.heap.size w W := by subst hW; exact (((Below.refl _ _).alloc (Nat.le_refl _) _).alloc (by simp) _).alloc (by simp; omega) _
  have hz : w.heap.size + 2 < W.heap.size := by subst hW; simp
  have HV1 := Lib.hid (fun (X : World) (hX : Below w.heap.size w X) => c_eValid s (nat m) (nat a) true hx v1 v2 X (k1.on hX) (k2.on hX))
  have HV2 := Lib.hid (fun (X : World) (hX : Below w.heap.size w X) => c_eValid t (nat n) (nat b) true hy u1 u2 X (k3.on hX) (k4.on hX))
  have HP1 := Lib.hid (fun (X : World) (hX : Below w.heap.size w X) => prodN m n hm hn (k1.on hX) (k3.on hX))
  have HP2 := Lib.hid (fun (X : World) (hX : Below w.heap.size w X) => prodN a b ha hb (k2.on hX) (k4.on hX))
  have L1 : (nat (m * n)).length ≤ 80000 := by have := mul_len m n; omega
  have L2 : (nat (a * b)).length ≤ 80000 := by have := mul_len a b; omega
  have HM := Lib.hid (fun (X : World) (vn vd : Value) (h1 : Ls X vn (nat (m * n))) (h2 : Ls X vd (nat (a * b))) => show Calls Tryz.prog 48 #[.bool (!(s == t)), vn, vd] X (ResPost (redP (s != t) (m * n) (a * b)) 3 X) from c_eMade (s != t) (m * n) (a * b) hab L1 L2 vn vd X h1 h2)
  obtain ⟨A1, c1, rfl⟩ := k1.1.shape
  obtain ⟨A2, c2, rfl⟩ := k2.1.shape
  obtain ⟨A3, c3, rfl⟩ := k3.1.shape
  obtain ⟨A4, c4, rfl⟩ := k4.1.shape
  have HS0 := Lib.hid S0
  have HR0 := Lib.hid R0
  have HB0 := Lib.hid B0
  obtain ⟨q0, q1, q2, q3, q4, q5⟩ := S0
  clear k1 k2 k3 k4 hx hy hab L1 L2 R0 B0
  go_enter Tryz.func30, Tryz.ntmps30
  go_wp2_with (fail)
  rw [← hW]
  clear hW
  go_at_call 19
  refine (HV1.out _ HB0.out).mono ?_
  rintro e w1 ⟨rfl, b1⟩
  have HS1 := Lib.hid (HS0.out.on b1 (by omega))
  have HR1 := Lib.hid (HR0.out.on b1 (by omega))
  have HB1 := Lib.hid (below_join HB0.out b1 HB0.out.size)
  have hz1 : w.heap.size + 2 < w1.heap.size := Nat.lt_of_lt_of_le hz b1.size
  clear b1 q0 q1 q2 q3 q4 q5
  obtain ⟨q0, q1, q2, q3, q4, q5⟩ := HS1.out
  go_wp2_with (fail)
  go_at_call 19
  refine (HV2.out _ HB1.out).mono ?_
  rintro e w2 ⟨rfl, b2⟩
  have HS2 := Lib.hid (HS1.out.on b2 (by omega))
  have HR2 := Lib.hid (HR1.out.on b2 (by omega))
  have HB2 := Lib.hid (below_join HB1.out b2 HB1.out.size)
  have hz2 : w.heap.size + 2 < w2.heap.size := Nat.lt_of_lt_of_le hz1 b2.size
  clear b2 q0 q1 q2 q3 q4 q5
  obtain ⟨q0, q1, q2, q3, q4, q5⟩ := HS2.out
  go_wp2_with (fail)
  clear q0 q1 q2 q3 q4 q5
  go_region_held3 (fun X => X.cell? ⟨w.heap.size, 0, none⟩ = some (.bool s) ∧ X.cell? ⟨w.heap.size, 1, none⟩ = some (.slice A1 (nat m).length c1) ∧ X.cell? ⟨w.heap.size, 2, none⟩ = some (.slice A2 (nat a).length c2) ∧ X.cell? ⟨w.heap.size + 1, 0, none⟩ = some (.bool t) ∧ X.cell? ⟨w.heap.size + 1, 1, none⟩ = some (.slice A3 (nat n).length c3) ∧ X.cell? ⟨w.heap.size + 1, 2, none⟩ = some (.slice A4 (nat b).length c4))
    (first | exact HSc.out.store3 (by omega) _ _ _ | exact HSc.out | exact HSb.out | exact HSa.out | exact HS2.out)
    (first
      | (go_at_call 69; (with_reducible refine (HP1.out _ HB2.out.drew).mono ?_); rintro e wa ha0; obtain ⟨va, rfl, ga, hba0⟩ := NewNat.ls ha0; obtain ⟨D1, d1, rfl⟩ := ga.1.shape; have hba := Below.undrew hba0; have HGa := Lib.hid ga; have HSa := Lib.hid (HS2.out.on hba (by omega)); have HRa := Lib.hid (HR2.out.on hba (by omega)); have HBa := Lib.hid (below_join HB2.out hba HB2.out.size); have hza := Nat.lt_of_lt_of_le hz2 hba.size; clear ha0 hba0 hba ga)
      | (go_at_call 69; (with_reducible refine (HP2.out _ HBa.out).mono ?_); rintro e wb hb0; obtain ⟨vb, rfl, gb, hbb⟩ := NewNat.ls hb0; obtain ⟨D2, d2, rfl⟩ := gb.1.shape; have HGb := Lib.hid gb; have HGa' := Lib.hid (HGa.out.on hbb); have HSb := Lib.hid (HSa.out.on hbb (by omega)); have HRb := Lib.hid (HRa.out.on hbb (by omega)); have HBb := Lib.hid (below_join HBa.out hbb HBa.out.size); have hzb := Nat.lt_of_lt_of_le hza hbb.size; clear hb0 hbb gb)
      | (go_at_call 48; (with_reducible refine (HM.out wb _ _ HGa'.out HGb.out).mono ?_); rintro e wc hc0; obtain ⟨s', A5, m5, c5, A6, m6, c6, y, rfl, gc, hbc⟩ := res_open hc0; have HRS := Lib.hid gc; have HSc := Lib.hid (HSb.out.on hbc (by omega)); have HRc := Lib.hid (show ResZ (w.heap.size + 1 + 1) wc from HRb.out.on hbc (by omega)); have HBc := Lib.hid (below_join HBb.out hbc HBb.out.size); obtain ⟨f0, f1, f2⟩ := three_frozen HRc.out; obtain ⟨e0, e1, e2⟩ := three_cells HRc.out; clear hc0 hbc gc)
      | fail)
  all_goals (
    go_wp2_with (fail)
    have hst := HRS.out.storeZ HRc.out (.bool s') (.slice A5 m5 c5) (.slice A6 m6 c6)
    exact ret3t (b := w.heap.size + 1 + 1) rfl rfl rfl rfl (row_store3 HRc.out _ _ _) ⟨_, _, rfl, below_store3 HBc.out (by omega) _ _ _, hst.1, hst.2⟩)
end Go.Proofs.YtfdkdloldjfnjaaGreatDoor
