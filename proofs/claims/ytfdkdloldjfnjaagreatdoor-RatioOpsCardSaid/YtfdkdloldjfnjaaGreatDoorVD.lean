/-
  DERIVED. The reference's negated, order, Sub, Cmp. (Written by gen/genVD.py.)
-/
import Derived.Test.YtfdkdloldjfnjaaGreatDoorVC
import Derived.Test.YtfdkdloldjfnjaaGreatDoorYRJm
import Derived.Test.YtfdkdloldjfnjaaGreatDoorUR
set_option linter.unusedVariables false
set_option linter.unusedSimpArgs false
namespace Go.Proofs.YtfdkdloldjfnjaaGreatDoor
open Go.RowKit
set_option maxRecDepth 100000

theorem rt_last (w : World) (o : Obj) (s : Bool) (v1 v2 : Value) : Rt ((w.alloc o).alloc (.cells #[.bool s, v1, v2] 25)) (w.heap.size + 1) s v1 v2 := row_new4 _ _ _ (by simp)
set_option maxHeartbeats 2000000 in
theorem c_eneg (t : Bool) (l l' : List Nat) (r : Bool) (hr : (!t && decide (0 < l.length)) = r) (u1 u2 : Value) (w : World) (k1 : Ls w u1 l) (k2 : Ls w u2 l') :
    Calls Tryz.prog 70 #[.agg #[.bool t, u1, u2]] w fun e w' => e = .returned (.agg #[.bool r, u1, u2]) ∧ Below w.heap.size w w' := by
  obtain ⟨A1, c1, rfl⟩ := k1.1.shape
  obtain ⟨A2, c2, rfl⟩ := k2.1.shape
  cases t
  · by_cases hl : 0 < l.length
    · have hl' : (0 : Int) < (l.length : Int) := by omega
      obtain rfl : true = r := by rw [← hr, decide_eq_true hl]; rfl
      clear k1 k2 hr
      go_enter Tryz.func70, Tryz.ntmps70
      go_wp2_with (fail)
      exact ret3 (b := w.heap.size + 1) rfl rfl rfl (rt_last _ _ _ _ _) ⟨rfl, below_two _ _ _⟩
    · have hl' : decide ((0 : Int) < (l.length : Int)) = false := by rw [decide_eq_false_iff_not]; omega
      obtain rfl : false = r := by rw [← hr, decide_eq_false hl]; rfl
      clear k1 k2 hr
      go_enter Tryz.func70, Tryz.ntmps70
      go_wp2_with (fail)
      exact ret3 (b := w.heap.size + 1) rfl rfl rfl (rt_last _ _ _ _ _) ⟨rfl, below_two _ _ _⟩
  · obtain rfl : false = r := by rw [← hr]; rfl
    clear k1 k2 hr
    go_enter Tryz.func70, Tryz.ntmps70
    go_wp2_with (fail)
    exact ret3 (b := w.heap.size + 1) rfl rfl rfl (rt_last _ _ _ _ _) ⟨rfl, below_two _ _ _⟩
/-- How two fractions compare, by their products. -/
theorem ord_cases {s t : Bool} {m n a b : Nat} (ha : a ≠ 0) (hb : b ≠ 0) (hs : s = true → 0 < m) (ht : t = true → 0 < n) :
    qcmp (quo s m a) (quo t n b) = if s = true ∧ t = true then -cmpI (m * b) (n * a) else if s = true then -1 else if t = true then 1 else cmpI (m * b) (n * a) := by
  rw [← ordP_qcmp ha hb]
  have hn : 0 < n * a ↔ 0 < n := by
    constructor
    · intro h
      rcases Nat.eq_zero_or_pos n with h0 | h0
      · rw [h0, Nat.zero_mul] at h; omega
      · exact h0
    · intro h; exact Nat.mul_pos h (by omega)
  have hm : 0 < m * b ↔ 0 < m := by
    constructor
    · intro h
      rcases Nat.eq_zero_or_pos m with h0 | h0
      · rw [h0, Nat.zero_mul] at h; omega
      · exact h0
    · intro h; exact Nat.mul_pos h (by omega)
  unfold ordP sumP negP cmpI
  generalize m * b = P at *
  generalize n * a = Q at *
  by_cases h0 : 0 < n <;> cases s <;> cases t <;> simp_all <;> (repeat' split) <;> (try simp_all) <;> (try omega)
def oS (s t : Bool) (P Q : Nat) : Int := if s = true ∧ t = true then -cmpI P Q else if s = true then -1 else if t = true then 1 else cmpI P Q
set_option maxHeartbeats 8000000 in
theorem c_eorder_ff (m n a b : Nat) (c : Int) (hc : cmpI (m * b) (n * a) = c) (_hc0 : -1 ≤ c) (_hc1 : c ≤ 1) (hm : (nat m).length ≤ 32) (hn : (nat n).length ≤ 32) (ha : (nat a).length ≤ 32) (hb : (nat b).length ≤ 32) (v1 v2 u1 u2 : Value) (w : World) (k1 : Ls w v1 (nat m)) (k2 : Ls w v2 (nat a)) (k3 : Ls w u1 (nat n)) (k4 : Ls w u2 (nat b)) :
    Calls Tryz.prog 72 #[.agg #[.bool false, v1, v2], .agg #[.bool false, u1, u2]] w fun e w' => e = .returned (.int .i64 (c)) ∧ Below w.heap.size w w' := by
  obtain ⟨W, hW⟩ : ∃ W, W = (w.alloc (.cells #[.bool false, v1, v2] 25)).alloc (.cells #[.bool false, u1, u2] 25) := ⟨_, rfl⟩
  have HP1 := Lib.hid (fun (X : World) (hX : Below w.heap.size w X) => prodN m b hm hb (k1.on hX) (k4.on hX))
  have HP2 := Lib.hid (fun (X : World) (hX : Below w.heap.size w X) => prodN n a hn ha (k3.on hX) (k2.on hX))
  have HC := Lib.hid (fun (X : World) (p q : Value) (h1 : Ls X p (nat (m * b))) (h2 : Ls X q (nat (n * a))) => (show Calls Tryz.prog 99 #[p, q] X (CmpPost c X) from by
    have h := c_eCompare (nat (m * b)) (nat (n * a)) (lb_nat _) (lb_nat _) p q _ _ X h1.1 h2.1
    rwa [cmpL_can (can_nat _) (can_nat _), val_nat, val_nat, hc] at h))
  obtain ⟨A1, c1, rfl⟩ := k1.1.shape
  obtain ⟨A2, c2, rfl⟩ := k2.1.shape
  obtain ⟨A3, c3, rfl⟩ := k3.1.shape
  obtain ⟨A4, c4, rfl⟩ := k4.1.shape
  have HX0 := Lib.hid (show Rt W w.heap.size false (.slice A1 (nat m).length c1) (.slice A2 (nat a).length c2) by subst hW; exact two_new _ _ _ _ _)
  have HY0 := Lib.hid (show Rt W (w.heap.size + 1) false (.slice A3 (nat n).length c3) (.slice A4 (nat b).length c4) by subst hW; exact rt_last _ _ _ _ _)
  have HB0 := Lib.hid (show Below w.heap.size w W by subst hW; exact below_two _ _ _)
  clear k1 k2 k3 k4 hc
  go_enter Tryz.func72, Tryz.ntmps72
  go_wp2_with (fail)
  rw [← hW]
  clear hW
  go_region_held3 (fun X => (X.cell? ⟨w.heap.size, 0, none⟩ = some (.bool false) ∧ X.cell? ⟨w.heap.size, 1, none⟩ = some (.slice A1 (nat m).length c1) ∧ X.cell? ⟨w.heap.size, 2, none⟩ = some (.slice A2 (nat a).length c2)) ∧ X.cell? ⟨w.heap.size + 1, 0, none⟩ = some (.bool false) ∧ X.cell? ⟨w.heap.size + 1, 1, none⟩ = some (.slice A3 (nat n).length c3) ∧ X.cell? ⟨w.heap.size + 1, 2, none⟩ = some (.slice A4 (nat b).length c4))
    (first | exact ⟨HXc.out.cells, HYc.out.cells⟩ | exact ⟨HXb.out.cells, HYb.out.cells⟩ | exact ⟨HXa.out.cells, HYa.out.cells⟩ | exact ⟨HX0.out.cells, HY0.out.cells⟩)
    (first
      | (go_at_call 69; (with_reducible refine (HP1.out _ HB0.out.drew).mono ?_); rintro e wa ha0; obtain ⟨va, rfl, ga, hba0⟩ := NewNat.ls ha0; obtain ⟨D1, d1, rfl⟩ := ga.1.shape; have hba := Below.undrew hba0; have HGa := Lib.hid ga; have HXa := Lib.hid (HX0.out.on hba HX0.out.lt); have HYa := Lib.hid (HY0.out.on hba HY0.out.lt); have HBa := Lib.hid (below_join HB0.out hba HB0.out.size); clear ha0 hba0 hba ga)
      | (go_at_call 69; (with_reducible refine (HP2.out _ HBa.out).mono ?_); rintro e wb hb0; obtain ⟨vb, rfl, gb, hbb⟩ := NewNat.ls hb0; obtain ⟨D2, d2, rfl⟩ := gb.1.shape; have HGb := Lib.hid gb; have HGa' := Lib.hid (HGa.out.on hbb); have HXb := Lib.hid (HXa.out.on hbb HXa.out.lt); have HYb := Lib.hid (HYa.out.on hbb HYa.out.lt); have HBb := Lib.hid (below_join HBa.out hbb HBa.out.size); clear hb0 hbb gb)
      | (go_at_call 99; (with_reducible refine (HC.out wb _ _ HGa'.out HGb.out).mono ?_); rintro e wc ⟨rfl, nd, hwc⟩; have HXc := Lib.hid (show Rt wc w.heap.size false (.slice A1 (nat m).length c1) (.slice A2 (nat a).length c2) from hwc ▸ HXb.out); have HYc := Lib.hid (show Rt wc (w.heap.size + 1) false (.slice A3 (nat n).length c3) (.slice A4 (nat b).length c4) from hwc ▸ HYb.out); have HBc := Lib.hid (show Below w.heap.size w wc from hwc ▸ below_drewN HBb.out nd); clear hwc)
      | fail)
  all_goals (
    obtain ⟨x0, x1, x2⟩ := HXc.out.cells
    obtain ⟨y0, y1, y2⟩ := HYc.out.cells
    go_wp2_with (fail)
    go_ret
    exact ⟨rfl, HBc.out⟩)
set_option maxHeartbeats 8000000 in
theorem c_eorder_ft (m n a b : Nat) (c : Int) (hc : cmpI (m * b) (n * a) = c) (_hc0 : -1 ≤ c) (_hc1 : c ≤ 1) (hm : (nat m).length ≤ 32) (hn : (nat n).length ≤ 32) (ha : (nat a).length ≤ 32) (hb : (nat b).length ≤ 32) (v1 v2 u1 u2 : Value) (w : World) (k1 : Ls w v1 (nat m)) (k2 : Ls w v2 (nat a)) (k3 : Ls w u1 (nat n)) (k4 : Ls w u2 (nat b)) :
    Calls Tryz.prog 72 #[.agg #[.bool false, v1, v2], .agg #[.bool true, u1, u2]] w fun e w' => e = .returned (.int .i64 (1)) ∧ Below w.heap.size w w' := by
  obtain ⟨W, hW⟩ : ∃ W, W = (w.alloc (.cells #[.bool false, v1, v2] 25)).alloc (.cells #[.bool true, u1, u2] 25) := ⟨_, rfl⟩
  have HP1 := Lib.hid (fun (X : World) (hX : Below w.heap.size w X) => prodN m b hm hb (k1.on hX) (k4.on hX))
  have HP2 := Lib.hid (fun (X : World) (hX : Below w.heap.size w X) => prodN n a hn ha (k3.on hX) (k2.on hX))
  have HC := Lib.hid (fun (X : World) (p q : Value) (h1 : Ls X p (nat (m * b))) (h2 : Ls X q (nat (n * a))) => (show Calls Tryz.prog 99 #[p, q] X (CmpPost c X) from by
    have h := c_eCompare (nat (m * b)) (nat (n * a)) (lb_nat _) (lb_nat _) p q _ _ X h1.1 h2.1
    rwa [cmpL_can (can_nat _) (can_nat _), val_nat, val_nat, hc] at h))
  obtain ⟨A1, c1, rfl⟩ := k1.1.shape
  obtain ⟨A2, c2, rfl⟩ := k2.1.shape
  obtain ⟨A3, c3, rfl⟩ := k3.1.shape
  obtain ⟨A4, c4, rfl⟩ := k4.1.shape
  have HX0 := Lib.hid (show Rt W w.heap.size false (.slice A1 (nat m).length c1) (.slice A2 (nat a).length c2) by subst hW; exact two_new _ _ _ _ _)
  have HY0 := Lib.hid (show Rt W (w.heap.size + 1) true (.slice A3 (nat n).length c3) (.slice A4 (nat b).length c4) by subst hW; exact rt_last _ _ _ _ _)
  have HB0 := Lib.hid (show Below w.heap.size w W by subst hW; exact below_two _ _ _)
  clear k1 k2 k3 k4 hc
  go_enter Tryz.func72, Tryz.ntmps72
  go_wp2_with (fail)
  rw [← hW]
  clear hW
  go_region_held3 (fun X => (X.cell? ⟨w.heap.size, 0, none⟩ = some (.bool false) ∧ X.cell? ⟨w.heap.size, 1, none⟩ = some (.slice A1 (nat m).length c1) ∧ X.cell? ⟨w.heap.size, 2, none⟩ = some (.slice A2 (nat a).length c2)) ∧ X.cell? ⟨w.heap.size + 1, 0, none⟩ = some (.bool true) ∧ X.cell? ⟨w.heap.size + 1, 1, none⟩ = some (.slice A3 (nat n).length c3) ∧ X.cell? ⟨w.heap.size + 1, 2, none⟩ = some (.slice A4 (nat b).length c4))
    (first | exact ⟨HXc.out.cells, HYc.out.cells⟩ | exact ⟨HXb.out.cells, HYb.out.cells⟩ | exact ⟨HXa.out.cells, HYa.out.cells⟩ | exact ⟨HX0.out.cells, HY0.out.cells⟩)
    (first
      | (go_at_call 69; (with_reducible refine (HP1.out _ HB0.out.drew).mono ?_); rintro e wa ha0; obtain ⟨va, rfl, ga, hba0⟩ := NewNat.ls ha0; obtain ⟨D1, d1, rfl⟩ := ga.1.shape; have hba := Below.undrew hba0; have HGa := Lib.hid ga; have HXa := Lib.hid (HX0.out.on hba HX0.out.lt); have HYa := Lib.hid (HY0.out.on hba HY0.out.lt); have HBa := Lib.hid (below_join HB0.out hba HB0.out.size); clear ha0 hba0 hba ga)
      | (go_at_call 69; (with_reducible refine (HP2.out _ HBa.out).mono ?_); rintro e wb hb0; obtain ⟨vb, rfl, gb, hbb⟩ := NewNat.ls hb0; obtain ⟨D2, d2, rfl⟩ := gb.1.shape; have HGb := Lib.hid gb; have HGa' := Lib.hid (HGa.out.on hbb); have HXb := Lib.hid (HXa.out.on hbb HXa.out.lt); have HYb := Lib.hid (HYa.out.on hbb HYa.out.lt); have HBb := Lib.hid (below_join HBa.out hbb HBa.out.size); clear hb0 hbb gb)
      | (go_at_call 99; (with_reducible refine (HC.out wb _ _ HGa'.out HGb.out).mono ?_); rintro e wc ⟨rfl, nd, hwc⟩; have HXc := Lib.hid (show Rt wc w.heap.size false (.slice A1 (nat m).length c1) (.slice A2 (nat a).length c2) from hwc ▸ HXb.out); have HYc := Lib.hid (show Rt wc (w.heap.size + 1) true (.slice A3 (nat n).length c3) (.slice A4 (nat b).length c4) from hwc ▸ HYb.out); have HBc := Lib.hid (show Below w.heap.size w wc from hwc ▸ below_drewN HBb.out nd); clear hwc)
      | fail)
  all_goals (
    obtain ⟨x0, x1, x2⟩ := HXc.out.cells
    obtain ⟨y0, y1, y2⟩ := HYc.out.cells
    go_wp2_with (fail)
    go_ret
    exact ⟨rfl, HBc.out⟩)
set_option maxHeartbeats 8000000 in
theorem c_eorder_tf (m n a b : Nat) (c : Int) (hc : cmpI (m * b) (n * a) = c) (_hc0 : -1 ≤ c) (_hc1 : c ≤ 1) (hm : (nat m).length ≤ 32) (hn : (nat n).length ≤ 32) (ha : (nat a).length ≤ 32) (hb : (nat b).length ≤ 32) (v1 v2 u1 u2 : Value) (w : World) (k1 : Ls w v1 (nat m)) (k2 : Ls w v2 (nat a)) (k3 : Ls w u1 (nat n)) (k4 : Ls w u2 (nat b)) :
    Calls Tryz.prog 72 #[.agg #[.bool true, v1, v2], .agg #[.bool false, u1, u2]] w fun e w' => e = .returned (.int .i64 (-1)) ∧ Below w.heap.size w w' := by
  obtain ⟨W, hW⟩ : ∃ W, W = (w.alloc (.cells #[.bool true, v1, v2] 25)).alloc (.cells #[.bool false, u1, u2] 25) := ⟨_, rfl⟩
  have HP1 := Lib.hid (fun (X : World) (hX : Below w.heap.size w X) => prodN m b hm hb (k1.on hX) (k4.on hX))
  have HP2 := Lib.hid (fun (X : World) (hX : Below w.heap.size w X) => prodN n a hn ha (k3.on hX) (k2.on hX))
  have HC := Lib.hid (fun (X : World) (p q : Value) (h1 : Ls X p (nat (m * b))) (h2 : Ls X q (nat (n * a))) => (show Calls Tryz.prog 99 #[p, q] X (CmpPost c X) from by
    have h := c_eCompare (nat (m * b)) (nat (n * a)) (lb_nat _) (lb_nat _) p q _ _ X h1.1 h2.1
    rwa [cmpL_can (can_nat _) (can_nat _), val_nat, val_nat, hc] at h))
  obtain ⟨A1, c1, rfl⟩ := k1.1.shape
  obtain ⟨A2, c2, rfl⟩ := k2.1.shape
  obtain ⟨A3, c3, rfl⟩ := k3.1.shape
  obtain ⟨A4, c4, rfl⟩ := k4.1.shape
  have HX0 := Lib.hid (show Rt W w.heap.size true (.slice A1 (nat m).length c1) (.slice A2 (nat a).length c2) by subst hW; exact two_new _ _ _ _ _)
  have HY0 := Lib.hid (show Rt W (w.heap.size + 1) false (.slice A3 (nat n).length c3) (.slice A4 (nat b).length c4) by subst hW; exact rt_last _ _ _ _ _)
  have HB0 := Lib.hid (show Below w.heap.size w W by subst hW; exact below_two _ _ _)
  clear k1 k2 k3 k4 hc
  go_enter Tryz.func72, Tryz.ntmps72
  go_wp2_with (fail)
  rw [← hW]
  clear hW
  go_region_held3 (fun X => (X.cell? ⟨w.heap.size, 0, none⟩ = some (.bool true) ∧ X.cell? ⟨w.heap.size, 1, none⟩ = some (.slice A1 (nat m).length c1) ∧ X.cell? ⟨w.heap.size, 2, none⟩ = some (.slice A2 (nat a).length c2)) ∧ X.cell? ⟨w.heap.size + 1, 0, none⟩ = some (.bool false) ∧ X.cell? ⟨w.heap.size + 1, 1, none⟩ = some (.slice A3 (nat n).length c3) ∧ X.cell? ⟨w.heap.size + 1, 2, none⟩ = some (.slice A4 (nat b).length c4))
    (first | exact ⟨HXc.out.cells, HYc.out.cells⟩ | exact ⟨HXb.out.cells, HYb.out.cells⟩ | exact ⟨HXa.out.cells, HYa.out.cells⟩ | exact ⟨HX0.out.cells, HY0.out.cells⟩)
    (first
      | (go_at_call 69; (with_reducible refine (HP1.out _ HB0.out.drew).mono ?_); rintro e wa ha0; obtain ⟨va, rfl, ga, hba0⟩ := NewNat.ls ha0; obtain ⟨D1, d1, rfl⟩ := ga.1.shape; have hba := Below.undrew hba0; have HGa := Lib.hid ga; have HXa := Lib.hid (HX0.out.on hba HX0.out.lt); have HYa := Lib.hid (HY0.out.on hba HY0.out.lt); have HBa := Lib.hid (below_join HB0.out hba HB0.out.size); clear ha0 hba0 hba ga)
      | (go_at_call 69; (with_reducible refine (HP2.out _ HBa.out).mono ?_); rintro e wb hb0; obtain ⟨vb, rfl, gb, hbb⟩ := NewNat.ls hb0; obtain ⟨D2, d2, rfl⟩ := gb.1.shape; have HGb := Lib.hid gb; have HGa' := Lib.hid (HGa.out.on hbb); have HXb := Lib.hid (HXa.out.on hbb HXa.out.lt); have HYb := Lib.hid (HYa.out.on hbb HYa.out.lt); have HBb := Lib.hid (below_join HBa.out hbb HBa.out.size); clear hb0 hbb gb)
      | (go_at_call 99; (with_reducible refine (HC.out wb _ _ HGa'.out HGb.out).mono ?_); rintro e wc ⟨rfl, nd, hwc⟩; have HXc := Lib.hid (show Rt wc w.heap.size true (.slice A1 (nat m).length c1) (.slice A2 (nat a).length c2) from hwc ▸ HXb.out); have HYc := Lib.hid (show Rt wc (w.heap.size + 1) false (.slice A3 (nat n).length c3) (.slice A4 (nat b).length c4) from hwc ▸ HYb.out); have HBc := Lib.hid (show Below w.heap.size w wc from hwc ▸ below_drewN HBb.out nd); clear hwc)
      | fail)
  all_goals (
    obtain ⟨x0, x1, x2⟩ := HXc.out.cells
    obtain ⟨y0, y1, y2⟩ := HYc.out.cells
    go_wp2_with (fail)
    go_ret
    exact ⟨rfl, HBc.out⟩)
set_option maxHeartbeats 8000000 in
theorem c_eorder_tt (m n a b : Nat) (c : Int) (hc : cmpI (m * b) (n * a) = c) (hc0 : -1 ≤ c) (hc1 : c ≤ 1) (hm : (nat m).length ≤ 32) (hn : (nat n).length ≤ 32) (ha : (nat a).length ≤ 32) (hb : (nat b).length ≤ 32) (v1 v2 u1 u2 : Value) (w : World) (k1 : Ls w v1 (nat m)) (k2 : Ls w v2 (nat a)) (k3 : Ls w u1 (nat n)) (k4 : Ls w u2 (nat b)) :
    Calls Tryz.prog 72 #[.agg #[.bool true, v1, v2], .agg #[.bool true, u1, u2]] w fun e w' => e = .returned (.int .i64 (-c)) ∧ Below w.heap.size w w' := by
  obtain ⟨W, hW⟩ : ∃ W, W = (w.alloc (.cells #[.bool true, v1, v2] 25)).alloc (.cells #[.bool true, u1, u2] 25) := ⟨_, rfl⟩
  have HP1 := Lib.hid (fun (X : World) (hX : Below w.heap.size w X) => prodN m b hm hb (k1.on hX) (k4.on hX))
  have HP2 := Lib.hid (fun (X : World) (hX : Below w.heap.size w X) => prodN n a hn ha (k3.on hX) (k2.on hX))
  have HC := Lib.hid (fun (X : World) (p q : Value) (h1 : Ls X p (nat (m * b))) (h2 : Ls X q (nat (n * a))) => (show Calls Tryz.prog 99 #[p, q] X (CmpPost c X) from by
    have h := c_eCompare (nat (m * b)) (nat (n * a)) (lb_nat _) (lb_nat _) p q _ _ X h1.1 h2.1
    rwa [cmpL_can (can_nat _) (can_nat _), val_nat, val_nat, hc] at h))
  obtain ⟨A1, c1, rfl⟩ := k1.1.shape
  obtain ⟨A2, c2, rfl⟩ := k2.1.shape
  obtain ⟨A3, c3, rfl⟩ := k3.1.shape
  obtain ⟨A4, c4, rfl⟩ := k4.1.shape
  have HX0 := Lib.hid (show Rt W w.heap.size true (.slice A1 (nat m).length c1) (.slice A2 (nat a).length c2) by subst hW; exact two_new _ _ _ _ _)
  have HY0 := Lib.hid (show Rt W (w.heap.size + 1) true (.slice A3 (nat n).length c3) (.slice A4 (nat b).length c4) by subst hW; exact rt_last _ _ _ _ _)
  have HB0 := Lib.hid (show Below w.heap.size w W by subst hW; exact below_two _ _ _)
  clear k1 k2 k3 k4 hc
  go_enter Tryz.func72, Tryz.ntmps72
  go_wp2_with (fail)
  rw [← hW]
  clear hW
  go_region_held3 (fun X => (X.cell? ⟨w.heap.size, 0, none⟩ = some (.bool true) ∧ X.cell? ⟨w.heap.size, 1, none⟩ = some (.slice A1 (nat m).length c1) ∧ X.cell? ⟨w.heap.size, 2, none⟩ = some (.slice A2 (nat a).length c2)) ∧ X.cell? ⟨w.heap.size + 1, 0, none⟩ = some (.bool true) ∧ X.cell? ⟨w.heap.size + 1, 1, none⟩ = some (.slice A3 (nat n).length c3) ∧ X.cell? ⟨w.heap.size + 1, 2, none⟩ = some (.slice A4 (nat b).length c4))
    (first | exact ⟨HXc.out.cells, HYc.out.cells⟩ | exact ⟨HXb.out.cells, HYb.out.cells⟩ | exact ⟨HXa.out.cells, HYa.out.cells⟩ | exact ⟨HX0.out.cells, HY0.out.cells⟩)
    (first
      | (go_at_call 69; (with_reducible refine (HP1.out _ HB0.out.drew).mono ?_); rintro e wa ha0; obtain ⟨va, rfl, ga, hba0⟩ := NewNat.ls ha0; obtain ⟨D1, d1, rfl⟩ := ga.1.shape; have hba := Below.undrew hba0; have HGa := Lib.hid ga; have HXa := Lib.hid (HX0.out.on hba HX0.out.lt); have HYa := Lib.hid (HY0.out.on hba HY0.out.lt); have HBa := Lib.hid (below_join HB0.out hba HB0.out.size); clear ha0 hba0 hba ga)
      | (go_at_call 69; (with_reducible refine (HP2.out _ HBa.out).mono ?_); rintro e wb hb0; obtain ⟨vb, rfl, gb, hbb⟩ := NewNat.ls hb0; obtain ⟨D2, d2, rfl⟩ := gb.1.shape; have HGb := Lib.hid gb; have HGa' := Lib.hid (HGa.out.on hbb); have HXb := Lib.hid (HXa.out.on hbb HXa.out.lt); have HYb := Lib.hid (HYa.out.on hbb HYa.out.lt); have HBb := Lib.hid (below_join HBa.out hbb HBa.out.size); clear hb0 hbb gb)
      | (go_at_call 99; (with_reducible refine (HC.out wb _ _ HGa'.out HGb.out).mono ?_); rintro e wc ⟨rfl, nd, hwc⟩; have HXc := Lib.hid (show Rt wc w.heap.size true (.slice A1 (nat m).length c1) (.slice A2 (nat a).length c2) from hwc ▸ HXb.out); have HYc := Lib.hid (show Rt wc (w.heap.size + 1) true (.slice A3 (nat n).length c3) (.slice A4 (nat b).length c4) from hwc ▸ HYb.out); have HBc := Lib.hid (show Below w.heap.size w wc from hwc ▸ below_drewN HBb.out nd); clear hwc)
      | fail)
  all_goals (
    obtain ⟨x0, x1, x2⟩ := HXc.out.cells
    obtain ⟨y0, y1, y2⟩ := HYc.out.cells
    go_wp2_with (fail)
    go_ret
    exact ⟨rfl, HBc.out⟩)
theorem c_eorder (s t : Bool) (m n a b : Nat) (hx : validB s (nat m) (nat a) = true) (hy : validB t (nat n) (nat b) = true) (v1 v2 u1 u2 : Value) (w : World) (k1 : Ls w v1 (nat m)) (k2 : Ls w v2 (nat a)) (k3 : Ls w u1 (nat n)) (k4 : Ls w u2 (nat b)) :
    Calls Tryz.prog 72 #[.agg #[.bool s, v1, v2], .agg #[.bool t, u1, u2]] w fun e w' => e = .returned (.int .i64 (qcmp (quo s m a) (quo t n b))) ∧ Below w.heap.size w w' := by
  obtain ⟨l1, l2, pa, -⟩ := valid_facts hx
  obtain ⟨l3, l4, pb, -⟩ := valid_facts hy
  have key : ∀ (s : Bool) (m a : Nat), validB s (nat m) (nat a) = true → s = true → 0 < m := by
    intro s m a hv h
    subst h
    unfold validB at hv
    simp only [Bool.and_eq_true, Bool.or_eq_true, Bool.not_eq_true', decide_eq_true_eq, Bool.true_eq_false, or_false] at hv
    exact nat_len_pos.1 hv.2.2.2.2
  rw [ord_cases (by omega) (by omega) (key s m a hx) (key t n b hy)]
  obtain ⟨c, hc⟩ : ∃ c, cmpI (m * b) (n * a) = c := ⟨_, rfl⟩
  have hc01 : -1 ≤ c ∧ c ≤ 1 := by rw [← hc]; unfold cmpI; split <;> (try split) <;> omega
  rw [hc]
  cases s <;> cases t
  · exact c_eorder_ff m n a b c hc hc01.1 hc01.2 l1 l3 l2 l4 v1 v2 u1 u2 w k1 k2 k3 k4
  · exact c_eorder_ft m n a b c hc hc01.1 hc01.2 l1 l3 l2 l4 v1 v2 u1 u2 w k1 k2 k3 k4
  · exact c_eorder_tf m n a b c hc hc01.1 hc01.2 l1 l3 l2 l4 v1 v2 u1 u2 w k1 k2 k3 k4
  · exact c_eorder_tt m n a b c hc hc01.1 hc01.2 l1 l3 l2 l4 v1 v2 u1 u2 w k1 k2 k3 k4
end Go.Proofs.YtfdkdloldjfnjaaGreatDoor
