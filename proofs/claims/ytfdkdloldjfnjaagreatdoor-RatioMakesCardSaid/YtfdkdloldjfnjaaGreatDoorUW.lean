/-
  DERIVED. The reference's Text.
-/
import Derived.Test.YtfdkdloldjfnjaaGreatDoorUV
import Derived.Test.YtfdkdloldjfnjaaGreatDoorUO
set_option linter.unusedVariables false
set_option linter.unusedSimpArgs false
namespace Go.Proofs.YtfdkdloldjfnjaaGreatDoor
open Go.RowKit
set_option maxRecDepth 100000

set_option maxHeartbeats 1000000 in
theorem c_eTextN (s : Bool) (a b : List Nat) (v1 v2 : Value) (w : World) (h1 : Ls w v1 a) (h2 : Ls w v2 b) (hv : validB s a b = false) :
    Calls Tryz.prog 21 #[.agg #[.bool s, v1, v2]] w (StrPost [] w) := by
  have HV := Lib.hid (fun (X : World) (hX : Below w.heap.size w X) => c_eValid s a b false hv v1 v2 X (h1.on hX) (h2.on hX))
  obtain ⟨A1, c1, rfl⟩ := h1.1.shape
  obtain ⟨A2, c2, rfl⟩ := h2.1.shape
  have HB0 := Lib.hid ((Below.refl w.heap.size w).alloc (Nat.le_refl _) (.cells #[.bool s, .slice A1 a.length c1, .slice A2 b.length c2] 25))
  clear h1 h2 hv
  go_enter Tryz.func21, Tryz.ntmps21
  go_wp2_with (fail)
  refine (HV.out _ HB0.out).mono ?_
  rintro e w1 ⟨rfl, hb1⟩
  have HB1 := Lib.hid (below_join HB0.out hb1 HB0.out.size)
  clear hb1
  go_wp2_with (fail)
  go_ret
  exact ⟨rfl, HB1.out⟩
set_option maxHeartbeats 2000000 in
theorem c_eTextP (m n : Nat) (hm : (nat m).length ≤ 32) (hn : (nat n).length ≤ 32) (v1 v2 : Value) (w : World) (h1 : Ls w v1 (nat m)) (h2 : Ls w v2 (nat n)) (hv : validB false (nat m) (nat n) = true) :
    Calls Tryz.prog 21 #[.agg #[.bool false, v1, v2]] w (StrPost (txt false m n) w) := by
  have HV := Lib.hid (fun (X : World) (hX : Below w.heap.size w X) => c_eValid false (nat m) (nat n) true hv v1 v2 X (h1.on hX) (h2.on hX))
  obtain ⟨A1, c1, rfl⟩ := h1.1.shape
  obtain ⟨A2, c2, rfl⟩ := h2.1.shape
  have lm := dec_len (limbs_pow hm)
  have ln := dec_len (limbs_pow hn)
  have HD1 := Lib.hid (fun (X : World) (hX : Below w.heap.size w X) => c_eDecimal m (by omega) (limbs_pow hm) _ X (h1.on hX))
  have HD2 := Lib.hid (fun (X : World) (hX : Below w.heap.size w X) => c_eDecimal n (by omega) (limbs_pow hn) _ X (h2.on hX))
  have HTX := Lib.hid (show txt false m n = (Lib.decDigits m ++ (47 :: Lib.decDigits n)) by rfl)
  obtain ⟨W, hW⟩ : ∃ W, W = w.alloc (.cells #[.bool false, .slice A1 (nat m).length c1, .slice A2 (nat n).length c2] 25) := ⟨_, rfl⟩
  have X0 : Rt W w.heap.size false (.slice A1 (nat m).length c1) (.slice A2 (nat n).length c2) := by subst hW; exact rt_new' _ _ _ _
  have HB0 := Lib.hid (show Below w.heap.size w W by subst hW; exact (Below.refl _ _).alloc (Nat.le_refl _) _)
  have hz : w.heap.size < W.heap.size := by subst hW; simp
  have HX0 := Lib.hid X0
  clear hv h1 h2 X0 hm hn
  have hs1 := str_size (Lib.decDigits m)
  have hs2 := str_size (Lib.decDigits n)
  generalize Lib.decDigits m = DM at *
  generalize Lib.decDigits n = DN at *
  have b1 : ¬ 9223372036854775807 < DM.length + 1 := by omega
  have b2 : ¬ 9223372036854775807 < DM.length + 1 + DN.length := by omega
  go_enter Tryz.func21, Tryz.ntmps21
  go_wp2_with (fail)
  rw [← hW]
  clear hW
  refine (HV.out _ HB0.out).mono ?_
  rintro e w1 ⟨rfl, hb1⟩
  have hz1 := hb1.size
  have HX1 := Lib.hid (HX0.out.on hb1 hz)
  have HB1 := Lib.hid (below_join HB0.out hb1 HB0.out.size)
  clear hb1
  obtain ⟨x0, x1, x2⟩ := HX1.out.cells
  go_wp2_with (fail)
  clear x0 x1 x2
  go_region_held3 (fun X => X.cell? ⟨w.heap.size, 1, none⟩ = some (.slice A1 (nat m).length c1) ∧ X.cell? ⟨w.heap.size, 2, none⟩ = some (.slice A2 (nat n).length c2))
    (first | exact HXb.out.cells.2 | exact HXa.out.cells.2 | exact HX1.out.cells.2)
    (first
      | (go_at_call 62; (with_reducible refine (HD1.out _ HB1.out.drew).mono ?_); rintro e wa ⟨rfl, hba0⟩; have hba := Below.undrew hba0; have HXa := Lib.hid (HX1.out.on hba (by omega)); have HBa := Lib.hid (below_join HB1.out hba HB1.out.size); have hza := hba.size; clear hba hba0)
      | (go_at_call 62; (with_reducible refine (HD2.out _ HBa.out).mono ?_); rintro e wb ⟨rfl, hbb⟩; have HXb := Lib.hid (HXa.out.on hbb (by omega)); have HBb := Lib.hid (below_join HBa.out hbb HBa.out.size); clear hbb)
      | fail)
  obtain ⟨x0, x1, x2⟩ := HXb.out.cells
  go_wp2_with (fail)
  go_ret
  refine ⟨ret_str ?_, HBb.out⟩
  show str DM ++ str [47] ++ str DN = str _
  rw [str_append, str_append, HTX.out]
  simp
set_option maxHeartbeats 2000000 in
theorem c_eTextM (m n : Nat) (hm : (nat m).length ≤ 32) (hn : (nat n).length ≤ 32) (v1 v2 : Value) (w : World) (h1 : Ls w v1 (nat m)) (h2 : Ls w v2 (nat n)) (hv : validB true (nat m) (nat n) = true) :
    Calls Tryz.prog 21 #[.agg #[.bool true, v1, v2]] w (StrPost (txt true m n) w) := by
  have HV := Lib.hid (fun (X : World) (hX : Below w.heap.size w X) => c_eValid true (nat m) (nat n) true hv v1 v2 X (h1.on hX) (h2.on hX))
  obtain ⟨A1, c1, rfl⟩ := h1.1.shape
  obtain ⟨A2, c2, rfl⟩ := h2.1.shape
  have lm := dec_len (limbs_pow hm)
  have ln := dec_len (limbs_pow hn)
  have HD1 := Lib.hid (fun (X : World) (hX : Below w.heap.size w X) => c_eDecimal m (by omega) (limbs_pow hm) _ X (h1.on hX))
  have HD2 := Lib.hid (fun (X : World) (hX : Below w.heap.size w X) => c_eDecimal n (by omega) (limbs_pow hn) _ X (h2.on hX))
  have HTX := Lib.hid (show txt true m n = [45] ++ (Lib.decDigits m ++ (47 :: Lib.decDigits n)) by rfl)
  obtain ⟨W, hW⟩ : ∃ W, W = w.alloc (.cells #[.bool true, .slice A1 (nat m).length c1, .slice A2 (nat n).length c2] 25) := ⟨_, rfl⟩
  have X0 : Rt W w.heap.size true (.slice A1 (nat m).length c1) (.slice A2 (nat n).length c2) := by subst hW; exact rt_new' _ _ _ _
  have HB0 := Lib.hid (show Below w.heap.size w W by subst hW; exact (Below.refl _ _).alloc (Nat.le_refl _) _)
  have hz : w.heap.size < W.heap.size := by subst hW; simp
  have HX0 := Lib.hid X0
  clear hv h1 h2 X0 hm hn
  have hs1 := str_size (Lib.decDigits m)
  have hs2 := str_size (Lib.decDigits n)
  generalize Lib.decDigits m = DM at *
  generalize Lib.decDigits n = DN at *
  have b1 : ¬ 9223372036854775807 < DM.length + 1 := by omega
  have b2 : ¬ 9223372036854775807 < DM.length + 1 + DN.length := by omega
  have b3 : ¬ 9223372036854775807 < 1 + (DM.length + 1 + DN.length) := by omega
  go_enter Tryz.func21, Tryz.ntmps21
  go_wp2_with (fail)
  rw [← hW]
  clear hW
  refine (HV.out _ HB0.out).mono ?_
  rintro e w1 ⟨rfl, hb1⟩
  have hz1 := hb1.size
  have HX1 := Lib.hid (HX0.out.on hb1 hz)
  have HB1 := Lib.hid (below_join HB0.out hb1 HB0.out.size)
  clear hb1
  obtain ⟨x0, x1, x2⟩ := HX1.out.cells
  go_wp2_with (fail)
  clear x0 x1 x2
  go_region_held3 (fun X => X.cell? ⟨w.heap.size, 1, none⟩ = some (.slice A1 (nat m).length c1) ∧ X.cell? ⟨w.heap.size, 2, none⟩ = some (.slice A2 (nat n).length c2))
    (first | exact HXb.out.cells.2 | exact HXa.out.cells.2 | exact HX1.out.cells.2)
    (first
      | (go_at_call 62; (with_reducible refine (HD1.out _ HB1.out.drew).mono ?_); rintro e wa ⟨rfl, hba0⟩; have hba := Below.undrew hba0; have HXa := Lib.hid (HX1.out.on hba (by omega)); have HBa := Lib.hid (below_join HB1.out hba HB1.out.size); have hza := hba.size; clear hba hba0)
      | (go_at_call 62; (with_reducible refine (HD2.out _ HBa.out).mono ?_); rintro e wb ⟨rfl, hbb⟩; have HXb := Lib.hid (HXa.out.on hbb (by omega)); have HBb := Lib.hid (below_join HBa.out hbb HBa.out.size); clear hbb)
      | fail)
  obtain ⟨x0, x1, x2⟩ := HXb.out.cells
  go_wp2_with (fail)
  go_ret
  refine ⟨ret_str ?_, HBb.out⟩
  show str [45] ++ (str DM ++ str [47] ++ str DN) = str _
  rw [str_append, str_append, str_append, HTX.out]
  simp
end Go.Proofs.YtfdkdloldjfnjaaGreatDoor
