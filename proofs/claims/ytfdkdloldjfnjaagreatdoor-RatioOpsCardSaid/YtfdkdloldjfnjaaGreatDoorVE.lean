/-
  DERIVED. The reference's Sub, Div by nought, Cmp. (Written by gen/genVE.py.)
-/
import Derived.Test.YtfdkdloldjfnjaaGreatDoorVD
set_option linter.unusedVariables false
set_option linter.unusedSimpArgs false
namespace Go.Proofs.YtfdkdloldjfnjaaGreatDoor
open Go.RowKit
set_option maxRecDepth 100000

theorem valid_neg {t : Bool} {n b : Nat} (h : validB t (nat n) (nat b) = true) (r : Bool) (hr : r = true → 0 < (nat n).length) : validB r (nat n) (nat b) = true := by
  unfold validB at *
  cases r <;> cases t <;> simp_all
set_option maxHeartbeats 8000000 in
theorem c_eDivZ (s t : Bool) (m a b : Nat) (hx : validB s (nat m) (nat a) = true) (hy : validB t (nat 0) (nat b) = true) (v1 v2 u1 u2 : Value) (w : World) (k1 : Ls w v1 (nat m)) (k2 : Ls w v2 (nat a)) (k3 : Ls w u1 (nat 0)) (k4 : Ls w u2 (nat b)) :
    Calls Tryz.prog 31 #[.agg #[.bool s, v1, v2], .agg #[.bool t, u1, u2]] w (ResPost none 2 w) := by
  obtain ⟨W, hW⟩ : ∃ W, W = ((w.alloc (.cells #[.bool s, v1, v2] 25)).alloc (.cells #[.bool t, u1, u2] 25)).alloc (.cells #[.bool false, .slice none 0 0, .slice none 0 0] 25) := ⟨_, rfl⟩
  have S0 : Six w.heap.size s v1 v2 t u1 u2 W := by subst hW; exact six_new _ _ _ _ _ _ _ _
  have R0 : ResZ (w.heap.size + 2) W := by subst hW; exact row_new4 _ _ _ (by simp)
  have B0 : Below w.heap.size w W := by subst hW; exact (((Below.refl _ _).alloc (Nat.le_refl _) _).alloc (by simp) _).alloc (by simp; omega) _
  have hz : w.heap.size + 2 < W.heap.size := by subst hW; simp
  have HV1 := Lib.hid (fun (X : World) (hX : Below w.heap.size w X) => c_eValid s (nat m) (nat a) true hx v1 v2 X (k1.on hX) (k2.on hX))
  have HV2 := Lib.hid (fun (X : World) (hX : Below w.heap.size w X) => c_eValid t (nat 0) (nat b) true hy u1 u2 X (k3.on hX) (k4.on hX))
  obtain ⟨A1, c1, rfl⟩ := k1.1.shape
  obtain ⟨A2, c2, rfl⟩ := k2.1.shape
  obtain ⟨A3, c3, rfl⟩ := k3.1.shape
  obtain ⟨A4, c4, rfl⟩ := k4.1.shape
  have HS0 := Lib.hid S0
  have HR0 := Lib.hid R0
  have HB0 := Lib.hid B0
  obtain ⟨q0, q1, q2, q3, q4, q5⟩ := S0
  clear k1 k2 k3 k4 R0 B0
  go_enter Tryz.func31, Tryz.ntmps31
  go_wp2_with (fail)
  rw [← hW]
  clear hW
  go_at_call 19
  refine (HV1.out _ HB0.out).mono ?_
  rintro e w1 ⟨rfl, b1⟩
  have HS1 := Lib.hid (HS0.out.on b1 (by omega))
  have HR1 := Lib.hid (HR0.out.on b1 (by omega))
  have HB1 := Lib.hid (below_join HB0.out b1 HB0.out.size)
  have hz1 : w.heap.size + 2 < w1.heap.size := Nat.lt_of_lt_of_le hz b1.size
  clear b1 q0 q1 q2 q3 q4 q5
  obtain ⟨q0, q1, q2, q3, q4, q5⟩ := HS1.out
  go_wp2_with (fail)
  go_at_call 19
  refine (HV2.out _ HB1.out).mono ?_
  rintro e w2 ⟨rfl, b2⟩
  have HS2 := Lib.hid (HS1.out.on b2 (by omega))
  have HR2 := Lib.hid (HR1.out.on b2 (by omega))
  have HB2 := Lib.hid (below_join HB1.out b2 HB1.out.size)
  have hz2 : w.heap.size + 2 < w2.heap.size := Nat.lt_of_lt_of_le hz1 b2.size
  clear b2 q0 q1 q2 q3 q4 q5
  obtain ⟨q0, q1, q2, q3, q4, q5⟩ := HS2.out
  obtain ⟨f0, f1, f2⟩ := Rt.frozen HR2.out
  obtain ⟨e0, e1, e2⟩ := Rt.cells HR2.out
  have hn0 : ((((nat 0).length : Nat) : Int) == 0) = true := by rw [nat, dif_pos rfl]; rfl
  go_wp2_with (fail)
  exact ret3t (b := w.heap.size + 2) rfl rfl rfl rfl (row_store3 HR2.out _ _ _) ⟨_, _, rfl, below_store3 HB2.out (by omega) _ _ _, fun _ => ⟨rfl, rfl⟩, fun _ _ _ h => (by cases h)⟩
set_option maxHeartbeats 8000000 in
theorem c_eSubV (s t : Bool) (m n a b : Nat) (hx : validB s (nat m) (nat a) = true) (hy : validB t (nat n) (nat b) = true) (v1 v2 u1 u2 : Value) (w : World) (k1 : Ls w v1 (nat m)) (k2 : Ls w v2 (nat a)) (k3 : Ls w u1 (nat n)) (k4 : Ls w u2 (nat b)) :
    Calls Tryz.prog 29 #[.agg #[.bool s, v1, v2], .agg #[.bool t, u1, u2]] w (ResPost (lowR (quo s m a - quo t n b)) 3 w) := by
  obtain ⟨l1, l2, pa, -⟩ := valid_facts hx
  obtain ⟨l3, l4, pb, -⟩ := valid_facts hy
  obtain ⟨r, hr⟩ : ∃ r, (!t && decide (0 < (nat n).length)) = r := ⟨_, rfl⟩
  have hyr := valid_neg hy r (by intro h; rw [h] at hr; simp at hr; exact hr.2)
  have hq : redP (sumP s m a r n b).1 (sumP s m a r n b).2 (a * b) = lowR (quo s m a - quo t n b) := by
    have hab : 0 < a * b := Nat.mul_pos pa pb
    rw [redP_low _ _ (by omega), sumP_quo (by omega) (by omega), Rat.sub_eq_add_neg, qneg_quo]
    congr 2
    have hn : decide (0 < (nat n).length) = decide (0 < n) := by rw [decide_eq_decide]; exact nat_len_pos
    rw [← hr, hn]
    have := quo_negP t true n b
    unfold negP at this
    cases t <;> simp at this ⊢ <;> exact this
  obtain ⟨W, hW⟩ : ∃ W, W = ((w.alloc (.cells #[.bool s, v1, v2] 25)).alloc (.cells #[.bool t, u1, u2] 25)).alloc (.cells #[.bool false, .slice none 0 0, .slice none 0 0] 25) := ⟨_, rfl⟩
  have S0 : Six w.heap.size s v1 v2 t u1 u2 W := by subst hW; exact six_new _ _ _ _ _ _ _ _
  have R0 : ResZ (w.heap.size + 2) W := by subst hW; exact row_new4 _ _ _ (by simp)
  have B0 : Below w.heap.size w W := by subst hW; exact (((Below.refl _ _).alloc (Nat.le_refl _) _).alloc (by simp) _).alloc (by simp; omega) _
  have hz : w.heap.size + 2 < W.heap.size := by subst hW; simp
  have HV1 := Lib.hid (fun (X : World) (hX : Below w.heap.size w X) => c_eValid s (nat m) (nat a) true hx v1 v2 X (k1.on hX) (k2.on hX))
  have HV2 := Lib.hid (fun (X : World) (hX : Below w.heap.size w X) => c_eValid t (nat n) (nat b) true hy u1 u2 X (k3.on hX) (k4.on hX))
  have HN := Lib.hid (fun (X : World) (hX : Below w.heap.size w X) => c_eneg t (nat n) (nat b) r hr u1 u2 X (k3.on hX) (k4.on hX))
  have HA := Lib.hid (fun (X : World) (hX : Below w.heap.size w X) => (show Calls Tryz.prog 28 #[.agg #[.bool s, v1, v2], .agg #[.bool r, u1, u2]] X (ResPost (lowR (quo s m a - quo t n b)) 3 X) from hq ▸ c_eAddV s r m n a b hx hyr (Nat.mul_pos pa pb) l1 l3 l2 l4 v1 v2 u1 u2 X (k1.on hX) (k2.on hX) (k3.on hX) (k4.on hX)))
  clear hr hyr hq l1 l2 l3 l4 pa pb
  obtain ⟨A1, c1, rfl⟩ := k1.1.shape
  obtain ⟨A2, c2, rfl⟩ := k2.1.shape
  obtain ⟨A3, c3, rfl⟩ := k3.1.shape
  obtain ⟨A4, c4, rfl⟩ := k4.1.shape
  have HS0 := Lib.hid S0
  have HR0 := Lib.hid R0
  have HB0 := Lib.hid B0
  obtain ⟨q0, q1, q2, q3, q4, q5⟩ := S0
  clear k1 k2 k3 k4 R0 B0
  go_enter Tryz.func29, Tryz.ntmps29
  go_wp2_with (fail)
  rw [← hW]
  clear hW
  go_at_call 19
  refine (HV1.out _ HB0.out).mono ?_
  rintro e w1 ⟨rfl, b1⟩
  have HS1 := Lib.hid (HS0.out.on b1 (by omega))
  have HR1 := Lib.hid (HR0.out.on b1 (by omega))
  have HB1 := Lib.hid (below_join HB0.out b1 HB0.out.size)
  have hz1 : w.heap.size + 2 < w1.heap.size := Nat.lt_of_lt_of_le hz b1.size
  clear b1 q0 q1 q2 q3 q4 q5
  obtain ⟨q0, q1, q2, q3, q4, q5⟩ := HS1.out
  go_wp2_with (fail)
  go_at_call 19
  refine (HV2.out _ HB1.out).mono ?_
  rintro e w2 ⟨rfl, b2⟩
  have HS2 := Lib.hid (HS1.out.on b2 (by omega))
  have HR2 := Lib.hid (HR1.out.on b2 (by omega))
  have HB2 := Lib.hid (below_join HB1.out b2 HB1.out.size)
  have hz2 : w.heap.size + 2 < w2.heap.size := Nat.lt_of_lt_of_le hz1 b2.size
  clear b2 q0 q1 q2 q3 q4 q5
  obtain ⟨q0, q1, q2, q3, q4, q5⟩ := HS2.out
  go_wp2_with (fail)
  clear q0 q1 q2 q3 q4 q5
  go_region_held3 (fun X => X.cell? ⟨w.heap.size, 0, none⟩ = some (.bool s) ∧ X.cell? ⟨w.heap.size, 1, none⟩ = some (.slice A1 (nat m).length c1) ∧ X.cell? ⟨w.heap.size, 2, none⟩ = some (.slice A2 (nat a).length c2) ∧ X.cell? ⟨w.heap.size + 1, 0, none⟩ = some (.bool t) ∧ X.cell? ⟨w.heap.size + 1, 1, none⟩ = some (.slice A3 (nat n).length c3) ∧ X.cell? ⟨w.heap.size + 1, 2, none⟩ = some (.slice A4 (nat b).length c4))
    (first | exact HSz.out.store3 (by omega) _ _ _ | exact HSz.out | exact HSa.out | exact HS2.out)
    (first
      | (go_at_call 70; (with_reducible refine (HN.out _ HB2.out.drew).mono ?_); rintro e wa ⟨rfl, hb0⟩; have hba := Below.undrew hb0; have HSa := Lib.hid (HS2.out.on hba (by omega)); have HRa := Lib.hid (HR2.out.on hba (by omega)); have HBa := Lib.hid (below_join HB2.out hba HB2.out.size); have hza := Nat.lt_of_lt_of_le hz2 hba.size; clear hb0 hba)
      | (go_at_call 28; (with_reducible refine (HA.out _ HBa.out).mono ?_); rintro e wz hc0; obtain ⟨s', A5, m5, c5, A6, m6, c6, y, rfl, gc, hbc⟩ := res_open hc0; have HRS := Lib.hid gc; have HSz := Lib.hid (HSa.out.on hbc (by omega)); have HRz := Lib.hid (show ResZ (w.heap.size + 1 + 1) wz from HRa.out.on hbc (by omega)); have HBz := Lib.hid (below_join HBa.out hbc HBa.out.size); obtain ⟨f0, f1, f2⟩ := three_frozen HRz.out; obtain ⟨e0, e1, e2⟩ := three_cells HRz.out; clear hc0 hbc gc)
      | fail)
  all_goals (
    go_wp2_with (fail)
    have hst := HRS.out.storeZ HRz.out (.bool s') (.slice A5 m5 c5) (.slice A6 m6 c6)
    exact ret3t (b := w.heap.size + 1 + 1) rfl rfl rfl rfl (row_store3 HRz.out _ _ _) ⟨_, _, rfl, below_store3 HBz.out (by omega) _ _ _, hst.1, hst.2⟩)
set_option maxHeartbeats 8000000 in
theorem c_eCmpN1 (s t : Bool) (la lb lc ld : List Nat) (hx : validB s la lb = false) (v1 v2 u1 u2 : Value) (w : World) (k1 : Ls w v1 la) (k2 : Ls w v2 lb) (k3 : Ls w u1 lc) (k4 : Ls w u2 ld) :
    Calls Tryz.prog 33 #[.agg #[.bool s, v1, v2], .agg #[.bool t, u1, u2]] w fun e w' => e = .returned (.tuple #[.int .i64 0, .int .i64 1]) ∧ Below w.heap.size w w' := by
  have HV1 := Lib.hid (fun (X : World) (hX : Below w.heap.size w X) => c_eValid s la lb false hx v1 v2 X (k1.on hX) (k2.on hX))
  obtain ⟨A1, c1, rfl⟩ := k1.1.shape
  obtain ⟨A2, c2, rfl⟩ := k2.1.shape
  obtain ⟨A3, c3, rfl⟩ := k3.1.shape
  obtain ⟨A4, c4, rfl⟩ := k4.1.shape
  obtain ⟨W, hW⟩ : ∃ W, W = (w.alloc (.cells #[.bool s, .slice A1 la.length c1, .slice A2 lb.length c2] 25)).alloc (.cells #[.bool t, .slice A3 lc.length c3, .slice A4 ld.length c4] 25) := ⟨_, rfl⟩
  have HX0 := Lib.hid (show Rt W w.heap.size s (.slice A1 la.length c1) (.slice A2 lb.length c2) by subst hW; exact two_new _ _ _ _ _)
  have HY0 := Lib.hid (show Rt W (w.heap.size + 1) t (.slice A3 lc.length c3) (.slice A4 ld.length c4) by subst hW; exact rt_last _ _ _ _ _)
  have HB0 := Lib.hid (show Below w.heap.size w W by subst hW; exact below_two _ _ _)
  clear k1 k2 k3 k4
  go_enter Tryz.func33, Tryz.ntmps33
  go_wp2_with (fail)
  rw [← hW]
  clear hW
  go_at_call 19
  refine (HV1.out _ HB0.out).mono ?_
  rintro e w1 ⟨rfl, b1⟩
  have HX1 := Lib.hid (HX0.out.on b1 HX0.out.lt)
  have HY1 := Lib.hid (HY0.out.on b1 HY0.out.lt)
  have HB1 := Lib.hid (below_join HB0.out b1 HB0.out.size)
  clear b1
  obtain ⟨y0, y1, y2⟩ := HY1.out.cells
  go_wp2_with (fail)
  exact bodyPost_ret (by simp [results, go_sem]) rfl ⟨rfl, HB1.out⟩
set_option maxHeartbeats 8000000 in
theorem c_eCmpN2 (s t : Bool) (la lb lc ld : List Nat) (hx : validB s la lb = true) (hy : validB t lc ld = false) (v1 v2 u1 u2 : Value) (w : World) (k1 : Ls w v1 la) (k2 : Ls w v2 lb) (k3 : Ls w u1 lc) (k4 : Ls w u2 ld) :
    Calls Tryz.prog 33 #[.agg #[.bool s, v1, v2], .agg #[.bool t, u1, u2]] w fun e w' => e = .returned (.tuple #[.int .i64 0, .int .i64 1]) ∧ Below w.heap.size w w' := by
  have HV1 := Lib.hid (fun (X : World) (hX : Below w.heap.size w X) => c_eValid s la lb true hx v1 v2 X (k1.on hX) (k2.on hX))
  have HV2 := Lib.hid (fun (X : World) (hX : Below w.heap.size w X) => c_eValid t lc ld false hy u1 u2 X (k3.on hX) (k4.on hX))
  obtain ⟨A1, c1, rfl⟩ := k1.1.shape
  obtain ⟨A2, c2, rfl⟩ := k2.1.shape
  obtain ⟨A3, c3, rfl⟩ := k3.1.shape
  obtain ⟨A4, c4, rfl⟩ := k4.1.shape
  obtain ⟨W, hW⟩ : ∃ W, W = (w.alloc (.cells #[.bool s, .slice A1 la.length c1, .slice A2 lb.length c2] 25)).alloc (.cells #[.bool t, .slice A3 lc.length c3, .slice A4 ld.length c4] 25) := ⟨_, rfl⟩
  have HX0 := Lib.hid (show Rt W w.heap.size s (.slice A1 la.length c1) (.slice A2 lb.length c2) by subst hW; exact two_new _ _ _ _ _)
  have HY0 := Lib.hid (show Rt W (w.heap.size + 1) t (.slice A3 lc.length c3) (.slice A4 ld.length c4) by subst hW; exact rt_last _ _ _ _ _)
  have HB0 := Lib.hid (show Below w.heap.size w W by subst hW; exact below_two _ _ _)
  clear k1 k2 k3 k4
  go_enter Tryz.func33, Tryz.ntmps33
  go_wp2_with (fail)
  rw [← hW]
  clear hW
  go_at_call 19
  refine (HV1.out _ HB0.out).mono ?_
  rintro e w1 ⟨rfl, b1⟩
  have HX1 := Lib.hid (HX0.out.on b1 HX0.out.lt)
  have HY1 := Lib.hid (HY0.out.on b1 HY0.out.lt)
  have HB1 := Lib.hid (below_join HB0.out b1 HB0.out.size)
  clear b1
  obtain ⟨y0, y1, y2⟩ := HY1.out.cells
  go_wp2_with (fail)
  go_at_call 19
  refine (HV2.out _ HB1.out).mono ?_
  rintro e w2 ⟨rfl, b2⟩
  have HX2 := Lib.hid (HX1.out.on b2 HX1.out.lt)
  have HY2 := Lib.hid (HY1.out.on b2 HY1.out.lt)
  have HB2 := Lib.hid (below_join HB1.out b2 HB1.out.size)
  clear b2 y0 y1 y2
  obtain ⟨x0, x1, x2⟩ := HX2.out.cells
  obtain ⟨y0, y1, y2⟩ := HY2.out.cells
  go_wp2_with (fail)
  exact bodyPost_ret (by simp [results, go_sem]) rfl ⟨rfl, HB2.out⟩
set_option maxHeartbeats 8000000 in
theorem c_eCmpV (s t : Bool) (m n a b : Nat) (hx : validB s (nat m) (nat a) = true) (hy : validB t (nat n) (nat b) = true) (v1 v2 u1 u2 : Value) (w : World) (k1 : Ls w v1 (nat m)) (k2 : Ls w v2 (nat a)) (k3 : Ls w u1 (nat n)) (k4 : Ls w u2 (nat b)) :
    Calls Tryz.prog 33 #[.agg #[.bool s, v1, v2], .agg #[.bool t, u1, u2]] w fun e w' => e = .returned (.tuple #[.int .i64 (qcmp (quo s m a) (quo t n b)), .int .i64 0]) ∧ Below w.heap.size w w' := by
  have HO := Lib.hid (fun (X : World) (hX : Below w.heap.size w X) => c_eorder s t m n a b hx hy v1 v2 u1 u2 X (k1.on hX) (k2.on hX) (k3.on hX) (k4.on hX))
  have HV1 := Lib.hid (fun (X : World) (hX : Below w.heap.size w X) => c_eValid s (nat m) (nat a) true hx v1 v2 X (k1.on hX) (k2.on hX))
  have HV2 := Lib.hid (fun (X : World) (hX : Below w.heap.size w X) => c_eValid t (nat n) (nat b) true hy u1 u2 X (k3.on hX) (k4.on hX))
  generalize qcmp (quo s m a) (quo t n b) = o at *
  generalize nat m = la at *
  generalize nat a = lb at *
  generalize nat n = lc at *
  generalize nat b = ld at *
  obtain ⟨A1, c1, rfl⟩ := k1.1.shape
  obtain ⟨A2, c2, rfl⟩ := k2.1.shape
  obtain ⟨A3, c3, rfl⟩ := k3.1.shape
  obtain ⟨A4, c4, rfl⟩ := k4.1.shape
  obtain ⟨W, hW⟩ : ∃ W, W = (w.alloc (.cells #[.bool s, .slice A1 la.length c1, .slice A2 lb.length c2] 25)).alloc (.cells #[.bool t, .slice A3 lc.length c3, .slice A4 ld.length c4] 25) := ⟨_, rfl⟩
  have HX0 := Lib.hid (show Rt W w.heap.size s (.slice A1 la.length c1) (.slice A2 lb.length c2) by subst hW; exact two_new _ _ _ _ _)
  have HY0 := Lib.hid (show Rt W (w.heap.size + 1) t (.slice A3 lc.length c3) (.slice A4 ld.length c4) by subst hW; exact rt_last _ _ _ _ _)
  have HB0 := Lib.hid (show Below w.heap.size w W by subst hW; exact below_two _ _ _)
  clear k1 k2 k3 k4
  go_enter Tryz.func33, Tryz.ntmps33
  go_wp2_with (fail)
  rw [← hW]
  clear hW
  go_at_call 19
  refine (HV1.out _ HB0.out).mono ?_
  rintro e w1 ⟨rfl, b1⟩
  have HX1 := Lib.hid (HX0.out.on b1 HX0.out.lt)
  have HY1 := Lib.hid (HY0.out.on b1 HY0.out.lt)
  have HB1 := Lib.hid (below_join HB0.out b1 HB0.out.size)
  clear b1
  obtain ⟨y0, y1, y2⟩ := HY1.out.cells
  go_wp2_with (fail)
  go_at_call 19
  refine (HV2.out _ HB1.out).mono ?_
  rintro e w2 ⟨rfl, b2⟩
  have HX2 := Lib.hid (HX1.out.on b2 HX1.out.lt)
  have HY2 := Lib.hid (HY1.out.on b2 HY1.out.lt)
  have HB2 := Lib.hid (below_join HB1.out b2 HB1.out.size)
  clear b2 y0 y1 y2
  obtain ⟨x0, x1, x2⟩ := HX2.out.cells
  obtain ⟨y0, y1, y2⟩ := HY2.out.cells
  go_wp2_with (fail)
  go_at_call 72
  refine (HO.out _ HB2.out).mono ?_
  rintro e w3 ⟨rfl, b3⟩
  go_wp2_with (fail)
  exact bodyPost_ret (by simp [results, go_sem]) rfl ⟨rfl, below_join HB2.out b3 HB2.out.size⟩
end Go.Proofs.YtfdkdloldjfnjaaGreatDoor
