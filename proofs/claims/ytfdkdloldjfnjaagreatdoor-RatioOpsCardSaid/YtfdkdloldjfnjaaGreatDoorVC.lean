/-
  DERIVED. The reference's Add, Div; Add, Sub, Div at fractions that are not valid. (Written by gen/genVC.py.)
-/
import Derived.Test.YtfdkdloldjfnjaaGreatDoorVB
import Derived.Test.YtfdkdloldjfnjaaGreatDoorVA
set_option linter.unusedVariables false
set_option linter.unusedSimpArgs false
namespace Go.Proofs.YtfdkdloldjfnjaaGreatDoor
open Go.RowKit
set_option maxRecDepth 100000

set_option maxHeartbeats 4000000 in
theorem c_eAddN1 (s t : Bool) (m n a b : List Nat) (hx : validB s m a = false) (v1 v2 u1 u2 : Value) (w : World) (k1 : Ls w v1 m) (k2 : Ls w v2 a) (k3 : Ls w u1 n) (k4 : Ls w u2 b) :
    Calls Tryz.prog 28 #[.agg #[.bool s, v1, v2], .agg #[.bool t, u1, u2]] w (ResPost none 1 w) := by
  obtain ⟨W, hW⟩ : ∃ W, W = ((w.alloc (.cells #[.bool s, v1, v2] 25)).alloc (.cells #[.bool t, u1, u2] 25)).alloc (.cells #[.bool false, .slice none 0 0, .slice none 0 0] 25) := ⟨_, rfl⟩
  have S0 : Six w.heap.size s v1 v2 t u1 u2 W := by subst hW; exact six_new _ _ _ _ _ _ _ _
  have R0 : ResZ (w.heap.size + 1 + 1) W := by subst hW; exact row_new4 _ _ _ (by simp)
  have B0 : Below w.heap.size w W := by subst hW; exact (((Below.refl _ _).alloc (Nat.le_refl _) _).alloc (by simp) _).alloc (by simp; omega) _
  have hz : w.heap.size + 2 < W.heap.size := by subst hW; simp
  have HV1 := Lib.hid (fun (X : World) (hX : Below w.heap.size w X) => c_eValid s m a false hx v1 v2 X (k1.on hX) (k2.on hX))
  obtain ⟨A1, c1, rfl⟩ := k1.1.shape
  obtain ⟨A2, c2, rfl⟩ := k2.1.shape
  obtain ⟨A3, c3, rfl⟩ := k3.1.shape
  obtain ⟨A4, c4, rfl⟩ := k4.1.shape
  have HS0 := Lib.hid S0
  have HR0 := Lib.hid R0
  have HB0 := Lib.hid B0
  obtain ⟨q0, q1, q2, q3, q4, q5⟩ := S0
  clear k1 k2 k3 k4 hx R0 B0
  go_enter Tryz.func28, Tryz.ntmps28
  go_wp2_with (fail)
  rw [← hW]
  clear hW
  go_at_call 19
  refine (HV1.out _ HB0.out).mono ?_
  rintro e w1 ⟨rfl, b1⟩
  have HR2 := Lib.hid (HR0.out.on b1 (by omega))
  have HB2 := Lib.hid (below_join HB0.out b1 HB0.out.size)
  obtain ⟨e0, e1, e2⟩ := three_cells HR2.out
  obtain ⟨f0, f1, f2⟩ := three_frozen HR2.out
  go_wp2_with (fail)
  exact ret3t (b := w.heap.size + 1 + 1) rfl rfl rfl rfl (row_store3 HR2.out _ _ _) ⟨_, _, rfl, below_store3 HB2.out (by omega) _ _ _, fun _ => ⟨rfl, rfl⟩, fun _ _ _ h => absurd h (by simp)⟩
set_option maxHeartbeats 4000000 in
theorem c_eAddN2 (s t : Bool) (m n a b : List Nat) (hx : validB s m a = true) (hy : validB t n b = false) (v1 v2 u1 u2 : Value) (w : World) (k1 : Ls w v1 m) (k2 : Ls w v2 a) (k3 : Ls w u1 n) (k4 : Ls w u2 b) :
    Calls Tryz.prog 28 #[.agg #[.bool s, v1, v2], .agg #[.bool t, u1, u2]] w (ResPost none 1 w) := by
  obtain ⟨W, hW⟩ : ∃ W, W = ((w.alloc (.cells #[.bool s, v1, v2] 25)).alloc (.cells #[.bool t, u1, u2] 25)).alloc (.cells #[.bool false, .slice none 0 0, .slice none 0 0] 25) := ⟨_, rfl⟩
  have S0 : Six w.heap.size s v1 v2 t u1 u2 W := by subst hW; exact six_new _ _ _ _ _ _ _ _
  have R0 : ResZ (w.heap.size + 1 + 1) W := by subst hW; exact row_new4 _ _ _ (by simp)
  have B0 : Below w.heap.size w W := by subst hW; exact (((Below.refl _ _).alloc (Nat.le_refl _) _).alloc (by simp) _).alloc (by simp; omega) _
  have hz : w.heap.size + 2 < W.heap.size := by subst hW; simp
  have HV1 := Lib.hid (fun (X : World) (hX : Below w.heap.size w X) => c_eValid s m a true hx v1 v2 X (k1.on hX) (k2.on hX))
  have HV2 := Lib.hid (fun (X : World) (hX : Below w.heap.size w X) => c_eValid t n b false hy u1 u2 X (k3.on hX) (k4.on hX))
  obtain ⟨A1, c1, rfl⟩ := k1.1.shape
  obtain ⟨A2, c2, rfl⟩ := k2.1.shape
  obtain ⟨A3, c3, rfl⟩ := k3.1.shape
  obtain ⟨A4, c4, rfl⟩ := k4.1.shape
  have HS0 := Lib.hid S0
  have HR0 := Lib.hid R0
  have HB0 := Lib.hid B0
  obtain ⟨q0, q1, q2, q3, q4, q5⟩ := S0
  clear k1 k2 k3 k4 hx hy R0 B0
  go_enter Tryz.func28, Tryz.ntmps28
  go_wp2_with (fail)
  rw [← hW]
  clear hW
  go_at_call 19
  refine (HV1.out _ HB0.out).mono ?_
  rintro e w1 ⟨rfl, b1⟩
  have HS1 := Lib.hid (HS0.out.on b1 (by omega))
  have HR1 := Lib.hid (HR0.out.on b1 (by omega))
  have HB1 := Lib.hid (below_join HB0.out b1 HB0.out.size)
  have hz1 : w.heap.size + 2 < w1.heap.size := Nat.lt_of_lt_of_le hz b1.size
  clear b1 q0 q1 q2 q3 q4 q5
  obtain ⟨q0, q1, q2, q3, q4, q5⟩ := HS1.out
  go_wp2_with (fail)
  go_at_call 19
  refine (HV2.out _ HB1.out).mono ?_
  rintro e w2 ⟨rfl, b2⟩
  have HR2 := Lib.hid (HR1.out.on b2 (by omega))
  have HB2 := Lib.hid (below_join HB1.out b2 HB1.out.size)
  obtain ⟨e0, e1, e2⟩ := three_cells HR2.out
  obtain ⟨f0, f1, f2⟩ := three_frozen HR2.out
  go_wp2_with (fail)
  exact ret3t (b := w.heap.size + 1 + 1) rfl rfl rfl rfl (row_store3 HR2.out _ _ _) ⟨_, _, rfl, below_store3 HB2.out (by omega) _ _ _, fun _ => ⟨rfl, rfl⟩, fun _ _ _ h => absurd h (by simp)⟩
set_option maxHeartbeats 4000000 in
theorem c_eSubN1 (s t : Bool) (m n a b : List Nat) (hx : validB s m a = false) (v1 v2 u1 u2 : Value) (w : World) (k1 : Ls w v1 m) (k2 : Ls w v2 a) (k3 : Ls w u1 n) (k4 : Ls w u2 b) :
    Calls Tryz.prog 29 #[.agg #[.bool s, v1, v2], .agg #[.bool t, u1, u2]] w (ResPost none 1 w) := by
  obtain ⟨W, hW⟩ : ∃ W, W = ((w.alloc (.cells #[.bool s, v1, v2] 25)).alloc (.cells #[.bool t, u1, u2] 25)).alloc (.cells #[.bool false, .slice none 0 0, .slice none 0 0] 25) := ⟨_, rfl⟩
  have S0 : Six w.heap.size s v1 v2 t u1 u2 W := by subst hW; exact six_new _ _ _ _ _ _ _ _
  have R0 : ResZ (w.heap.size + 1 + 1) W := by subst hW; exact row_new4 _ _ _ (by simp)
  have B0 : Below w.heap.size w W := by subst hW; exact (((Below.refl _ _).alloc (Nat.le_refl _) _).alloc (by simp) _).alloc (by simp; omega) _
  have hz : w.heap.size + 2 < W.heap.size := by subst hW; simp
  have HV1 := Lib.hid (fun (X : World) (hX : Below w.heap.size w X) => c_eValid s m a false hx v1 v2 X (k1.on hX) (k2.on hX))
  obtain ⟨A1, c1, rfl⟩ := k1.1.shape
  obtain ⟨A2, c2, rfl⟩ := k2.1.shape
  obtain ⟨A3, c3, rfl⟩ := k3.1.shape
  obtain ⟨A4, c4, rfl⟩ := k4.1.shape
  have HS0 := Lib.hid S0
  have HR0 := Lib.hid R0
  have HB0 := Lib.hid B0
  obtain ⟨q0, q1, q2, q3, q4, q5⟩ := S0
  clear k1 k2 k3 k4 hx R0 B0
  go_enter Tryz.func29, Tryz.ntmps29
  go_wp2_with (fail)
  rw [← hW]
  clear hW
  go_at_call 19
  refine (HV1.out _ HB0.out).mono ?_
  rintro e w1 ⟨rfl, b1⟩
  have HR2 := Lib.hid (HR0.out.on b1 (by omega))
  have HB2 := Lib.hid (below_join HB0.out b1 HB0.out.size)
  obtain ⟨e0, e1, e2⟩ := three_cells HR2.out
  obtain ⟨f0, f1, f2⟩ := three_frozen HR2.out
  go_wp2_with (fail)
  exact ret3t (b := w.heap.size + 1 + 1) rfl rfl rfl rfl (row_store3 HR2.out _ _ _) ⟨_, _, rfl, below_store3 HB2.out (by omega) _ _ _, fun _ => ⟨rfl, rfl⟩, fun _ _ _ h => absurd h (by simp)⟩
set_option maxHeartbeats 4000000 in
theorem c_eSubN2 (s t : Bool) (m n a b : List Nat) (hx : validB s m a = true) (hy : validB t n b = false) (v1 v2 u1 u2 : Value) (w : World) (k1 : Ls w v1 m) (k2 : Ls w v2 a) (k3 : Ls w u1 n) (k4 : Ls w u2 b) :
    Calls Tryz.prog 29 #[.agg #[.bool s, v1, v2], .agg #[.bool t, u1, u2]] w (ResPost none 1 w) := by
  obtain ⟨W, hW⟩ : ∃ W, W = ((w.alloc (.cells #[.bool s, v1, v2] 25)).alloc (.cells #[.bool t, u1, u2] 25)).alloc (.cells #[.bool false, .slice none 0 0, .slice none 0 0] 25) := ⟨_, rfl⟩
  have S0 : Six w.heap.size s v1 v2 t u1 u2 W := by subst hW; exact six_new _ _ _ _ _ _ _ _
  have R0 : ResZ (w.heap.size + 1 + 1) W := by subst hW; exact row_new4 _ _ _ (by simp)
  have B0 : Below w.heap.size w W := by subst hW; exact (((Below.refl _ _).alloc (Nat.le_refl _) _).alloc (by simp) _).alloc (by simp; omega) _
  have hz : w.heap.size + 2 < W.heap.size := by subst hW; simp
  have HV1 := Lib.hid (fun (X : World) (hX : Below w.heap.size w X) => c_eValid s m a true hx v1 v2 X (k1.on hX) (k2.on hX))
  have HV2 := Lib.hid (fun (X : World) (hX : Below w.heap.size w X) => c_eValid t n b false hy u1 u2 X (k3.on hX) (k4.on hX))
  obtain ⟨A1, c1, rfl⟩ := k1.1.shape
  obtain ⟨A2, c2, rfl⟩ := k2.1.shape
  obtain ⟨A3, c3, rfl⟩ := k3.1.shape
  obtain ⟨A4, c4, rfl⟩ := k4.1.shape
  have HS0 := Lib.hid S0
  have HR0 := Lib.hid R0
  have HB0 := Lib.hid B0
  obtain ⟨q0, q1, q2, q3, q4, q5⟩ := S0
  clear k1 k2 k3 k4 hx hy R0 B0
  go_enter Tryz.func29, Tryz.ntmps29
  go_wp2_with (fail)
  rw [← hW]
  clear hW
  go_at_call 19
  refine (HV1.out _ HB0.out).mono ?_
  rintro e w1 ⟨rfl, b1⟩
  have HS1 := Lib.hid (HS0.out.on b1 (by omega))
  have HR1 := Lib.hid (HR0.out.on b1 (by omega))
  have HB1 := Lib.hid (below_join HB0.out b1 HB0.out.size)
  have hz1 : w.heap.size + 2 < w1.heap.size := Nat.lt_of_lt_of_le hz b1.size
  clear b1 q0 q1 q2 q3 q4 q5
  obtain ⟨q0, q1, q2, q3, q4, q5⟩ := HS1.out
  go_wp2_with (fail)
  go_at_call 19
  refine (HV2.out _ HB1.out).mono ?_
  rintro e w2 ⟨rfl, b2⟩
  have HR2 := Lib.hid (HR1.out.on b2 (by omega))
  have HB2 := Lib.hid (below_join HB1.out b2 HB1.out.size)
  obtain ⟨e0, e1, e2⟩ := three_cells HR2.out
  obtain ⟨f0, f1, f2⟩ := three_frozen HR2.out
  go_wp2_with (fail)
  exact ret3t (b := w.heap.size + 1 + 1) rfl rfl rfl rfl (row_store3 HR2.out _ _ _) ⟨_, _, rfl, below_store3 HB2.out (by omega) _ _ _, fun _ => ⟨rfl, rfl⟩, fun _ _ _ h => absurd h (by simp)⟩
set_option maxHeartbeats 4000000 in
theorem c_eDivN1 (s t : Bool) (m n a b : List Nat) (hx : validB s m a = false) (v1 v2 u1 u2 : Value) (w : World) (k1 : Ls w v1 m) (k2 : Ls w v2 a) (k3 : Ls w u1 n) (k4 : Ls w u2 b) :
    Calls Tryz.prog 31 #[.agg #[.bool s, v1, v2], .agg #[.bool t, u1, u2]] w (ResPost none 1 w) := by
  obtain ⟨W, hW⟩ : ∃ W, W = ((w.alloc (.cells #[.bool s, v1, v2] 25)).alloc (.cells #[.bool t, u1, u2] 25)).alloc (.cells #[.bool false, .slice none 0 0, .slice none 0 0] 25) := ⟨_, rfl⟩
  have S0 : Six w.heap.size s v1 v2 t u1 u2 W := by subst hW; exact six_new _ _ _ _ _ _ _ _
  have R0 : ResZ (w.heap.size + 1 + 1) W := by subst hW; exact row_new4 _ _ _ (by simp)
  have B0 : Below w.heap.size w W := by subst hW; exact (((Below.refl _ _).alloc (Nat.le_refl _) _).alloc (by simp) _).alloc (by simp; omega) _
  have hz : w.heap.size + 2 < W.heap.size := by subst hW; simp
  have HV1 := Lib.hid (fun (X : World) (hX : Below w.heap.size w X) => c_eValid s m a false hx v1 v2 X (k1.on hX) (k2.on hX))
  obtain ⟨A1, c1, rfl⟩ := k1.1.shape
  obtain ⟨A2, c2, rfl⟩ := k2.1.shape
  obtain ⟨A3, c3, rfl⟩ := k3.1.shape
  obtain ⟨A4, c4, rfl⟩ := k4.1.shape
  have HS0 := Lib.hid S0
  have HR0 := Lib.hid R0
  have HB0 := Lib.hid B0
  obtain ⟨q0, q1, q2, q3, q4, q5⟩ := S0
  clear k1 k2 k3 k4 hx R0 B0
  go_enter Tryz.func31, Tryz.ntmps31
  go_wp2_with (fail)
  rw [← hW]
  clear hW
  go_at_call 19
  refine (HV1.out _ HB0.out).mono ?_
  rintro e w1 ⟨rfl, b1⟩
  have HR2 := Lib.hid (HR0.out.on b1 (by omega))
  have HB2 := Lib.hid (below_join HB0.out b1 HB0.out.size)
  obtain ⟨e0, e1, e2⟩ := three_cells HR2.out
  obtain ⟨f0, f1, f2⟩ := three_frozen HR2.out
  go_wp2_with (fail)
  exact ret3t (b := w.heap.size + 1 + 1) rfl rfl rfl rfl (row_store3 HR2.out _ _ _) ⟨_, _, rfl, below_store3 HB2.out (by omega) _ _ _, fun _ => ⟨rfl, rfl⟩, fun _ _ _ h => absurd h (by simp)⟩
set_option maxHeartbeats 4000000 in
theorem c_eDivN2 (s t : Bool) (m n a b : List Nat) (hx : validB s m a = true) (hy : validB t n b = false) (v1 v2 u1 u2 : Value) (w : World) (k1 : Ls w v1 m) (k2 : Ls w v2 a) (k3 : Ls w u1 n) (k4 : Ls w u2 b) :
    Calls Tryz.prog 31 #[.agg #[.bool s, v1, v2], .agg #[.bool t, u1, u2]] w (ResPost none 1 w) := by
  obtain ⟨W, hW⟩ : ∃ W, W = ((w.alloc (.cells #[.bool s, v1, v2] 25)).alloc (.cells #[.bool t, u1, u2] 25)).alloc (.cells #[.bool false, .slice none 0 0, .slice none 0 0] 25) := ⟨_, rfl⟩
  have S0 : Six w.heap.size s v1 v2 t u1 u2 W := by subst hW; exact six_new _ _ _ _ _ _ _ _
  have R0 : ResZ (w.heap.size + 1 + 1) W := by subst hW; exact row_new4 _ _ _ (by simp)
  have B0 : Below w.heap.size w W := by subst hW; exact (((Below.refl _ _).alloc (Nat.le_refl _) _).alloc (by simp) _).alloc (by simp; omega) _
  have hz : w.heap.size + 2 < W.heap.size := by subst hW; simp
  have HV1 := Lib.hid (fun (X : World) (hX : Below w.heap.size w X) => c_eValid s m a true hx v1 v2 X (k1.on hX) (k2.on hX))
  have HV2 := Lib.hid (fun (X : World) (hX : Below w.heap.size w X) => c_eValid t n b false hy u1 u2 X (k3.on hX) (k4.on hX))
  obtain ⟨A1, c1, rfl⟩ := k1.1.shape
  obtain ⟨A2, c2, rfl⟩ := k2.1.shape
  obtain ⟨A3, c3, rfl⟩ := k3.1.shape
  obtain ⟨A4, c4, rfl⟩ := k4.1.shape
  have HS0 := Lib.hid S0
  have HR0 := Lib.hid R0
  have HB0 := Lib.hid B0
  obtain ⟨q0, q1, q2, q3, q4, q5⟩ := S0
  clear k1 k2 k3 k4 hx hy R0 B0
  go_enter Tryz.func31, Tryz.ntmps31
  go_wp2_with (fail)
  rw [← hW]
  clear hW
  go_at_call 19
  refine (HV1.out _ HB0.out).mono ?_
  rintro e w1 ⟨rfl, b1⟩
  have HS1 := Lib.hid (HS0.out.on b1 (by omega))
  have HR1 := Lib.hid (HR0.out.on b1 (by omega))
  have HB1 := Lib.hid (below_join HB0.out b1 HB0.out.size)
  have hz1 : w.heap.size + 2 < w1.heap.size := Nat.lt_of_lt_of_le hz b1.size
  clear b1 q0 q1 q2 q3 q4 q5
  obtain ⟨q0, q1, q2, q3, q4, q5⟩ := HS1.out
  go_wp2_with (fail)
  go_at_call 19
  refine (HV2.out _ HB1.out).mono ?_
  rintro e w2 ⟨rfl, b2⟩
  have HR2 := Lib.hid (HR1.out.on b2 (by omega))
  have HB2 := Lib.hid (below_join HB1.out b2 HB1.out.size)
  obtain ⟨e0, e1, e2⟩ := three_cells HR2.out
  obtain ⟨f0, f1, f2⟩ := three_frozen HR2.out
  go_wp2_with (fail)
  exact ret3t (b := w.heap.size + 1 + 1) rfl rfl rfl rfl (row_store3 HR2.out _ _ _) ⟨_, _, rfl, below_store3 HB2.out (by omega) _ _ _, fun _ => ⟨rfl, rfl⟩, fun _ _ _ h => absurd h (by simp)⟩
set_option maxHeartbeats 8000000 in
theorem c_eAddV (s t : Bool) (m n a b : Nat) (hx : validB s (nat m) (nat a) = true) (hy : validB t (nat n) (nat b) = true) (hab : 0 < a * b) (hm : (nat m).length ≤ 32) (hn : (nat n).length ≤ 32) (ha : (nat a).length ≤ 32) (hb : (nat b).length ≤ 32) (v1 v2 u1 u2 : Value) (w : World) (k1 : Ls w v1 (nat m)) (k2 : Ls w v2 (nat a)) (k3 : Ls w u1 (nat n)) (k4 : Ls w u2 (nat b)) :
    Calls Tryz.prog 28 #[.agg #[.bool s, v1, v2], .agg #[.bool t, u1, u2]] w (ResPost (redP (sumP s m a t n b).1 (sumP s m a t n b).2 (a * b)) 3 w) := by
  obtain ⟨W, hW⟩ : ∃ W, W = ((w.alloc (.cells #[.bool s, v1, v2] 25)).alloc (.cells #[.bool t, u1, u2] 25)).alloc (.cells #[.bool false, .slice none 0 0, .slice none 0 0] 25) := ⟨_, rfl⟩
  have S0 : Six w.heap.size s v1 v2 t u1 u2 W := by subst hW; exact six_new _ _ _ _ _ _ _ _
  have R0 : ResZ (w.heap.size + 2) W := by subst hW; exact row_new4 _ _ _ (by simp)
  have B0 : Below w.heap.size w W := by subst hW; exact (((Below.refl _ _).alloc (Nat.le_refl _) _).alloc (by simp) _).alloc (by simp; omega) _
  have hz : w.heap.size + 2 < W.heap.size := by subst hW; simp
  have HV1 := Lib.hid (fun (X : World) (hX : Below w.heap.size w X) => c_eValid s (nat m) (nat a) true hx v1 v2 X (k1.on hX) (k2.on hX))
  have HV2 := Lib.hid (fun (X : World) (hX : Below w.heap.size w X) => c_eValid t (nat n) (nat b) true hy u1 u2 X (k3.on hX) (k4.on hX))
  have HP1 := Lib.hid (fun (X : World) (hX : Below w.heap.size w X) => prodN m b hm hb (k1.on hX) (k4.on hX))
  have L1 : (nat (m * b)).length ≤ 40000 := by have := mul_len m b; omega
  have HP2 := Lib.hid (fun (X : World) (hX : Below w.heap.size w X) => prodN n a hn ha (k3.on hX) (k2.on hX))
  have L2 : (nat (n * a)).length ≤ 40000 := by have := mul_len n a; omega
  have HP3 := Lib.hid (fun (X : World) (hX : Below w.heap.size w X) => prodN a b ha hb (k2.on hX) (k4.on hX))
  have L3 : (nat (a * b)).length ≤ 40000 := by have := mul_len a b; omega
  have HM := Lib.hid (fun (X : World) (p1 p2 p3 : Value) (h1 : Ls X p1 (nat (m * b))) (h2 : Ls X p2 (nat (n * a))) (h3 : Ls X p3 (nat (a * b))) => c_esum s t m n a b hab L1 L2 (by omega) p1 p2 p3 X h1 h2 h3)
  obtain ⟨A1, c1, rfl⟩ := k1.1.shape
  obtain ⟨A2, c2, rfl⟩ := k2.1.shape
  obtain ⟨A3, c3, rfl⟩ := k3.1.shape
  obtain ⟨A4, c4, rfl⟩ := k4.1.shape
  have HS0 := Lib.hid S0
  have HR0 := Lib.hid R0
  have HB0 := Lib.hid B0
  obtain ⟨q0, q1, q2, q3, q4, q5⟩ := S0
  clear k1 k2 k3 k4 hx hy hab L1 L2 L3 R0 B0
  go_enter Tryz.func28, Tryz.ntmps28
  go_wp2_with (fail)
  rw [← hW]
  clear hW
  go_at_call 19
  refine (HV1.out _ HB0.out).mono ?_
  rintro e w1 ⟨rfl, b1⟩
  have HS1 := Lib.hid (HS0.out.on b1 (by omega))
  have HR1 := Lib.hid (HR0.out.on b1 (by omega))
  have HB1 := Lib.hid (below_join HB0.out b1 HB0.out.size)
  have hz1 : w.heap.size + 2 < w1.heap.size := Nat.lt_of_lt_of_le hz b1.size
  clear b1 q0 q1 q2 q3 q4 q5
  obtain ⟨q0, q1, q2, q3, q4, q5⟩ := HS1.out
  go_wp2_with (fail)
  go_at_call 19
  refine (HV2.out _ HB1.out).mono ?_
  rintro e w2 ⟨rfl, b2⟩
  have HS2 := Lib.hid (HS1.out.on b2 (by omega))
  have HR2 := Lib.hid (HR1.out.on b2 (by omega))
  have HB2 := Lib.hid (below_join HB1.out b2 HB1.out.size)
  have hz2 : w.heap.size + 2 < w2.heap.size := Nat.lt_of_lt_of_le hz1 b2.size
  clear b2 q0 q1 q2 q3 q4 q5
  obtain ⟨q0, q1, q2, q3, q4, q5⟩ := HS2.out
  go_wp2_with (fail)
  clear q0 q1 q2 q3 q4 q5
  go_region_held3 (fun X => X.cell? ⟨w.heap.size, 0, none⟩ = some (.bool s) ∧ X.cell? ⟨w.heap.size, 1, none⟩ = some (.slice A1 (nat m).length c1) ∧ X.cell? ⟨w.heap.size, 2, none⟩ = some (.slice A2 (nat a).length c2) ∧ X.cell? ⟨w.heap.size + 1, 0, none⟩ = some (.bool t) ∧ X.cell? ⟨w.heap.size + 1, 1, none⟩ = some (.slice A3 (nat n).length c3) ∧ X.cell? ⟨w.heap.size + 1, 2, none⟩ = some (.slice A4 (nat b).length c4))
    (first | exact HSz.out.store3 (by omega) _ _ _ | exact HSz.out | exact HSc.out | exact HSb.out | exact HSa.out | exact HS2.out)
    (first
      | (go_at_call 69; (with_reducible refine (HP1.out _ HB2.out.drew).mono ?_); rintro e wa ha0; obtain ⟨va, rfl, ga, hb0⟩ := NewNat.ls ha0; obtain ⟨D1, d1, rfl⟩ := ga.1.shape; have hba := Below.undrew hb0; have HGa := Lib.hid ga; have HSa := Lib.hid (HS2.out.on hba (by omega)); have HRa := Lib.hid (HR2.out.on hba (by omega)); have HBa := Lib.hid (below_join HB2.out hba HB2.out.size); have hza := Nat.lt_of_lt_of_le hz2 hba.size; clear ha0 hb0 hba ga)
      | (go_at_call 69; (with_reducible refine (HP2.out _ HBa.out).mono ?_); rintro e wb ha0; obtain ⟨vb, rfl, ga, hb0⟩ := NewNat.ls ha0; obtain ⟨D2, d2, rfl⟩ := ga.1.shape; have hba := hb0; have HGb := Lib.hid ga; have HGab := Lib.hid (HGa.out.on hb0); have HSb := Lib.hid (HSa.out.on hba (by omega)); have HRb := Lib.hid (HRa.out.on hba (by omega)); have HBb := Lib.hid (below_join HBa.out hba HBa.out.size); have hzb := Nat.lt_of_lt_of_le hza hba.size; clear ha0 hb0 hba ga)
      | (go_at_call 69; (with_reducible refine (HP3.out _ HBb.out).mono ?_); rintro e wc ha0; obtain ⟨vc, rfl, ga, hb0⟩ := NewNat.ls ha0; obtain ⟨D3, d3, rfl⟩ := ga.1.shape; have hba := hb0; have HGc := Lib.hid ga; have HGac := Lib.hid (HGab.out.on hb0); have HGbc := Lib.hid (HGb.out.on hb0); have HSc := Lib.hid (HSb.out.on hba (by omega)); have HRc := Lib.hid (HRb.out.on hba (by omega)); have HBc := Lib.hid (below_join HBb.out hba HBb.out.size); have hzc := Nat.lt_of_lt_of_le hzb hba.size; clear ha0 hb0 hba ga)
      | (go_at_call 68; (with_reducible refine (HM.out wc _ _ _ HGac.out HGbc.out HGc.out).mono ?_); rintro e wz hc0; obtain ⟨s', A5, m5, c5, A6, m6, c6, y, rfl, gc, hbc⟩ := res_open hc0; have HRS := Lib.hid gc; have HSz := Lib.hid (HSc.out.on hbc (by omega)); have HRz := Lib.hid (show ResZ (w.heap.size + 1 + 1) wz from HRc.out.on hbc (by omega)); have HBz := Lib.hid (below_join HBc.out hbc HBc.out.size); obtain ⟨f0, f1, f2⟩ := three_frozen HRz.out; obtain ⟨e0, e1, e2⟩ := three_cells HRz.out; clear hc0 hbc gc)
      | fail)
  all_goals (
    go_wp2_with (fail)
    have hst := HRS.out.storeZ HRz.out (.bool s') (.slice A5 m5 c5) (.slice A6 m6 c6)
    exact ret3t (b := w.heap.size + 1 + 1) rfl rfl rfl rfl (row_store3 HRz.out _ _ _) ⟨_, _, rfl, below_store3 HBz.out (by omega) _ _ _, hst.1, hst.2⟩)
set_option maxHeartbeats 8000000 in
theorem c_eDivV (s t : Bool) (m n a b : Nat) (hx : validB s (nat m) (nat a) = true) (hy : validB t (nat n) (nat b) = true) (hab : 0 < a * n) (hm : (nat m).length ≤ 32) (hn : (nat n).length ≤ 32) (ha : (nat a).length ≤ 32) (hb : (nat b).length ≤ 32) (v1 v2 u1 u2 : Value) (w : World) (k1 : Ls w v1 (nat m)) (k2 : Ls w v2 (nat a)) (k3 : Ls w u1 (nat n)) (k4 : Ls w u2 (nat b)) :
    Calls Tryz.prog 31 #[.agg #[.bool s, v1, v2], .agg #[.bool t, u1, u2]] w (ResPost (redP (s != t) (m * b) (a * n)) 3 w) := by
  obtain ⟨W, hW⟩ : ∃ W, W = ((w.alloc (.cells #[.bool s, v1, v2] 25)).alloc (.cells #[.bool t, u1, u2] 25)).alloc (.cells #[.bool false, .slice none 0 0, .slice none 0 0] 25) := ⟨_, rfl⟩
  have S0 : Six w.heap.size s v1 v2 t u1 u2 W := by subst hW; exact six_new _ _ _ _ _ _ _ _
  have R0 : ResZ (w.heap.size + 2) W := by subst hW; exact row_new4 _ _ _ (by simp)
  have B0 : Below w.heap.size w W := by subst hW; exact (((Below.refl _ _).alloc (Nat.le_refl _) _).alloc (by simp) _).alloc (by simp; omega) _
  have hz : w.heap.size + 2 < W.heap.size := by subst hW; simp
  have HV1 := Lib.hid (fun (X : World) (hX : Below w.heap.size w X) => c_eValid s (nat m) (nat a) true hx v1 v2 X (k1.on hX) (k2.on hX))
  have HV2 := Lib.hid (fun (X : World) (hX : Below w.heap.size w X) => c_eValid t (nat n) (nat b) true hy u1 u2 X (k3.on hX) (k4.on hX))
  have HP1 := Lib.hid (fun (X : World) (hX : Below w.heap.size w X) => prodN m b hm hb (k1.on hX) (k4.on hX))
  have L1 : (nat (m * b)).length ≤ 40000 := by have := mul_len m b; omega
  have HP2 := Lib.hid (fun (X : World) (hX : Below w.heap.size w X) => prodN a n ha hn (k2.on hX) (k3.on hX))
  have L2 : (nat (a * n)).length ≤ 40000 := by have := mul_len a n; omega
  have HM := Lib.hid (fun (X : World) (vn vd : Value) (h1 : Ls X vn (nat (m * b))) (h2 : Ls X vd (nat (a * n))) => show Calls Tryz.prog 48 #[.bool (!(s == t)), vn, vd] X (ResPost (redP (s != t) (m * b) (a * n)) 3 X) from c_eMade (s != t) (m * b) (a * n) hab (by omega) (by omega) vn vd X h1 h2)
  have hn0 : (((nat n).length : Nat) : Int) ≠ 0 := by
    have h0 : 0 < n := by
      rcases Nat.eq_zero_or_pos n with h | h
      · rw [h, Nat.mul_zero] at hab; omega
      · exact h
    have := nat_len_pos.2 h0
    omega
  have hn0' : ((((nat n).length : Nat) : Int) == 0) = false := by rw [beq_eq_false_iff_ne]; exact hn0
  obtain ⟨A1, c1, rfl⟩ := k1.1.shape
  obtain ⟨A2, c2, rfl⟩ := k2.1.shape
  obtain ⟨A3, c3, rfl⟩ := k3.1.shape
  obtain ⟨A4, c4, rfl⟩ := k4.1.shape
  have HS0 := Lib.hid S0
  have HR0 := Lib.hid R0
  have HB0 := Lib.hid B0
  obtain ⟨q0, q1, q2, q3, q4, q5⟩ := S0
  clear k1 k2 k3 k4 hx hy hab L1 L2 R0 B0
  go_enter Tryz.func31, Tryz.ntmps31
  go_wp2_with (fail)
  rw [← hW]
  clear hW
  go_at_call 19
  refine (HV1.out _ HB0.out).mono ?_
  rintro e w1 ⟨rfl, b1⟩
  have HS1 := Lib.hid (HS0.out.on b1 (by omega))
  have HR1 := Lib.hid (HR0.out.on b1 (by omega))
  have HB1 := Lib.hid (below_join HB0.out b1 HB0.out.size)
  have hz1 : w.heap.size + 2 < w1.heap.size := Nat.lt_of_lt_of_le hz b1.size
  clear b1 q0 q1 q2 q3 q4 q5
  obtain ⟨q0, q1, q2, q3, q4, q5⟩ := HS1.out
  go_wp2_with (fail)
  go_at_call 19
  refine (HV2.out _ HB1.out).mono ?_
  rintro e w2 ⟨rfl, b2⟩
  have HS2 := Lib.hid (HS1.out.on b2 (by omega))
  have HR2 := Lib.hid (HR1.out.on b2 (by omega))
  have HB2 := Lib.hid (below_join HB1.out b2 HB1.out.size)
  have hz2 : w.heap.size + 2 < w2.heap.size := Nat.lt_of_lt_of_le hz1 b2.size
  clear b2 q0 q1 q2 q3 q4 q5
  obtain ⟨q0, q1, q2, q3, q4, q5⟩ := HS2.out
  go_wp2_with (fail)
  clear q0 q1 q2 q3 q4 q5
  go_region_held3 (fun X => X.cell? ⟨w.heap.size, 0, none⟩ = some (.bool s) ∧ X.cell? ⟨w.heap.size, 1, none⟩ = some (.slice A1 (nat m).length c1) ∧ X.cell? ⟨w.heap.size, 2, none⟩ = some (.slice A2 (nat a).length c2) ∧ X.cell? ⟨w.heap.size + 1, 0, none⟩ = some (.bool t) ∧ X.cell? ⟨w.heap.size + 1, 1, none⟩ = some (.slice A3 (nat n).length c3) ∧ X.cell? ⟨w.heap.size + 1, 2, none⟩ = some (.slice A4 (nat b).length c4))
    (first | exact HSz.out.store3 (by omega) _ _ _ | exact HSz.out | exact HSb.out | exact HSa.out | exact HS2.out)
    (first
      | (go_at_call 69; (with_reducible refine (HP1.out _ HB2.out.drew).mono ?_); rintro e wa ha0; obtain ⟨va, rfl, ga, hb0⟩ := NewNat.ls ha0; obtain ⟨D1, d1, rfl⟩ := ga.1.shape; have hba := Below.undrew hb0; have HGa := Lib.hid ga; have HSa := Lib.hid (HS2.out.on hba (by omega)); have HRa := Lib.hid (HR2.out.on hba (by omega)); have HBa := Lib.hid (below_join HB2.out hba HB2.out.size); have hza := Nat.lt_of_lt_of_le hz2 hba.size; clear ha0 hb0 hba ga)
      | (go_at_call 69; (with_reducible refine (HP2.out _ HBa.out).mono ?_); rintro e wb ha0; obtain ⟨vb, rfl, ga, hb0⟩ := NewNat.ls ha0; obtain ⟨D2, d2, rfl⟩ := ga.1.shape; have hba := hb0; have HGb := Lib.hid ga; have HGab := Lib.hid (HGa.out.on hb0); have HSb := Lib.hid (HSa.out.on hba (by omega)); have HRb := Lib.hid (HRa.out.on hba (by omega)); have HBb := Lib.hid (below_join HBa.out hba HBa.out.size); have hzb := Nat.lt_of_lt_of_le hza hba.size; clear ha0 hb0 hba ga)
      | (go_at_call 48; (with_reducible refine (HM.out wb _ _ HGab.out HGb.out).mono ?_); rintro e wz hc0; obtain ⟨s', A5, m5, c5, A6, m6, c6, y, rfl, gc, hbc⟩ := res_open hc0; have HRS := Lib.hid gc; have HSz := Lib.hid (HSb.out.on hbc (by omega)); have HRz := Lib.hid (show ResZ (w.heap.size + 1 + 1) wz from HRb.out.on hbc (by omega)); have HBz := Lib.hid (below_join HBb.out hbc HBb.out.size); obtain ⟨f0, f1, f2⟩ := three_frozen HRz.out; obtain ⟨e0, e1, e2⟩ := three_cells HRz.out; clear hc0 hbc gc)
      | fail)
  all_goals (
    go_wp2_with (fail)
    have hst := HRS.out.storeZ HRz.out (.bool s') (.slice A5 m5 c5) (.slice A6 m6 c6)
    exact ret3t (b := w.heap.size + 1 + 1) rfl rfl rfl rfl (row_store3 HRz.out _ _ _) ⟨_, _, rfl, below_store3 HBz.out (by omega) _ _ _, hst.1, hst.2⟩)
end Go.Proofs.YtfdkdloldjfnjaaGreatDoor
