/-
  DERIVED. The reference's Mul, of a fraction that is not valid.
-/
import Derived.Test.YtfdkdloldjfnjaaGreatDoorUZ
import Derived.Test.YtfdkdloldjfnjaaGreatDoorUO
set_option linter.unusedVariables false
set_option linter.unusedSimpArgs false
namespace Go.Proofs.YtfdkdloldjfnjaaGreatDoor
open Go.RowKit
set_option maxRecDepth 100000

set_option maxHeartbeats 4000000 in
theorem c_eMulN1 (s t : Bool) (m n a b : List Nat) (hx : validB s m a = false) (v1 v2 u1 u2 : Value) (w : World) (k1 : Ls w v1 m) (k2 : Ls w v2 a) (k3 : Ls w u1 n) (k4 : Ls w u2 b) :
    Calls Tryz.prog 30 #[.agg #[.bool s, v1, v2], .agg #[.bool t, u1, u2]] w (ResPost none 1 w) := by
  obtain ⟨W, hW⟩ : ∃ W, W = ((w.alloc (.cells #[.bool s, v1, v2] 25)).alloc (.cells #[.bool t, u1, u2] 25)).alloc (.cells #[.bool false, .slice none 0 0, .slice none 0 0] 25) := ⟨_, rfl⟩
  have S0 : Six w.heap.size s v1 v2 t u1 u2 W := by subst hW; exact six_new _ _ _ _ _ _ _ _
  have R0 : ResZ (w.heap.size + 1 + 1) W := by subst hW; exact row_new4 _ _ _ (by simp)
  have B0 : Below w.heap.size w W := by subst hW; exact (((Below.refl _ _).alloc (Nat.le_refl _) _).alloc (by simp) _).alloc (by simp; omega) _
  have hz : w.heap.size + 2 < W.heap.size := by subst hW; simp
  have HV1 := Lib.hid (fun (X : World) (hX : Below w.heap.size w X) => c_eValid s m a false hx v1 v2 X (k1.on hX) (k2.on hX))
  obtain ⟨A1, c1, rfl⟩ := k1.1.shape
  obtain ⟨A2, c2, rfl⟩ := k2.1.shape
  obtain ⟨A3, c3, rfl⟩ := k3.1.shape
  obtain ⟨A4, c4, rfl⟩ := k4.1.shape
  have HS0 := Lib.hid S0
  have HR0 := Lib.hid R0
  have HB0 := Lib.hid B0
  obtain ⟨q0, q1, q2, q3, q4, q5⟩ := S0
  clear k1 k2 k3 k4 hx R0 B0
  go_enter Tryz.func30, Tryz.ntmps30
  go_wp2_with (fail)
  rw [← hW]
  clear hW
  go_at_call 19
  refine (HV1.out _ HB0.out).mono ?_
  rintro e w1 ⟨rfl, b1⟩
  have HR2 := Lib.hid (HR0.out.on b1 (by omega))
  have HB2 := Lib.hid (below_join HB0.out b1 HB0.out.size)
  obtain ⟨e0, e1, e2⟩ := three_cells HR2.out
  obtain ⟨f0, f1, f2⟩ := three_frozen HR2.out
  go_wp2_with (fail)
  exact ret3t (b := w.heap.size + 1 + 1) rfl rfl rfl rfl (row_store3 HR2.out _ _ _) ⟨_, _, rfl, below_store3 HB2.out (by omega) _ _ _, fun _ => ⟨rfl, rfl⟩, fun _ _ _ h => absurd h (by simp)⟩
set_option maxHeartbeats 4000000 in
theorem c_eMulN2 (s t : Bool) (m n a b : List Nat) (hx : validB s m a = true) (hy : validB t n b = false) (v1 v2 u1 u2 : Value) (w : World) (k1 : Ls w v1 m) (k2 : Ls w v2 a) (k3 : Ls w u1 n) (k4 : Ls w u2 b) :
    Calls Tryz.prog 30 #[.agg #[.bool s, v1, v2], .agg #[.bool t, u1, u2]] w (ResPost none 1 w) := by
  obtain ⟨W, hW⟩ : ∃ W, W = ((w.alloc (.cells #[.bool s, v1, v2] 25)).alloc (.cells #[.bool t, u1, u2] 25)).alloc (.cells #[.bool false, .slice none 0 0, .slice none 0 0] 25) := ⟨_, rfl⟩
  have S0 : Six w.heap.size s v1 v2 t u1 u2 W := by subst hW; exact six_new _ _ _ _ _ _ _ _
  have R0 : ResZ (w.heap.size + 1 + 1) W := by subst hW; exact row_new4 _ _ _ (by simp)
  have B0 : Below w.heap.size w W := by subst hW; exact (((Below.refl _ _).alloc (Nat.le_refl _) _).alloc (by simp) _).alloc (by simp; omega) _
  have hz : w.heap.size + 2 < W.heap.size := by subst hW; simp
  have HV1 := Lib.hid (fun (X : World) (hX : Below w.heap.size w X) => c_eValid s m a true hx v1 v2 X (k1.on hX) (k2.on hX))
  have HV2 := Lib.hid (fun (X : World) (hX : Below w.heap.size w X) => c_eValid t n b false hy u1 u2 X (k3.on hX) (k4.on hX))
  obtain ⟨A1, c1, rfl⟩ := k1.1.shape
  obtain ⟨A2, c2, rfl⟩ := k2.1.shape
  obtain ⟨A3, c3, rfl⟩ := k3.1.shape
  obtain ⟨A4, c4, rfl⟩ := k4.1.shape
  have HS0 := Lib.hid S0
  have HR0 := Lib.hid R0
  have HB0 := Lib.hid B0
  obtain ⟨q0, q1, q2, q3, q4, q5⟩ := S0
  clear k1 k2 k3 k4 hx hy R0 B0
  go_enter Tryz.func30, Tryz.ntmps30
  go_wp2_with (fail)
  rw [← hW]
  clear hW
  go_at_call 19
  refine (HV1.out _ HB0.out).mono ?_
  rintro e w1 ⟨rfl, b1⟩
  have HS1 := Lib.hid (HS0.out.on b1 (by omega))
  have HR1 := Lib.hid (HR0.out.on b1 (by omega))
  have HB1 := Lib.hid (below_join HB0.out b1 HB0.out.size)
  have hz1 : w.heap.size + 2 < w1.heap.size := Nat.lt_of_lt_of_le hz b1.size
  clear b1 q0 q1 q2 q3 q4 q5
  obtain ⟨q0, q1, q2, q3, q4, q5⟩ := HS1.out
  go_wp2_with (fail)
  go_at_call 19
  refine (HV2.out _ HB1.out).mono ?_
  rintro e w2 ⟨rfl, b2⟩
  have HR2 := Lib.hid (HR1.out.on b2 (by omega))
  have HB2 := Lib.hid (below_join HB1.out b2 HB1.out.size)
  obtain ⟨e0, e1, e2⟩ := three_cells HR2.out
  obtain ⟨f0, f1, f2⟩ := three_frozen HR2.out
  go_wp2_with (fail)
  exact ret3t (b := w.heap.size + 1 + 1) rfl rfl rfl rfl (row_store3 HR2.out _ _ _) ⟨_, _, rfl, below_store3 HB2.out (by omega) _ _ _, fun _ => ⟨rfl, rfl⟩, fun _ _ _ h => absurd h (by simp)⟩
end Go.Proofs.YtfdkdloldjfnjaaGreatDoor
