/-
  DERIVED. The laws RatioField and RatioOrder, at every argument.
-/
import Derived.Test.YtfdkdloldjfnjaaGreatDoorWJ
import Derived.Test.YtfdkdloldjfnjaaGreatDoorWM
import Derived.Test.YtfdkdloldjfnjaaGreatDoorYRMm
set_option linter.unusedVariables false
set_option linter.unusedSimpArgs false
namespace Go.Proofs.YtfdkdloldjfnjaaGreatDoor
open Go.RowKit
set_option maxRecDepth 100000

theorem smq_bd {n d : Int} (h1 : -32768 ≤ n) (h2 : n ≤ 32767) (h3 : -32768 ≤ d) (h4 : d ≤ 32767) : Bd (smq n d) 32768 32768 := by
  unfold smq
  have key : ∀ k : Int, -32768 ≤ k → k ≤ 32767 → k ≠ 0 → Bd (ofq n k) 32768 32768 := by
    intro k k1 k2 k0
    unfold ofq
    exact (Bd.quo (by omega)).mono (by omega) (by omega)
  split
  · exact key 1 (by omega) (by omega) (by omega)
  · exact key d h3 h4 (by assumption)
set_option maxHeartbeats 2000000 in
theorem row_RatioField (xs : List Int) (v0 : Value) (w : World) (h0 : v0 = .agg (xs.map (.int .i16)).toArray ∧ xs.length = 6 ∧ ∀ z ∈ xs, -32768 ≤ z ∧ z ≤ 32767) (he : Env w) :
    Calls Tryz.prog 7 #[v0] w fun e w' => e = .returned (.bool true) ∧ Below w.heap.size w w' := by
  obtain ⟨rfl, hl, hz⟩ := h0
  match xs, hl with
  | [z0, z1, z2, z3, z4, z5], _ =>
    obtain ⟨a0, b0⟩ := hz z0 (by simp)
    obtain ⟨a1, b1⟩ := hz z1 (by simp)
    obtain ⟨a2, b2⟩ := hz z2 (by simp)
    obtain ⟨a3, b3⟩ := hz z3 (by simp)
    obtain ⟨a4, b4⟩ := hz z4 (by simp)
    obtain ⟨a5, b5⟩ := hz z5 (by simp)
    have c1 := smq_bd a0 b0 a1 b1
    have c2 := smq_bd a2 b2 a3 b3
    have c3 := smq_bd a4 b4 a5 b5
    have h1 := Lib.hid (show ∀ X, Calls Tryz.prog 42 #[.int .i16 z0, .int .i16 z1] X (SmallPost (smq z0 z1) X) from fun X => c_small z0 z1 a0 b0 a1 b1 X)
    have h2 := Lib.hid (show ∀ X, Calls Tryz.prog 42 #[.int .i16 z2, .int .i16 z3] X (SmallPost (smq z2 z3) X) from fun X => c_small z2 z3 a2 b2 a3 b3 X)
    have h3 := Lib.hid (show ∀ X, Calls Tryz.prog 42 #[.int .i16 z4, .int .i16 z5] X (SmallPost (smq z4 z5) X) from fun X => c_small z4 z5 a4 b4 a5 b5 X)
    generalize smq z0 z1 = x at *
    generalize smq z2 z3 = y at *
    generalize smq z4 z5 = z at *
    have s0 : Sm x := c1.sm (by decide +kernel) (by decide +kernel)
    have s1 : Sm (x + y) := (c1.add c2).sm (by decide +kernel) (by decide +kernel)
    have s2 : Sm (y + z) := (c2.add c3).sm (by decide +kernel) (by decide +kernel)
    have s3 : Sm (x + y + z) := ((c1.add c2).add c3).sm (by decide +kernel) (by decide +kernel)
    have s4 : Sm (x * y) := (c1.mul c2).sm (by decide +kernel) (by decide +kernel)
    have s5 : Sm (x * z) := (c1.mul c3).sm (by decide +kernel) (by decide +kernel)
    have s6 : Sm (x * y + x * z) := ((c1.mul c2).add (c1.mul c3)).sm (by decide +kernel) (by decide +kernel)
    by_cases hy : y = 0
    · refine field_z z0 z1 z2 z3 z4 z5 x y z (x + y) (y + z) (x + y + z) (x * y) (x * z) (x * y + x * z) h1 h2 h3 (Lib.hid s0) (Lib.hid ⟨rfl, Rat.add_comm _ _, s1⟩) (Lib.hid (add_back x y)) (Lib.hid ⟨rfl, s2⟩) (Lib.hid ⟨rfl, (add_three x y z).symm, s3⟩) (Lib.hid ⟨rfl, Rat.mul_comm _ _, s4⟩) (Lib.hid ⟨rfl, s5⟩) (Lib.hid ⟨rfl, (mul_over x y z).symm, s6⟩) (Lib.hid hy) ?_ w he
      rw [num_zero.2 hy, nat, dif_pos rfl]
      rfl
    · refine field_p z0 z1 z2 z3 z4 z5 x y z (x + y) (y + z) (x + y + z) (x * y) (x * z) (x * y + x * z) h1 h2 h3 (Lib.hid s0) (Lib.hid ⟨rfl, Rat.add_comm _ _, s1⟩) (Lib.hid (add_back x y)) (Lib.hid ⟨rfl, s2⟩) (Lib.hid ⟨rfl, (add_three x y z).symm, s3⟩) (Lib.hid ⟨rfl, Rat.mul_comm _ _, s4⟩) (Lib.hid ⟨rfl, s5⟩) (Lib.hid ⟨rfl, (mul_over x y z).symm, s6⟩) (Lib.hid ⟨hy, mul_back x hy⟩) ?_ w he
      have := nat_len_pos.2 (num_pos hy)
      rw [beq_eq_false_iff_ne]
      omega
theorem floor_small {x : Rat} (h : x.num.natAbs ≤ 32768) : x.floor.natAbs ≤ 32768 := by
  rw [Rat.floor_def]
  exact Nat.le_trans (Int.natAbs_ediv_le_natAbs _ _) h
theorem ofq_one (n : Int) : ofq n 1 = (n : Rat) := by
  have := nq_pos n (show (0 : Int) < 1 by omega)
  rw [show ((1 : Int) : Rat) = 1 from rfl, Rat.mul_one] at this
  exact this
set_option maxHeartbeats 2000000 in
theorem row_RatioOrder (xs : List Int) (v0 : Value) (w : World) (h0 : v0 = .agg (xs.map (.int .i16)).toArray ∧ xs.length = 6 ∧ ∀ z ∈ xs, -32768 ≤ z ∧ z ≤ 32767) (he : Env w) :
    Calls Tryz.prog 8 #[v0] w fun e w' => e = .returned (.bool true) ∧ Below w.heap.size w w' := by
  obtain ⟨rfl, hl, hz⟩ := h0
  match xs, hl with
  | [z0, z1, z2, z3, z4, z5], _ =>
    obtain ⟨a0, b0⟩ := hz z0 (by simp)
    obtain ⟨a1, b1⟩ := hz z1 (by simp)
    obtain ⟨a2, b2⟩ := hz z2 (by simp)
    obtain ⟨a3, b3⟩ := hz z3 (by simp)
    obtain ⟨a4, b4⟩ := hz z4 (by simp)
    obtain ⟨a5, b5⟩ := hz z5 (by simp)
    have c1 := smq_bd a0 b0 a1 b1
    have c2 := smq_bd a2 b2 a3 b3
    have c3 := smq_bd a4 b4 a5 b5
    have h1 := Lib.hid (show ∀ X, Calls Tryz.prog 42 #[.int .i16 z0, .int .i16 z1] X (SmallPost (smq z0 z1) X) from fun X => c_small z0 z1 a0 b0 a1 b1 X)
    have h2 := Lib.hid (show ∀ X, Calls Tryz.prog 42 #[.int .i16 z2, .int .i16 z3] X (SmallPost (smq z2 z3) X) from fun X => c_small z2 z3 a2 b2 a3 b3 X)
    have h3 := Lib.hid (show ∀ X, Calls Tryz.prog 42 #[.int .i16 z4, .int .i16 z5] X (SmallPost (smq z4 z5) X) from fun X => c_small z4 z5 a4 b4 a5 b5 X)
    generalize smq z0 z1 = x at *
    generalize smq z2 z3 = y at *
    generalize smq z4 z5 = z at *
    have hf := floor_small c1.parts.1
    have hn : ((x.floor : Int) : Rat).num.natAbs ≤ 32768 := hf
    have hbd : Bd ((x.floor : Int) : Rat) 32768 1 := ⟨_, _, _, (quo_self _).symm, Rat.den_pos _, hn, Nat.le_refl _⟩
    have s1 : Sm (x - y) := (c1.sub c2).sm (by decide +kernel) (by decide +kernel)
    have s2 : Sm (x + z) := (c1.add c3).sm (by decide +kernel) (by decide +kernel)
    have s3 : Sm (y + z) := (c2.add c3).sm (by decide +kernel) (by decide +kernel)
    have s4 : Sm ((x.floor : Int) : Rat) := hbd.sm (by decide +kernel) (by decide +kernel)
    have s5 : Sm (x - ((x.floor : Int) : Rat)) := (c1.sub hbd).sm (by decide +kernel) (by decide +kernel)
    obtain ⟨r1, r2⟩ := rest_sign x
    exact order_walk z0 z1 z2 z3 z4 z5 x y z (x - y) (x + z) (y + z) (x.floor : Rat) (x - (x.floor : Rat)) (qcmp x y) x.floor _ h1 h2 h3 (Lib.hid rfl) (Lib.hid ⟨rfl, s1, sgq_sub x y⟩) (Lib.hid ⟨rfl, s2⟩) (Lib.hid ⟨rfl, s3⟩) (Lib.hid (qcmp_add x y z)) (Lib.hid ⟨rfl, s4⟩) (Lib.hid ⟨rfl, s5⟩) (Lib.hid r2) (Lib.hid rfl) (by omega) (by omega) (Lib.hid (ofq_one _)) (Lib.hid rfl) r1 w he
end Go.Proofs.YtfdkdloldjfnjaaGreatDoor
