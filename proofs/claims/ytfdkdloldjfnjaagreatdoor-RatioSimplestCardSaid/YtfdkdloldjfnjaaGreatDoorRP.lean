/-
  DERIVED. Plain: an int cut to ten bits.
-/
import Derived.Laws.Bits64b
import Derived.IntWalk
set_option linter.unusedVariables false
set_option linter.unusedSimpArgs false
namespace Go.Proofs.YtfdkdloldjfnjaaGreatDoor

theorem and_1023 (x : Int) : 0 ≤ bits .and .i64 x 1023 ∧ bits .and .i64 x 1023 ≤ 1023 := by
  have h1 : (BitVec.ofInt 64 (1023 : Int)).toNat = 1023 := by decide +kernel
  have h2 : ((BitVec.ofInt 64 x &&& BitVec.ofInt 64 (1023 : Int)).toNat) ≤ 1023 := by
    rw [BitVec.toNat_and, h1]
    exact Nat.and_le_right
  have e : bits .and .i64 x 1023 = IntKind.i64.wrap ((BitVec.ofInt 64 x &&& BitVec.ofInt 64 (1023 : Int)).toNat : Int) := rfl
  rw [e]
  generalize (BitVec.ofInt 64 x &&& BitVec.ofInt 64 (1023 : Int)).toNat = n at *
  rw [IntWalk.i64_in _ (by omega)]
  omega
end Go.Proofs.YtfdkdloldjfnjaaGreatDoor
