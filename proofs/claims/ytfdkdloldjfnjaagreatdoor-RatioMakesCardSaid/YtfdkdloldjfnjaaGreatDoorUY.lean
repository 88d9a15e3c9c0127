/-
  DERIVED. The reference's Of where the denominator is 0.
-/
import Derived.Test.YtfdkdloldjfnjaaGreatDoorUM
set_option linter.unusedVariables false
set_option linter.unusedSimpArgs false
namespace Go.Proofs.YtfdkdloldjfnjaaGreatDoor
open Go.RowKit
set_option maxRecDepth 100000

set_option maxHeartbeats 1000000 in
theorem e_OfZ (n : Int) (w : World) :
    Calls Tryz.prog 14 #[.int .i64 n, .int .i64 0] w (ResPost none 2 w) := by
  obtain ⟨W, hW⟩ : ∃ W, W = w.alloc (.cells #[.bool false, .slice none 0 0, .slice none 0 0] 25) := ⟨_, rfl⟩
  have R0 : ResZ w.heap.size W := by subst hW; exact row_new4 _ _ _ rfl
  have B0 : Below w.heap.size w W := by subst hW; exact (Below.refl _ _).alloc (Nat.le_refl _) _
  have HR0 := Lib.hid R0
  have HB0 := Lib.hid B0
  obtain ⟨e0, e1, e2⟩ := three_cells R0
  obtain ⟨f0, f1, f2⟩ := three_frozen R0
  clear R0 B0
  go_enter Tryz.func14, Tryz.ntmps14
  go_wp2_with (fail)
  rw [← hW]
  go_wp2_with (fail)
  exact ret3t (b := w.heap.size) rfl rfl rfl rfl HR0.out ⟨_, _, rfl, HB0.out, fun _ => ⟨rfl, rfl⟩, fun _ _ _ h => absurd h (by simp)⟩
end Go.Proofs.YtfdkdloldjfnjaaGreatDoor
