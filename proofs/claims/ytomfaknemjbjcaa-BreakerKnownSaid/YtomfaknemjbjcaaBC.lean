/-
  DERIVED. Valid, isState, next, lasting, cooling of the landed package. (Written by gen/genBC.py.)
-/
import Derived.Test.YtomfaknemjbjcaaBB
namespace Go.Proofs.Ytomfaknemjbjcaa
open Go.RowKit
set_option maxRecDepth 100000

def bkV (f L S F : Int) : Value := .agg #[.int .i64 f, .int .i64 L, .int .i64 S, .int .i64 F]
def stV (x : Int × Bool) : Value := .agg #[.int .i64 x.1, .bool x.2]

set_option maxHeartbeats 4000000 in
theorem c_Valid (f L S F : Int) (r : Bool) (hr : bOk L S F = r) (w : World) :
    Calls Try.prog 16 #[bkV f L S F] w fun e w' => e = .returned (.bool r) ∧ Below w.heap.size w w' := by
  unfold bkV
  obtain ⟨W, hW⟩ : ∃ W, W = w.alloc (.cells #[.int .i64 f, .int .i64 L, .int .i64 S, .int .i64 F] 23) := ⟨_, rfl⟩
  have B0 : Below w.heap.size w W := by subst hW; exact (Below.refl _ _).alloc (Nat.le_refl _) _
  have HB := Lib.hid B0
  have HK := Lib.hid (show Bk W w.heap.size f L S F by subst hW; exact bk_new _ _ _ _ _)
  obtain ⟨x0, x1, x2, x3⟩ := HK.out.cells
  clear B0
  have HR := Lib.hid (show ((decide (0 ≤ L) && decide (L ≤ 1000000)) && ((decide (0 ≤ S) && decide (S ≤ 1000000)) && (decide (L ≤ F) && decide (F ≤ 1000000)))) = r by rw [← hr]; unfold bOk; simp only [Bool.and_assoc])
  clear hr
  rcases h1 : (decide (0 ≤ L) && decide (L ≤ 1000000)) with _ | _
  · have H1 := Lib.hid h1
    obtain rfl : false = r := by rw [← HR.out, h1]; rfl
    clear h1
    go_enter Try.func16, Try.ntmps16
    go_wp2_with (fail)
    rw [← hW]
    clear hW
    go_at_call 43
    refine (c_isUpTo _ _ _ H1.out _).mono ?_
    rintro e w1 ⟨rfl, rfl⟩
    go_wp2_with (fail)
    go_ret
    exact ⟨rfl, HB.out⟩
  · have H1 := Lib.hid h1
    rcases h2 : (decide (0 ≤ S) && decide (S ≤ 1000000)) with _ | _
    · have H2 := Lib.hid h2
      obtain rfl : false = r := by rw [← HR.out, h1, h2]; rfl
      clear h1 h2
      go_enter Try.func16, Try.ntmps16
      go_wp2_with (fail)
      rw [← hW]
      clear hW
      go_at_call 43
      refine (c_isUpTo _ _ _ H1.out _).mono ?_
      rintro e w1 ⟨rfl, rfl⟩
      go_wp2_with (fail)
      go_at_call 43
      refine (c_isUpTo _ _ _ H2.out _).mono ?_
      rintro e w2 ⟨rfl, rfl⟩
      go_wp2_with (fail)
      go_ret
      exact ⟨rfl, HB.out⟩
    · have H2 := Lib.hid h2
      rcases h3 : decide (L ≤ F) with _ | _
      · obtain rfl : false = r := by rw [← HR.out, h1, h2, h3]; rfl
        clear h1 h2
        go_enter Try.func16, Try.ntmps16
        go_wp2_with (fail)
        rw [← hW]
        clear hW
        go_at_call 43
        refine (c_isUpTo _ _ _ H1.out _).mono ?_
        rintro e w1 ⟨rfl, rfl⟩
        go_wp2_with (fail)
        go_at_call 43
        refine (c_isUpTo _ _ _ H2.out _).mono ?_
        rintro e w2 ⟨rfl, rfl⟩
        go_wp2_with (fail)
        go_ret
        exact ⟨rfl, HB.out⟩
      · obtain rfl : decide (F ≤ 1000000) = r := by rw [← HR.out, h1, h2, h3]; rfl
        clear h1 h2
        go_enter Try.func16, Try.ntmps16
        go_wp2_with (fail)
        rw [← hW]
        clear hW
        go_at_call 43
        refine (c_isUpTo _ _ _ H1.out _).mono ?_
        rintro e w1 ⟨rfl, rfl⟩
        go_wp2_with (fail)
        go_at_call 43
        refine (c_isUpTo _ _ _ H2.out _).mono ?_
        rintro e w2 ⟨rfl, rfl⟩
        go_wp2_with (fail)
        go_ret
        exact ⟨rfl, HB.out⟩
end Go.Proofs.Ytomfaknemjbjcaa
