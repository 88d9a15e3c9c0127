/-
  DERIVED. The walk of the law LexisTokens.
-/
import Derived.Test.YtlfjhechploioaaO
namespace Go.Proofs.Ytlfjhechploioaa
open Go.RowKit

theorem sameL_self : ∀ l, sameL l l = true
  | [] => rfl
  | a :: l => by rw [sameL, sameL_self l]; simp [sameT]
theorem offsL_self : ∀ l, offsL l l = true
  | [] => rfl
  | a :: l => by rw [offsL, offsL_self l]; simp
theorem equalL_self (l : List Tok) : equalL l l = true := by rw [equalL, sameL_self, offsL_self]; rfl

theorem below_drewN {B : Nat} {a w : World} (h : Below B a w) (n : Nat) : Below B a (w.drewN n) := ⟨h.os, h.tape, h.output, h.size, h.block⟩

set_option maxHeartbeats 1000000 in
theorem w_LexisTokens (s : ByteArray) (hs : s.size ≤ maxLen) (w : World) :
    Calls Try.prog 3 #[.string s] w fun e w' => e = .returned (.bool true) ∧ Below w.heap.size w w' := by
  have h1 := c_Tokens s hs
  have h2 := r_Tokens s hs
  generalize toksOf s = r at h1 h2
  obtain ⟨l, at_, er⟩ := r
  unfold TokPost at h1 h2
  dsimp only at h1 h2
  have H1 := Lib.hid h1
  have H2 := Lib.hid h2
  clear h1 h2
  go_enter Try.func3, Try.ntmps3
  go_wp2_with (first | (go_at_call 10; refine (H1.out _).mono ?_; rintro e w1 ⟨v1, rfl, hr1, hb1⟩; have s1 := Lib.hid (TokSl.of_own hr1); clear hr1) | (go_at_call 11; refine (H2.out _).mono ?_; rintro e w2 ⟨v2, rfl, hr2, hb2⟩; have s2 := Lib.hid (TokSl.of_own hr2); clear hr2) | (go_at_call 12; refine (r_Equal _ _ l l _ _ ((s1.out.below hb2 (Nat.le_refl _)).more hb2.size) s2.out).mono ?_; rintro e w3 ⟨rfl, n, rfl⟩; rw [equalL_self]) | (go_at_call 13; refine (l_awake _).mono ?_; rintro e w4 ⟨rfl, hb4⟩))
  go_ret
  have z1 := hb1.size
  have z2 := hb2.size
  exact ⟨rfl, hb1.trans ((hb2.mono z1).trans ((below_drewN (Below.refl _ _) n).trans (hb4.mono (by show _ ≤ w2.heap.size; omega))))⟩
end Go.Proofs.Ytlfjhechploioaa
