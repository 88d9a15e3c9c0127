/-
  DERIVED. The contract of the laws' awake.
-/
import Derived.Test.YtlfjhechploioaaN
namespace Go.Proofs.Ytlfjhechploioaa
open Go.RowKit

def awS : ByteArray := ⟨#[99, 111, 114, 101, 115, 32, 50, 59, 35, 32, 120]⟩
def awL : List Tok := [⟨1, ⟨#[99, 111, 114, 101, 115]⟩, 0, 0⟩, ⟨2, ⟨#[50]⟩, 2, 6⟩, ⟨3, ⟨#[59]⟩, 0, 7⟩]
theorem aw_toks : toksOf awS = (awL, 0, 0) := by kernel_rfl
theorem aw_print : printOf awL = (⟨#[99, 111, 114, 101, 115, 32, 50, 32, 59]⟩, 0) := by kernel_rfl

theorem aw_cells {w : World} {B : Nat} {v : Value} (h : TokSl w B v awL) : ∃ b o c, v = .slice (some ⟨b, o, none⟩) 3 c ∧ 3 ≤ c ∧ c ≤ maxLen ∧
    w.cell? ⟨b, o, none⟩ = some (.int .u8 1) ∧ w.cell? ⟨b, o + 1, none⟩ = some (.string ⟨#[99, 111, 114, 101, 115]⟩) ∧ w.cell? ⟨b, o + 2, none⟩ = some (.int .i64 0) ∧ w.cell? ⟨b, o + 3, none⟩ = some (.int .i64 0) ∧
    w.cell? ⟨b, o + 4, none⟩ = some (.int .u8 2) ∧ w.cell? ⟨b, o + 5, none⟩ = some (.string ⟨#[50]⟩) ∧ w.cell? ⟨b, o + 6, none⟩ = some (.int .i64 2) ∧ w.cell? ⟨b, o + 7, none⟩ = some (.int .i64 6) ∧
    w.cell? ⟨b, o + 11, none⟩ = some (.int .i64 7) := by
  obtain ⟨A, c, rfl, h2, h3, h4⟩ := h
  obtain ⟨b, o, rfl, _, hc⟩ := h4 (by decide)
  exact ⟨b, o, c, rfl, h2, h3, hc 0 _ rfl, hc 1 _ rfl, hc 2 _ rfl, hc 3 _ rfl, hc 4 _ rfl, hc 5 _ rfl, hc 6 _ rfl, hc 7 _ rfl, hc 11 _ rfl⟩

set_option maxHeartbeats 1000000 in
theorem l_awake (w : World) : Calls Try.prog 13 #[] w fun e w' => e = .returned (.bool true) ∧ Below w.heap.size w w' := by
  have ht := c_Tokens awS (by decide)
  rw [aw_toks] at ht
  have hp := fun v w => c_Print v awL (by decide) (by decide) w
  rw [aw_print] at hp
  unfold awS at ht
  have Ht := Lib.hid ht
  have Hp := Lib.hid hp
  clear ht hp
  go_enter Try.func13, Try.ntmps13
  go_wp2_with (first | (go_at_call 10; refine (Ht.out _).mono ?_; rintro e w1 ⟨v, rfl, hrow, hbl⟩; have hsl := TokSl.of_own hrow; obtain ⟨b, o, c, rfl, hc3, hcm, k0, k1, k2, k3, k4, k5, k6, k7, k11⟩ := aw_cells hsl; unfold maxLen at hcm) | (go_at_call 14; refine (Hp.out _ _ hsl).mono ?_; rintro e w2 ⟨rfl, hbl2⟩))
  go_ret
  exact ⟨rfl, hbl.trans (hbl2.mono hbl.size)⟩
end Go.Proofs.Ytlfjhechploioaa
