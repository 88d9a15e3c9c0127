/-
  DERIVED. The reference's Gcd, Made, Of; the law's small.
-/
import Derived.Test.YtfdkdloldjfnjaaGreatDoorUK
import Derived.Test.YtfdkdloldjfnjaaGreatDoorYRJm
set_option linter.unusedVariables false
set_option linter.unusedSimpArgs false
namespace Go.Proofs.YtfdkdloldjfnjaaGreatDoor
open Go.RowKit
set_option maxRecDepth 100000

def EPost (n : Nat) (w : World) (e : Ending) (w' : World) : Prop := ∃ v, e = .returned v ∧ Ls w' v (nat n) ∧ Below w.heap.size w w'
def GRel (w : World) (m n : Nat) (a b : Value) (wr : World) : Prop :=
  ∃ A B : Nat, Ls wr a (nat A) ∧ Ls wr b (nat B) ∧ (nat A).length ≤ 80000 ∧ (nat B).length ≤ 80000 ∧ Nat.gcd A B = Nat.gcd m n ∧ Below w.heap.size w wr
set_option maxHeartbeats 4000000 in
theorem c_eGcd (m n : Nat) (hm : (nat m).length ≤ 80000) (hn : (nat n).length ≤ 80000) (va vb : Value) (w : World) (ha : Ls w va (nat m)) (hb : Ls w vb (nat n)) :
    Calls Tryz.prog 60 #[va, vb] w (EPost (Nat.gcd m n) w) := by
  obtain ⟨A0, ca, rfl⟩ := ha.1.shape
  obtain ⟨B0, cb, rfl⟩ := hb.1.shape
  have HA := Lib.hid ha
  have HB := Lib.hid hb
  clear ha hb
  go_enter Tryz.func60, Tryz.ntmps60
  go_wp2_with (fail)
  go_loopw [0, 1] (fun a b wr => GRel w m n a b wr) (fun _ b wr => slVal wr b)
  case atStart => exact ⟨m, n, HA.out, HB.out, hm, hn, rfl, Below.refl _ _⟩
  case round =>
    obtain ⟨A, B, ha, hb, hlA, hlB, hg, hnx⟩ := hrel
    obtain ⟨A1, c1, rfl⟩ := ha.1.shape
    obtain ⟨B1, c2, rfl⟩ := hb.1.shape
    have HG := Lib.hid hg
    have HN := Lib.hid hnx
    have hsz := hnx.size
    by_cases h0 : 0 < B
    · have hl0 : (0 : Int) < ((nat B).length : Nat) := Int.natCast_pos.2 (nat_len_pos.2 h0)
      have HQ := Lib.hid (c_eQuotient A B h0 hlA hlB _ _ wr ha hb)
      have HBB := Lib.hid hb
      have HSB := Lib.hid (slVal_fs hb.1)
      clear ha hb hg hnx
      go_wp2_with (fail)
      go_at_call 76
      refine HQ.out.mono ?_
      rintro e w2 ⟨q, r, rfl, hq, hr, b2⟩
      obtain ⟨A3, c3, rfl⟩ := hr.1.shape
      have HR := Lib.hid hr
      have HB2 := Lib.hid (HBB.out.on b2)
      have HN2 := Lib.hid (below_join HN.out b2 hsz)
      have HSR := Lib.hid (slVal_fs hr.1)
      have hlt := Nat.mod_lt A h0
      have HLT := Lib.hid hlt
      have HLR := Lib.hid (len_le_of_le (Nat.le_of_lt hlt) hlB)
      clear hq hr b2 hlt
      go_wp2_with (fail)
      go_roundw
      case rel => exact ⟨B, A % B, HB2.out, HR.out, hlB, HLR.out, (by rw [← HG.out, Nat.gcd_comm A B, Nat.gcd_rec B A, Nat.gcd_comm]), HN2.out⟩
      case measure => rw [HSR.out, HSB.out]; exact HLT.out
    · obtain rfl : B = 0 := by omega
      have hl0 : ¬ (0 : Int) < ((nat 0).length : Nat) := by rw [nat_zero]; simp
      have HR := Lib.hid (show EPost (Nat.gcd m n) w (.returned (.slice A1 (nat A).length c1)) wr from ⟨_, rfl, by rw [← hg, Nat.gcd_zero_right]; exact ha, hnx⟩)
      clear ha hb hg hnx
      go_wp2_with (fail)
      go_ret
      exact HR.out
theorem len_nat_pos {n : Nat} : (0 : Int) < ((nat n).length : Nat) ↔ 0 < n := by rw [Int.natCast_pos]; exact nat_len_pos
end Go.Proofs.YtfdkdloldjfnjaaGreatDoor
