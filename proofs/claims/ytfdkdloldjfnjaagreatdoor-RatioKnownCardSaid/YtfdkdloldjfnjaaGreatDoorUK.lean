/-
  DERIVED. The reference's Quotient.
-/
import Derived.Test.YtfdkdloldjfnjaaGreatDoorYUIm
set_option linter.unusedVariables false
set_option linter.unusedSimpArgs false
namespace Go.Proofs.YtfdkdloldjfnjaaGreatDoor
open Go.RowKit
set_option maxRecDepth 100000

theorem q_meas (j : Nat) : (intOf (.int .i64 ((j : Int) - 1)) + 1).toNat < (intOf (.int .i64 (((j + 1 : Nat) : Int) - 1)) + 1).toNat := by
  simp only [intOf]
  omega
theorem dbl1 (q : Nat) : (2 * q + if true = true then 1 else 0) = 2 * q + 1 := rfl
theorem dbl0 (q : Nat) : (2 * q + if false = true then 1 else 0) = 2 * q + 0 := rfl
theorem dbl (n i : Nat) : (2 * (n * 2 ^ i) + if false = true then 1 else 0) = n * 2 ^ (i + 1) := by
  rw [if_neg (by decide), Nat.add_zero, Nat.pow_succ, Nat.mul_comm 2 (n * 2 ^ i), Nat.mul_assoc]
set_option maxHeartbeats 4000000 in
theorem c_eQuotient (m n : Nat) (h0 : 0 < n) (hm : (nat m).length ≤ 80000) (hn : (nat n).length ≤ 80000) (va vb : Value) (w : World) (ha : Ls w va (nat m)) (hb : Ls w vb (nat n)) :
    Calls Tryz.prog 76 #[va, vb] w (QuoPost m n w) := by
  obtain ⟨A0, ca, rfl⟩ := ha.1.shape
  obtain ⟨B0, cb, rfl⟩ := hb.1.shape
  have HA := Lib.hid ha
  have HB := Lib.hid hb
  have HM := Lib.hid (c_eBits m (by omega) _ _ w ha.1)
  have HN := Lib.hid (c_eBits n (by omega) _ _ w hb.1)
  clear ha hb
  go_enter Tryz.func76, Tryz.ntmps76
  go_wp2_with (fail)
  go_at_call 107
  refine HM.out.mono ?_
  rintro e w1 ⟨rm, rfl, hrm, hrm2, rfl⟩
  go_wp2_with (fail)
  go_at_call 107
  refine HN.out.mono ?_
  rintro e w1 ⟨rn, rfl, hrn, hrn2, rfl⟩
  have HRM := Lib.hid hrm
  have HRN := Lib.hid hrn
  clear hrm hrn HM HN
  by_cases hS : rm < rn
  · have hmn : m < n := by
      obtain ⟨k1, k2⟩ := HRN.out.2.1 h0
      exact Nat.lt_of_lt_of_le HRM.out.1 (Nat.le_trans (Nat.pow_le_pow_right (by omega) (by omega)) k2)
    have hS1 : ¬ (0 : Int) < (rm : Int) - (rn : Int) := by omega
    have hS2 : ¬ (0 : Int) ≤ (rm : Int) - (rn : Int) := by omega
    have HR := Lib.hid (show QuoPost m n w (.returned (.tuple #[.slice none 0 0, .slice A0 (nat m).length ca])) w from ⟨_, _, rfl, by rw [Nat.div_eq_of_lt hmn, nat_zero]; exact ⟨NatSl.nil _ _, lb_nil⟩, by rw [Nat.mod_eq_of_lt hmn]; exact HA.out, Below.refl _ _⟩)
    clear hmn
    go_wp2_with (fail)
    go_loopw [1, 8] (fun b i wr => b = .slice B0 (nat n).length cb ∧ i = .int .i64 0 ∧ w = wr) (fun _ _ _ => 0)
    case atStart => exact ⟨rfl, rfl, rfl⟩
    case round =>
      obtain ⟨rfl, rfl, rfl⟩ := hrel
      go_wp2_with (fail)
      go_loopw [0, 1, 6, 9] (fun a b q i wr => a = .slice A0 (nat m).length ca ∧ b = .slice B0 (nat n).length cb ∧ q = .slice none 0 0 ∧ i = .int .i64 ((rm : Int) - (rn : Int)) ∧ w = wr) (fun _ _ _ _ _ => 0)
      case atStart => exact ⟨rfl, rfl, rfl, rfl, rfl⟩
      case round =>
        obtain ⟨rfl, rfl, rfl, rfl, rfl⟩ := hrel
        go_wp2_with (fail)
        go_ret2
        exact HR.out
  · obtain ⟨S, hSS⟩ : ∃ S, rn + S = rm := ⟨rm - rn, by omega⟩
    have hsub : (rm : Int) - (rn : Int) = (S : Int) := by omega
    have HSS := Lib.hid hSS
    have HLEN := Lib.hid (fun i (hi : i ≤ S) => q_lens HRM.out HRN.out h0 hSS hi hm)
    have hSb : S ≤ 3200000 := by omega
    clear hSS hS HRM HRN
    go_wp2_with (fail)
    try rw [hsub]
    clear hsub
    go_loopw [1, 8] (fun b i wr => QRel1 w n S b i wr) (fun _ i _ => S - (intOf i).toNat)
    case atStart => exact ⟨0, Nat.zero_le _, rfl, by rw [Nat.pow_zero, Nat.mul_one]; exact HB.out, Below.refl _ _⟩
    case round =>
      obtain ⟨i, hi, rfl, hbi, hnx⟩ := hrel
      obtain ⟨B1, c1, rfl⟩ := hbi.1.shape
      have hl1 := (HLEN.out i hi).1
      have HBI := Lib.hid hbi
      have HN := Lib.hid hnx
      have hsz := hnx.size
      clear hbi hnx
      by_cases his : i < S
      · have HD := Lib.hid (c_eDouble (n * 2 ^ i) false (by omega) _ wr HBI.out)
        go_wp2_with (fail)
        go_at_call 108
        refine HD.out.mono ?_
        rintro e w2 h2
        obtain ⟨v2, rfl, h2, b2⟩ := h2.ls
        have H2 := Lib.hid h2
        have B2 := Lib.hid b2
        clear h2 b2
        go_wp2_with (fail)
        go_roundw
        case rel => exact ⟨i + 1, by omega, by go_num, (by have h := H2.out; rw [dbl] at h; exact h), HN.out.trans (B2.out.mono hsz)⟩
        case measure => simp [intOf]; omega
      · obtain rfl : i = S := by omega
        go_wp2_with (fail)
        go_loopw [0, 1, 6, 9] (fun a b q iv wr => QRel2 w m n i a b q iv wr) (fun _ _ _ iv _ => (intOf iv + 1).toNat)
        case atStart => exact ⟨i + 1, m, 0, Nat.le_refl _, by go_num, HA.out.on HN.out, (by rw [Nat.pow_succ, ← Nat.mul_assoc, Nat.mul_div_cancel _ (by omega)]; exact HBI.out), (by rw [nat_zero]; exact ⟨NatSl.nil _ _, lb_nil⟩), (HLEN.out i (Nat.le_refl _)).2, by simp, HN.out⟩
        case round =>
          obtain ⟨j, A, Q, hj, rfl, ha, hb, hq, hlt, hmq, hnx⟩ := hrel
          obtain ⟨A2, c2, rfl⟩ := ha.1.shape
          obtain ⟨A3, c3, rfl⟩ := hb.1.shape
          obtain ⟨A4, c4, rfl⟩ := hq.1.shape
          have hAm : A ≤ m := by omega
          have hlA := len_le_of_le hAm hm
          cases j with
          | zero =>
            rw [Nat.pow_zero, Nat.mul_one] at hlt hmq
            have e1 : m / n = Q := by
              rw [hmq, Nat.mul_comm, Nat.mul_add_div h0, Nat.div_eq_of_lt hlt, Nat.add_zero]
            have e2 : m % n = A := by
              rw [hmq, Nat.mul_comm, Nat.mul_add_mod, Nat.mod_eq_of_lt hlt]
            have HR := Lib.hid (show QuoPost m n w (.returned (.tuple #[.slice A4 (nat Q).length c4, .slice A2 (nat A).length c2])) wr from ⟨_, _, rfl, by rw [e1]; exact hq, by rw [e2]; exact ha, hnx⟩)
            clear ha hb hq hlt hmq hnx e1 e2
            go_wp2_with (fail)
            go_ret2
            exact HR.out
          | succ j =>
            have hQm : Q ≤ m := by
              have hp : 1 ≤ n * 2 ^ (j + 1) := Nat.mul_pos h0 (Nat.pow_pos (by omega))
              have := Nat.mul_le_mul_left Q hp
              omega
            have hlQ := len_le_of_le hQm hm
            obtain ⟨B, hB⟩ : ∃ B, n * 2 ^ (j + 1) / 2 = B := ⟨_, rfl⟩
            obtain ⟨s1, s2, s3, s4⟩ := q_step hB hlt hmq
            have hlB : (nat B).length ≤ 80001 := by rw [← s1]; exact (HLEN.out j (by omega)).1
            rw [hB] at hb
            have HBV := Lib.hid hb
            have HAV := Lib.hid ha
            have HQV := Lib.hid hq
            have HNX := Lib.hid hnx
            have hsz2 := hnx.size
            have HC := Lib.hid (c_eCmpN A B _ _ wr ha hb)
            have HB2 := Lib.hid s2
            rw [hB]
            clear ha hb hq hnx hlt hmq hB
            by_cases hAB : B ≤ A
            · have hz : 0 ≤ cmpI A B := by unfold cmpI; split <;> (try split) <;> omega
              generalize cmpI A B = z at *
              have H3 := Lib.hid (s3 hAB)
              clear s3 s4 s1 s2
              go_wp2_with (fail)
              go_at_call 99
              refine HC.out.mono ?_
              rintro e w3 ⟨rfl, d3, rfl⟩
              have HD := Lib.hid (c_eDiffN A B (by omega) hAB _ _ (wr.drewN d3) (HAV.out.on (below_draws ⟨_, rfl⟩)) (HBV.out.on (below_draws ⟨_, rfl⟩)))
              go_wp2_with (fail)
              go_at_call 103
              refine HD.out.mono ?_
              rintro e w4 h4
              obtain ⟨v4, rfl, h4, b4⟩ := h4.ls
              obtain ⟨A5, c5, rfl⟩ := h4.1.shape
              have b4' : Below wr.heap.size wr w4 := (below_draws (w := wr) ⟨d3, rfl⟩).trans b4
              have HA4 := Lib.hid h4
              have hq4 := HQV.out.on b4'
              have hb4 := HBV.out.on b4'
              have HQ4 := Lib.hid hq4
              have HB4 := Lib.hid hb4
              have HN4 := Lib.hid (below_join HNX.out b4' hsz2)
              have HD2 := Lib.hid (c_eDouble Q true (by omega) _ w4 hq4)
              clear h4 b4 b4' hq4 hb4
              go_wp2_with (fail)
              go_at_call 108
              refine HD2.out.mono ?_
              rintro e w5 h5
              obtain ⟨v5, rfl, h5, b5⟩ := h5.ls
              have HQ5 := Lib.hid h5
              have HA5 := Lib.hid (HA4.out.on b5)
              have hb5 := HB4.out.on b5
              have HN5 := Lib.hid (below_join HN4.out b5 HN4.out.size)
              have HD3 := Lib.hid (c_eHalf B (by omega) _ w5 hb5)
              clear h5 b5 hb5
              go_wp2_with (fail)
              go_at_call 109
              refine HD3.out.mono ?_
              rintro e w6 h6
              obtain ⟨v6, rfl, h6, b6⟩ := h6.ls
              have HB6 := Lib.hid h6
              have HQ6 := Lib.hid (HQ5.out.on b6)
              have HA6 := Lib.hid (HA5.out.on b6)
              have HN6 := Lib.hid (below_join HN5.out b6 HN5.out.size)
              clear h6 b6
              go_wp2_with (fail)
              go_roundw
              case rel => exact ⟨j, A - B, 2 * Q + 1, by omega, by go_num, HA6.out, (by rw [← HB2.out]; exact HB6.out), (by have h := HQ6.out; simp only [if_true] at h; exact h), H3.out.1, H3.out.2, HN6.out⟩
              case measure => exact q_meas j
            · have hz : decide (0 ≤ cmpI A B) = false := by rw [decide_eq_false_iff_not]; unfold cmpI; split <;> (try split) <;> omega
              generalize cmpI A B = z at *
              have H3 := Lib.hid (s4 (by omega))
              clear s3 s4 s1 s2
              go_wp2_with (fail)
              go_at_call 99
              refine HC.out.mono ?_
              rintro e w3 ⟨rfl, d3, rfl⟩
              have HD2 := Lib.hid (c_eDouble Q false (by omega) _ (wr.drewN d3) (HQV.out.on (below_draws ⟨_, rfl⟩)))
              go_wp2_with (fail)
              go_at_call 108
              refine HD2.out.mono ?_
              rintro e w5 h5
              obtain ⟨v5, rfl, h5, b5⟩ := h5.ls
              have b5' : Below wr.heap.size wr w5 := (below_draws (w := wr) ⟨d3, rfl⟩).trans b5
              have HQ5 := Lib.hid h5
              have HA5 := Lib.hid (HAV.out.on b5')
              have hb5 := HBV.out.on b5'
              have HN5 := Lib.hid (below_join HNX.out b5' hsz2)
              have HD3 := Lib.hid (c_eHalf B (by omega) _ w5 hb5)
              clear h5 b5 b5' hb5
              go_wp2_with (fail)
              go_at_call 109
              refine HD3.out.mono ?_
              rintro e w6 h6
              obtain ⟨v6, rfl, h6, b6⟩ := h6.ls
              have HB6 := Lib.hid h6
              have HQ6 := Lib.hid (HQ5.out.on b6)
              have HA6 := Lib.hid (HA5.out.on b6)
              have HN6 := Lib.hid (below_join HN5.out b6 HN5.out.size)
              clear h6 b6
              go_wp2_with (fail)
              go_roundw
              case rel => exact ⟨j, A, 2 * Q + 0, by omega, by go_num, HA6.out, (by rw [← HB2.out]; exact HB6.out), (by have h := HQ6.out; simp only [if_false, Bool.false_eq_true] at h; exact h), H3.out.1, H3.out.2, HN6.out⟩
              case measure => exact q_meas j
end Go.Proofs.YtfdkdloldjfnjaaGreatDoor
