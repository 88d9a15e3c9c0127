/-
  DERIVED. The contracts of the reference's leaves: blank, letter, digit, nameEnd, numberEnd, Value, skip.
-/
import Derived.Test.YtlfjhechploioaaD
namespace Go.Proofs.Ytlfjhechploioaa
open Go.RowKit

theorem r_blank (c : UInt8) (w : World) :
    Calls Try.prog 27 #[.int .u8 c.toNat] w fun e w' => e = .returned (.bool (isBl c)) ∧ w' = w := by
  go_enter Try.func27, Try.ntmps27
  go_wp2
  all_goals go_ret
  all_goals refine ⟨ret_bool ?_, rfl⟩
  all_goals (unfold isBl; rw [Bool.eq_iff_iff]; simp; try omega)

theorem r_letter (c : UInt8) (w : World) :
    Calls Try.prog 28 #[.int .u8 c.toNat] w fun e w' => e = .returned (.bool (isLe c)) ∧ w' = w := by
  go_enter Try.func28, Try.ntmps28
  go_wp2
  all_goals go_ret
  all_goals exact ⟨ret_bool (by unfold isLe; rw [Bool.eq_iff_iff]; simp; omega), rfl⟩

theorem r_digit (c : UInt8) (w : World) :
    Calls Try.prog 30 #[.int .u8 c.toNat] w fun e w' => e = .returned (.bool (isDi c)) ∧ w' = w := by
  go_enter Try.func30, Try.ntmps30
  go_wp2
  all_goals go_ret
  all_goals exact ⟨ret_bool (by unfold isDi; rw [Bool.eq_iff_iff]; simp; omega), rfl⟩

set_option maxHeartbeats 400000 in
theorem r_numberEnd (s : ByteArray) (hs : s.size ≤ maxLen) (a : Nat) (ha : a ≤ s.size) (w : World) :
    Calls Try.prog 31 #[.string s, .int .i64 a] w fun e w' => e = .returned (.int .i64 ((a : Int) + (fr isDi ((bt s).drop a) : Int))) ∧ w' = w := by
  unfold maxLen at hs
  go_enter Try.func31, Try.ntmps31
  go_wp2
  go_loop [1] (fun i => ∃ k : Nat, k ≤ s.size ∧ i = .int .i64 k ∧ a + fr isDi ((bt s).drop a) = k + fr isDi ((bt s).drop k)) (fun i => s.size - (intOf i).toNat)
  case atStart => exact ⟨a, ha, rfl, rfl⟩
  case round =>
    obtain ⟨k, hk, rfl, hf⟩ := hrel
    have Hf := Lib.hid hf
    clear hf
    by_cases hlt : k < s.size
    · cases hp : isDi s[k]
      · have Hp := Lib.hid hp
        clear hp
        go_wp2_with (first | (go_at_call 30; refine (r_digit _ _).mono ?_; rintro e w' ⟨rfl, rfl⟩; rw [Hp.out]))
        go_ret
        have h1 := Hf.out
        have h2 := fr_no isDi s k hlt Hp.out
        exact ⟨ret_int (by omega), rfl⟩
      · have Hp := Lib.hid hp
        clear hp
        go_wp2_with (first | (go_at_call 30; refine (r_digit _ _).mono ?_; rintro e w' ⟨rfl, rfl⟩; rw [Hp.out]))
        go_round
        case rel => exact ⟨k + 1, by omega, by go_num, by rw [Hf.out, fr_yes isDi s k hlt Hp.out]; omega⟩
        case measure => simp [intOf]; omega
    · go_wp2
      go_ret
      have h1 := Hf.out
      have h2 := fr_end isDi s k (by omega)
      exact ⟨ret_int (by omega), rfl⟩

set_option maxHeartbeats 400000 in
theorem r_nameEnd (s : ByteArray) (hs : s.size ≤ maxLen) (a : Nat) (ha : a ≤ s.size) (w : World) :
    Calls Try.prog 29 #[.string s, .int .i64 a] w fun e w' => e = .returned (.int .i64 ((a : Int) + (fr inNa ((bt s).drop a) : Int))) ∧ w' = w := by
  unfold maxLen at hs
  go_enter Try.func29, Try.ntmps29
  go_wp2
  go_loop [1] (fun i => ∃ k : Nat, k ≤ s.size ∧ i = .int .i64 k ∧ a + fr inNa ((bt s).drop a) = k + fr inNa ((bt s).drop k)) (fun i => s.size - (intOf i).toNat)
  case atStart => exact ⟨a, ha, rfl, rfl⟩
  case round =>
    obtain ⟨k, hk, rfl, hf⟩ := hrel
    have Hf := Lib.hid hf
    clear hf
    by_cases hlt : k < s.size
    · cases hp : isLe s[k]
      · cases hq : isDi s[k]
        · by_cases h45 : s[k].toNat = 45
          · have Hin := Lib.hid (show inNa s[k] = true by simp [inNa, h45])
            have hb : ((s[k].toNat : Int) == 45) = true := by rw [beq_iff_eq]; omega
            have Hp := Lib.hid hp
            have Hq := Lib.hid hq
            clear hp hq h45
            go_wp2_with (first | (go_at_call 28; refine (r_letter _ _).mono ?_; rintro e w' ⟨rfl, rfl⟩; rw [Hp.out]) | (go_at_call 30; refine (r_digit _ _).mono ?_; rintro e w' ⟨rfl, rfl⟩; rw [Hq.out]))
            go_round
            case rel => exact ⟨k + 1, by omega, by go_num, by rw [Hf.out, fr_yes inNa s k hlt Hin.out]; omega⟩
            case measure => simp [intOf]; omega
          · have Hin := Lib.hid (show inNa s[k] = false by simp [inNa, h45, hp, hq])
            have hb : ((s[k].toNat : Int) == 45) = false := by rw [beq_eq_false_iff_ne]; omega
            have Hp := Lib.hid hp
            have Hq := Lib.hid hq
            clear hp hq h45
            go_wp2_with (first | (go_at_call 28; refine (r_letter _ _).mono ?_; rintro e w' ⟨rfl, rfl⟩; rw [Hp.out]) | (go_at_call 30; refine (r_digit _ _).mono ?_; rintro e w' ⟨rfl, rfl⟩; rw [Hq.out]))
            go_ret
            have h1 := Hf.out
            have h2 := fr_no inNa s k hlt Hin.out
            exact ⟨ret_int (by omega), rfl⟩
        · have Hin := Lib.hid (show inNa s[k] = true by simp [inNa, hq])
          have Hp := Lib.hid hp
          have Hq := Lib.hid hq
          clear hp hq
          go_wp2_with (first | (go_at_call 28; refine (r_letter _ _).mono ?_; rintro e w' ⟨rfl, rfl⟩; rw [Hp.out]) | (go_at_call 30; refine (r_digit _ _).mono ?_; rintro e w' ⟨rfl, rfl⟩; rw [Hq.out]))
          go_round
          case rel => exact ⟨k + 1, by omega, by go_num, by rw [Hf.out, fr_yes inNa s k hlt Hin.out]; omega⟩
          case measure => simp [intOf]; omega
      · have Hin := Lib.hid (show inNa s[k] = true by simp [inNa, hp])
        have Hp := Lib.hid hp
        clear hp
        go_wp2_with (first | (go_at_call 28; refine (r_letter _ _).mono ?_; rintro e w' ⟨rfl, rfl⟩; rw [Hp.out]))
        go_round
        case rel => exact ⟨k + 1, by omega, by go_num, by rw [Hf.out, fr_yes inNa s k hlt Hin.out]; omega⟩
        case measure => simp [intOf]; omega
    · go_wp2
      go_ret
      have h1 := Hf.out
      have h2 := fr_end inNa s k (by omega)
      exact ⟨ret_int (by omega), rfl⟩

set_option maxHeartbeats 400000 in
theorem r_Value (s : ByteArray) (h9 : s.size ≤ 9) (hd : ∀ c ∈ bt s, isDi c = true) (w : World) :
    Calls Try.prog 32 #[.string s] w fun e w' => e = .returned (.int .i64 (nv (bt s) : Nat)) ∧ w' = w := by
  have Hd := Lib.hid hd
  clear hd
  go_enter Try.func32, Try.ntmps32
  go_wp2
  go_loop [3, 4] (fun n i => ∃ k : Nat, k ≤ s.size ∧ i = .int .i64 k ∧ n = .int .i64 (nv ((bt s).take k) : Nat)) (fun _ i => s.size - (intOf i).toNat)
  case atStart => exact ⟨0, Nat.zero_le _, rfl, rfl⟩
  case round =>
    obtain ⟨k, hk, rfl, rfl⟩ := hrel
    by_cases hlt : k < s.size
    · have hm2 : nv ((bt s).take k) < 1000000000 := by
        refine Nat.lt_of_lt_of_le (nv_lt _ (fun c hc => Hd.out c (List.mem_of_mem_take hc))) (Nat.pow_le_pow_right (by omega) (?_ : _ ≤ 9))
        rw [List.length_take]; omega
      have hdi := Hd.out s[k] (by have := bt_drop s k hlt; exact List.mem_of_mem_drop (this ▸ List.mem_cons_self))
      simp only [isDi, Bool.and_eq_true, decide_eq_true_eq] at hdi
      obtain ⟨hd1, hd2⟩ := hdi
      have hts : nv ((bt s).take (k + 1)) = 10 * nv ((bt s).take k) + (s[k].toNat - 48) := by rw [take_snoc s k hlt, nv_snoc]
      have Hts := Lib.hid hts
      clear hts
      go_wp2
      go_round
      case rel => exact ⟨k + 1, by omega, by go_num, by rw [Hts.out]; congr 1; omega⟩
      case measure => simp [intOf]; omega
    · go_wp2
      go_ret
      have hk2 : (bt s).take k = bt s := List.take_of_length_le (by rw [bt_len]; omega)
      exact ⟨ret_int (by rw [hk2]), rfl⟩

set_option maxHeartbeats 400000 in
theorem r_skip (s : ByteArray) (hs : s.size ≤ maxLen) (a : Nat) (ha : a ≤ s.size) (w : World) :
    Calls Try.prog 19 #[.string s, .int .i64 a] w fun e w' => e = .returned (.int .i64 ((a : Int) + (sk false ((bt s).drop a) : Int))) ∧ w' = w := by
  unfold maxLen at hs
  go_enter Try.func19, Try.ntmps19
  go_wp2
  go_loop [1] (fun i => ∃ k : Nat, k ≤ s.size ∧ i = .int .i64 k ∧ a + sk false ((bt s).drop a) = k + sk false ((bt s).drop k)) (fun i => s.size - (intOf i).toNat)
  case atStart => exact ⟨a, ha, rfl, rfl⟩
  case round =>
    obtain ⟨k, hk, rfl, hf⟩ := hrel
    have Hf := Lib.hid hf
    clear hf
    by_cases hlt : k < s.size
    · cases hp : isBl s[k]
      · by_cases hq : s[k].toNat = 35
        · have hb : ((s[k].toNat : Int) == 35) = true := by rw [beq_iff_eq]; omega
          have hb2 : ((s[k].toNat : Int) != 35) = false := by rw [bne_eq_false_iff_eq]; omega
          have hr := sk_remark s k hlt hp hq
          have hr0 := hr.1
          have Hr := Lib.hid hr.2
          have Hp := Lib.hid hp
          clear hr hq hp
          go_wp2_with (first | (go_at_call 27; refine (r_blank _ _).mono ?_; rintro e w' ⟨rfl, rfl⟩; rw [Hp.out]))
          go_loop [1] (fun i => ∃ j : Nat, k ≤ j ∧ j ≤ s.size ∧ i = .int .i64 j ∧ k + fr inRe ((bt s).drop k) = j + fr inRe ((bt s).drop j)) (fun i => s.size - (intOf i).toNat)
          case atStart => exact ⟨k, by omega, hk, rfl, rfl⟩
          case round =>
            obtain ⟨j, hj1, hj2, rfl, hg⟩ := hrel
            have Hg := Lib.hid hg
            clear hg
            by_cases hjl : j < s.size
            · by_cases hn : s[j].toNat = 10
              · have hbn : ((s[j].toNat : Int) != 10) = false := by rw [bne_eq_false_iff_eq]; omega
                have h0 := fr_no inRe s j hjl (by simp [inRe, hn])
                have H0 := Lib.hid h0
                clear h0 hn
                go_wp2
                have h1 := Hg.out
                have h2 := H0.out
                have h3 : k + fr inRe ((bt s).drop k) = j := by omega
                have h4 := Hr.out
                rw [h3] at h4
                have h5 := Hf.out
                first | exact ⟨⟨j, by omega, by go_num, by omega⟩, by simp [intOf]; omega⟩ | (go_round; case rel => exact ⟨j, by omega, by go_num, by omega⟩; case measure => simp [intOf]; omega)
              · have hbn : ((s[j].toNat : Int) != 10) = true := by rw [bne_iff_ne]; omega
                have h0 := fr_yes inRe s j hjl (by simp [inRe, hn])
                have H0 := Lib.hid h0
                clear h0 hn
                go_wp2
                go_round
                case rel => exact ⟨j + 1, by omega, by omega, by go_num, by rw [Hg.out, H0.out]; omega⟩
                case measure => simp [intOf]; omega
            · have h0 := fr_end inRe s j (by omega)
              have H0 := Lib.hid h0
              clear h0
              go_wp2
              have h1 := Hg.out
              have h2 := H0.out
              have h3 : k + fr inRe ((bt s).drop k) = j := by omega
              have h4 := Hr.out
              rw [h3] at h4
              have h5 := Hf.out
              first | exact ⟨⟨j, by omega, by go_num, by omega⟩, by simp [intOf]; omega⟩ | (go_round; case rel => exact ⟨j, by omega, by go_num, by omega⟩; case measure => simp [intOf]; omega)
        · have hb : ((s[k].toNat : Int) == 35) = false := by rw [beq_eq_false_iff_ne]; omega
          have Hq := Lib.hid (sk_stop s k hlt hp hq)
          have Hp := Lib.hid hp
          clear hq hp
          go_wp2_with (first | (go_at_call 27; refine (r_blank _ _).mono ?_; rintro e w' ⟨rfl, rfl⟩; rw [Hp.out]))
          go_ret
          have h1 := Hf.out
          have h2 := Hq.out
          exact ⟨ret_int (by omega), rfl⟩
      · have hq : s[k].toNat ≠ 35 := by intro h; simp [isBl, h] at hp
        have hb : ((s[k].toNat : Int) == 35) = false := by rw [beq_eq_false_iff_ne]; omega
        have hb2 : ((s[k].toNat : Int) != 35) = true := by rw [bne_iff_ne]; omega
        have Hp := Lib.hid hp
        clear hp hq
        go_wp2_with (first | (go_at_call 27; refine (r_blank _ _).mono ?_; rintro e w' ⟨rfl, rfl⟩; rw [Hp.out]))
        go_round
        case rel => exact ⟨k + 1, by omega, by go_num, by rw [Hf.out, sk_blank s k hlt Hp.out]; omega⟩
        case measure => simp [intOf]; omega
    · go_wp2
      go_ret
      have h1 := Hf.out
      have h2 := sk_end s k (by omega)
      exact ⟨ret_int (by omega), rfl⟩
end Go.Proofs.Ytlfjhechploioaa
