/-
  DERIVED. Several texts in one.
-/
import Derived.Test.YtfpcdgmdangmaaaGreatDoorYAm
import Derived.Deep.RegionWith
import Derived.Test.YtfpcdgmdangmaaaGreatDoorYFm
import Derived.Test.YtfpcdgmdangmaaaGreatDoorYMm
import Derived.Test.YtfpcdgmdangmaaaGreatDoorYKm
set_option linter.unusedVariables false
set_option linter.unusedSimpArgs false

/- DERIVED. The contracts of the reference's leaves: blank, letter, digit, nameEnd, numberEnd, Value, skip. -/
namespace Go.Proofs.YtfpcdgmdangmaaaGreatDoor
open Go.RowKit

theorem r_blank (c : UInt8) (w : World) :
    Calls Tryz.prog 66 #[.int .u8 c.toNat] w fun e w' => e = .returned (.bool (isBl c)) ∧ w' = w := by
  go_enter Tryz.func66, Tryz.ntmps66
  go_wp2
  all_goals go_ret
  all_goals refine ⟨ret_bool ?_, rfl⟩
  all_goals (unfold isBl; rw [Bool.eq_iff_iff]; simp; try omega)

theorem r_letter (c : UInt8) (w : World) :
    Calls Tryz.prog 67 #[.int .u8 c.toNat] w fun e w' => e = .returned (.bool (isLe c)) ∧ w' = w := by
  go_enter Tryz.func67, Tryz.ntmps67
  go_wp2
  all_goals go_ret
  all_goals exact ⟨ret_bool (by unfold isLe; rw [Bool.eq_iff_iff]; simp; omega), rfl⟩

theorem r_digit (c : UInt8) (w : World) :
    Calls Tryz.prog 69 #[.int .u8 c.toNat] w fun e w' => e = .returned (.bool (isDi c)) ∧ w' = w := by
  go_enter Tryz.func69, Tryz.ntmps69
  go_wp2
  all_goals go_ret
  all_goals exact ⟨ret_bool (by unfold isDi; rw [Bool.eq_iff_iff]; simp; omega), rfl⟩

set_option maxHeartbeats 400000 in
theorem r_numberEnd (s : ByteArray) (hs : s.size ≤ maxLen) (a : Nat) (ha : a ≤ s.size) (w : World) :
    Calls Tryz.prog 70 #[.string s, .int .i64 a] w fun e w' => e = .returned (.int .i64 ((a : Int) + (fr isDi ((bt s).drop a) : Int))) ∧ w' = w := by
  unfold maxLen at hs
  go_enter Tryz.func70, Tryz.ntmps70
  go_wp2
  go_loop [1] (fun i => ∃ k : Nat, k ≤ s.size ∧ i = .int .i64 k ∧ a + fr isDi ((bt s).drop a) = k + fr isDi ((bt s).drop k)) (fun i => s.size - (intOf i).toNat)
  case atStart => exact ⟨a, ha, rfl, rfl⟩
  case round =>
    obtain ⟨k, hk, rfl, hf⟩ := hrel
    have Hf := Lib.hid hf
    clear hf
    by_cases hlt : k < s.size
    · cases hp : isDi s[k]
      · have Hp := Lib.hid hp
        clear hp
        go_wp2_with (first | (go_at_call 69; refine (r_digit _ _).mono ?_; rintro e w' ⟨rfl, rfl⟩; rw [Hp.out]))
        go_ret
        have h1 := Hf.out
        have h2 := fr_no isDi s k hlt Hp.out
        exact ⟨ret_int (by omega), rfl⟩
      · have Hp := Lib.hid hp
        clear hp
        go_wp2_with (first | (go_at_call 69; refine (r_digit _ _).mono ?_; rintro e w' ⟨rfl, rfl⟩; rw [Hp.out]))
        go_round
        case rel => exact ⟨k + 1, by omega, by go_num, by rw [Hf.out, fr_yes isDi s k hlt Hp.out]; omega⟩
        case measure => simp [intOf]; omega
    · go_wp2
      go_ret
      have h1 := Hf.out
      have h2 := fr_end isDi s k (by omega)
      exact ⟨ret_int (by omega), rfl⟩

set_option maxHeartbeats 400000 in
theorem r_nameEnd (s : ByteArray) (hs : s.size ≤ maxLen) (a : Nat) (ha : a ≤ s.size) (w : World) :
    Calls Tryz.prog 68 #[.string s, .int .i64 a] w fun e w' => e = .returned (.int .i64 ((a : Int) + (fr inNa ((bt s).drop a) : Int))) ∧ w' = w := by
  unfold maxLen at hs
  go_enter Tryz.func68, Tryz.ntmps68
  go_wp2
  go_loop [1] (fun i => ∃ k : Nat, k ≤ s.size ∧ i = .int .i64 k ∧ a + fr inNa ((bt s).drop a) = k + fr inNa ((bt s).drop k)) (fun i => s.size - (intOf i).toNat)
  case atStart => exact ⟨a, ha, rfl, rfl⟩
  case round =>
    obtain ⟨k, hk, rfl, hf⟩ := hrel
    have Hf := Lib.hid hf
    clear hf
    by_cases hlt : k < s.size
    · cases hp : isLe s[k]
      · cases hq : isDi s[k]
        · by_cases h45 : s[k].toNat = 45
          · have Hin := Lib.hid (show inNa s[k] = true by simp [inNa, h45])
            have hb : ((s[k].toNat : Int) == 45) = true := by rw [beq_iff_eq]; omega
            have Hp := Lib.hid hp
            have Hq := Lib.hid hq
            clear hp hq h45
            go_wp2_with (first | (go_at_call 67; refine (r_letter _ _).mono ?_; rintro e w' ⟨rfl, rfl⟩; rw [Hp.out]) | (go_at_call 69; refine (r_digit _ _).mono ?_; rintro e w' ⟨rfl, rfl⟩; rw [Hq.out]))
            go_round
            case rel => exact ⟨k + 1, by omega, by go_num, by rw [Hf.out, fr_yes inNa s k hlt Hin.out]; omega⟩
            case measure => simp [intOf]; omega
          · have Hin := Lib.hid (show inNa s[k] = false by simp [inNa, h45, hp, hq])
            have hb : ((s[k].toNat : Int) == 45) = false := by rw [beq_eq_false_iff_ne]; omega
            have Hp := Lib.hid hp
            have Hq := Lib.hid hq
            clear hp hq h45
            go_wp2_with (first | (go_at_call 67; refine (r_letter _ _).mono ?_; rintro e w' ⟨rfl, rfl⟩; rw [Hp.out]) | (go_at_call 69; refine (r_digit _ _).mono ?_; rintro e w' ⟨rfl, rfl⟩; rw [Hq.out]))
            go_ret
            have h1 := Hf.out
            have h2 := fr_no inNa s k hlt Hin.out
            exact ⟨ret_int (by omega), rfl⟩
        · have Hin := Lib.hid (show inNa s[k] = true by simp [inNa, hq])
          have Hp := Lib.hid hp
          have Hq := Lib.hid hq
          clear hp hq
          go_wp2_with (first | (go_at_call 67; refine (r_letter _ _).mono ?_; rintro e w' ⟨rfl, rfl⟩; rw [Hp.out]) | (go_at_call 69; refine (r_digit _ _).mono ?_; rintro e w' ⟨rfl, rfl⟩; rw [Hq.out]))
          go_round
          case rel => exact ⟨k + 1, by omega, by go_num, by rw [Hf.out, fr_yes inNa s k hlt Hin.out]; omega⟩
          case measure => simp [intOf]; omega
      · have Hin := Lib.hid (show inNa s[k] = true by simp [inNa, hp])
        have Hp := Lib.hid hp
        clear hp
        go_wp2_with (first | (go_at_call 67; refine (r_letter _ _).mono ?_; rintro e w' ⟨rfl, rfl⟩; rw [Hp.out]))
        go_round
        case rel => exact ⟨k + 1, by omega, by go_num, by rw [Hf.out, fr_yes inNa s k hlt Hin.out]; omega⟩
        case measure => simp [intOf]; omega
    · go_wp2
      go_ret
      have h1 := Hf.out
      have h2 := fr_end inNa s k (by omega)
      exact ⟨ret_int (by omega), rfl⟩

set_option maxHeartbeats 400000 in
theorem r_Value (s : ByteArray) (h9 : s.size ≤ 9) (hd : ∀ c ∈ bt s, isDi c = true) (w : World) :
    Calls Tryz.prog 71 #[.string s] w fun e w' => e = .returned (.int .i64 (nv (bt s) : Nat)) ∧ w' = w := by
  have Hd := Lib.hid hd
  clear hd
  go_enter Tryz.func71, Tryz.ntmps71
  go_wp2
  go_loop [3, 4] (fun n i => ∃ k : Nat, k ≤ s.size ∧ i = .int .i64 k ∧ n = .int .i64 (nv ((bt s).take k) : Nat)) (fun _ i => s.size - (intOf i).toNat)
  case atStart => exact ⟨0, Nat.zero_le _, rfl, rfl⟩
  case round =>
    obtain ⟨k, hk, rfl, rfl⟩ := hrel
    by_cases hlt : k < s.size
    · have hm2 : nv ((bt s).take k) < 1000000000 := by
        refine Nat.lt_of_lt_of_le (nv_lt _ (fun c hc => Hd.out c (List.mem_of_mem_take hc))) (Nat.pow_le_pow_right (by omega) (?_ : _ ≤ 9))
        rw [List.length_take]; omega
      have hdi := Hd.out s[k] (by have := bt_drop s k hlt; exact List.mem_of_mem_drop (this ▸ List.mem_cons_self))
      simp only [isDi, Bool.and_eq_true, decide_eq_true_eq] at hdi
      obtain ⟨hd1, hd2⟩ := hdi
      have hts : nv ((bt s).take (k + 1)) = 10 * nv ((bt s).take k) + (s[k].toNat - 48) := by rw [take_snoc s k hlt, nv_snoc]
      have Hts := Lib.hid hts
      clear hts
      go_wp2
      go_round
      case rel => exact ⟨k + 1, by omega, by go_num, by rw [Hts.out]; congr 1; omega⟩
      case measure => simp [intOf]; omega
    · go_wp2
      go_ret
      have hk2 : (bt s).take k = bt s := List.take_of_length_le (by rw [bt_len]; omega)
      exact ⟨ret_int (by rw [hk2]), rfl⟩

set_option maxHeartbeats 400000 in
theorem r_skip (s : ByteArray) (hs : s.size ≤ maxLen) (a : Nat) (ha : a ≤ s.size) (w : World) :
    Calls Tryz.prog 39 #[.string s, .int .i64 a] w fun e w' => e = .returned (.int .i64 ((a : Int) + (sk false ((bt s).drop a) : Int))) ∧ w' = w := by
  unfold maxLen at hs
  go_enter Tryz.func39, Tryz.ntmps39
  go_wp2
  go_loop [1] (fun i => ∃ k : Nat, k ≤ s.size ∧ i = .int .i64 k ∧ a + sk false ((bt s).drop a) = k + sk false ((bt s).drop k)) (fun i => s.size - (intOf i).toNat)
  case atStart => exact ⟨a, ha, rfl, rfl⟩
  case round =>
    obtain ⟨k, hk, rfl, hf⟩ := hrel
    have Hf := Lib.hid hf
    clear hf
    by_cases hlt : k < s.size
    · cases hp : isBl s[k]
      · by_cases hq : s[k].toNat = 35
        · have hb : ((s[k].toNat : Int) == 35) = true := by rw [beq_iff_eq]; omega
          have hb2 : ((s[k].toNat : Int) != 35) = false := by rw [bne_eq_false_iff_eq]; omega
          have hr := sk_remark s k hlt hp hq
          have hr0 := hr.1
          have Hr := Lib.hid hr.2
          have Hp := Lib.hid hp
          clear hr hq hp
          go_wp2_with (first | (go_at_call 66; refine (r_blank _ _).mono ?_; rintro e w' ⟨rfl, rfl⟩; rw [Hp.out]))
          go_loop [1] (fun i => ∃ j : Nat, k ≤ j ∧ j ≤ s.size ∧ i = .int .i64 j ∧ k + fr inRe ((bt s).drop k) = j + fr inRe ((bt s).drop j)) (fun i => s.size - (intOf i).toNat)
          case atStart => exact ⟨k, by omega, hk, rfl, rfl⟩
          case round =>
            obtain ⟨j, hj1, hj2, rfl, hg⟩ := hrel
            have Hg := Lib.hid hg
            clear hg
            by_cases hjl : j < s.size
            · by_cases hn : s[j].toNat = 10
              · have hbn : ((s[j].toNat : Int) != 10) = false := by rw [bne_eq_false_iff_eq]; omega
                have h0 := fr_no inRe s j hjl (by simp [inRe, hn])
                have H0 := Lib.hid h0
                clear h0 hn
                go_wp2
                have h1 := Hg.out
                have h2 := H0.out
                have h3 : k + fr inRe ((bt s).drop k) = j := by omega
                have h4 := Hr.out
                rw [h3] at h4
                have h5 := Hf.out
                first | exact ⟨⟨j, by omega, by go_num, by omega⟩, by simp [intOf]; omega⟩ | (go_round; case rel => exact ⟨j, by omega, by go_num, by omega⟩; case measure => simp [intOf]; omega)
              · have hbn : ((s[j].toNat : Int) != 10) = true := by rw [bne_iff_ne]; omega
                have h0 := fr_yes inRe s j hjl (by simp [inRe, hn])
                have H0 := Lib.hid h0
                clear h0 hn
                go_wp2
                go_round
                case rel => exact ⟨j + 1, by omega, by omega, by go_num, by rw [Hg.out, H0.out]; omega⟩
                case measure => simp [intOf]; omega
            · have h0 := fr_end inRe s j (by omega)
              have H0 := Lib.hid h0
              clear h0
              go_wp2
              have h1 := Hg.out
              have h2 := H0.out
              have h3 : k + fr inRe ((bt s).drop k) = j := by omega
              have h4 := Hr.out
              rw [h3] at h4
              have h5 := Hf.out
              first | exact ⟨⟨j, by omega, by go_num, by omega⟩, by simp [intOf]; omega⟩ | (go_round; case rel => exact ⟨j, by omega, by go_num, by omega⟩; case measure => simp [intOf]; omega)
        · have hb : ((s[k].toNat : Int) == 35) = false := by rw [beq_eq_false_iff_ne]; omega
          have Hq := Lib.hid (sk_stop s k hlt hp hq)
          have Hp := Lib.hid hp
          clear hq hp
          go_wp2_with (first | (go_at_call 66; refine (r_blank _ _).mono ?_; rintro e w' ⟨rfl, rfl⟩; rw [Hp.out]))
          go_ret
          have h1 := Hf.out
          have h2 := Hq.out
          exact ⟨ret_int (by omega), rfl⟩
      · have hq : s[k].toNat ≠ 35 := by intro h; simp [isBl, h] at hp
        have hb : ((s[k].toNat : Int) == 35) = false := by rw [beq_eq_false_iff_ne]; omega
        have hb2 : ((s[k].toNat : Int) != 35) = true := by rw [bne_iff_ne]; omega
        have Hp := Lib.hid hp
        clear hp hq
        go_wp2_with (first | (go_at_call 66; refine (r_blank _ _).mono ?_; rintro e w' ⟨rfl, rfl⟩; rw [Hp.out]))
        go_round
        case rel => exact ⟨k + 1, by omega, by go_num, by rw [Hf.out, sk_blank s k hlt Hp.out]; omega⟩
        case measure => simp [intOf]; omega
    · go_wp2
      go_ret
      have h1 := Hf.out
      have h2 := sk_end s k (by omega)
      exact ⟨ret_int (by omega), rfl⟩
end Go.Proofs.YtfpcdgmdangmaaaGreatDoor

/- DERIVED. The contract of the reference's one. -/
namespace Go.Proofs.YtfpcdgmdangmaaaGreatDoor
open Go.RowKit

def oneOf (s : ByteArray) (i : Nat) : Tok × Int :=
  if (readOf (s.extract i s.size)).2 = 0 then ({ (readOf (s.extract i s.size)).1 with off := (i : Int) }, 0) else (.zero, (readOf (s.extract i s.size)).2)

theorem extract2 (s : ByteArray) (i n : Nat) (h : i + n ≤ s.size) : (s.extract i s.size).extract 0 n = s.extract i (i + n) := by
  apply ByteArray.ext
  rw [ByteArray.data_extract, ByteArray.data_extract, ByteArray.data_extract, Array.extract_extract]
  congr 1 <;> omega

theorem head_extract (s : ByteArray) (i : Nat) (h : i < s.size) : (bt (s.extract i s.size)).head? = some s[i] := by
  rw [bt_extract, bt_drop s i h]; rfl

theorem slice_run (s : ByteArray) (i n : Nat) (h : i + n ≤ s.size) (W : World) :
    (Instr.slice 9 (.string s) (some (.int .i64 (i : Int))) (some (.int .i64 ((i : Int) + (n : Int)))) none).run Tryz.prog W = .ok (.string (s.extract i (i + n))) W := by
  have h1 := run_slice_string (P := Tryz.prog) (w := W) 9 s .i64 .i64 (i : Int) ((i : Int) + (n : Int)) Tryz.underlying9 (by omega) (by omega) (by omega)
  have e1 : (i : Int).toNat = i := by omega
  have e2 : ((i : Int) + (n : Int)).toNat = i + n := by omega
  rw [e1, e2] at h1
  exact h1

theorem one_name (s : ByteArray) (i : Nat) (h : i < s.size) (hl : isLe s[i] = true) :
    oneOf s i = if 12 < fr inNa ((bt s).drop i) then (.zero, 3) else (⟨1, s.extract i (i + fr inNa ((bt s).drop i)), 0, i⟩, 0) := by
  have hle := fr_le inNa ((bt s).drop i)
  rw [List.length_drop, bt_len] at hle
  have hr : readOf (s.extract i s.size) = nameOf (s.extract i (i + fr inNa ((bt s).drop i))) := by
    unfold readOf; rw [head_extract s i h]; simp only [hl, if_true]; rw [bt_extract, extract2 s i _ (by omega)]
  have hs : (s.extract i (i + fr inNa ((bt s).drop i))).size = fr inNa ((bt s).drop i) := by simp only [ByteArray.size_extract]; omega
  unfold oneOf
  rw [hr]
  unfold nameOf
  rw [hs]
  by_cases h1 : 12 < fr inNa ((bt s).drop i)
  · simp [h1]
  · simp [h1]

theorem one_number (s : ByteArray) (i : Nat) (h : i < s.size) (hl : isLe s[i] = false) (hd : isDi s[i] = true) :
    oneOf s i = if s[i].toNat = 48 ∧ 1 < fr isDi ((bt s).drop i) then (.zero, 4) else if 9 < fr isDi ((bt s).drop i) then (.zero, 3)
      else (⟨2, s.extract i (i + fr isDi ((bt s).drop i)), nv (bt (s.extract i (i + fr isDi ((bt s).drop i)))), i⟩, 0) := by
  have hle := fr_le isDi ((bt s).drop i)
  rw [List.length_drop, bt_len] at hle
  have hpos : 0 < fr isDi ((bt s).drop i) := by have := fr_yes isDi s i h hd; omega
  have hr : readOf (s.extract i s.size) = numberOf (s.extract i (i + fr isDi ((bt s).drop i))) := by
    unfold readOf; rw [head_extract s i h]; simp only [hl, hd, if_true, Bool.false_eq_true, if_false]; rw [bt_extract, extract2 s i _ (by omega)]
  have hs : (s.extract i (i + fr isDi ((bt s).drop i))).size = fr isDi ((bt s).drop i) := by simp only [ByteArray.size_extract]; omega
  have hh : (bt (s.extract i (i + fr isDi ((bt s).drop i)))).head? = some s[i] := by
    rw [← extract2 s i _ (by omega), bt_take, bt_extract, bt_drop s i h]
    cases hf : fr isDi (s[i] :: (bt s).drop (i + 1)) with
    | zero => rw [bt_drop s i h] at hpos; omega
    | succ m => rfl
  have he : (some s[i] = some (48 : UInt8)) ↔ s[i].toNat = 48 := by
    constructor
    · intro h; injection h with h; rw [h]; rfl
    · intro h; congr 1; exact UInt8.toNat_inj.1 h
  have hn : numberOf (s.extract i (i + fr isDi ((bt s).drop i))) = if s[i].toNat = 48 ∧ 1 < fr isDi ((bt s).drop i) then (.zero, 4) else if 9 < fr isDi ((bt s).drop i) then (.zero, 3)
      else (⟨2, s.extract i (i + fr isDi ((bt s).drop i)), nv (bt (s.extract i (i + fr isDi ((bt s).drop i)))), 0⟩, 0) := by
    unfold numberOf
    rw [hs, hh]
    by_cases h1 : s[i].toNat = 48 ∧ 1 < fr isDi ((bt s).drop i)
    · rw [if_pos h1, if_pos ⟨h1.2, he.2 h1.1⟩]
    · rw [if_neg h1, if_neg (fun h => h1 ⟨he.1 h.2, h.1⟩)]
  unfold oneOf
  rw [hr, hn]
  by_cases h1 : s[i].toNat = 48 ∧ 1 < fr isDi ((bt s).drop i)
  · simp [h1.1, h1.2]
  · rw [if_neg h1, if_neg h1]
    by_cases h3 : 9 < fr isDi ((bt s).drop i)
    · simp [h3]
    · simp [h3]

theorem one_sign (s : ByteArray) (i : Nat) (h : i < s.size) (hl : isLe s[i] = false) (hd : isDi s[i] = false) :
    oneOf s i = if isSi s[i] then (⟨3, s.extract i (i + 1), 0, i⟩, 0) else (.zero, 4) := by
  have hr : readOf (s.extract i s.size) = if isSi s[i] then (⟨3, s.extract i (i + 1), 0, 0⟩, 0) else (.zero, 4) := by
    unfold readOf; rw [head_extract s i h]; simp only [hl, hd, Bool.false_eq_true, if_false]; rw [extract2 s i 1 (by omega)]
  unfold oneOf
  rw [hr]
  cases isSi s[i] <;> simp

theorem r_one_no (s : ByteArray) (hs : s.size ≤ maxLen) (i : Nat) (h : i < s.size) (hl : isLe s[i] = false) (hd : isDi s[i] = false) (w : World) :
    Calls Tryz.prog 40 #[.string s, .int .i64 i] w (Two (oneOf s i) w) := by
  have Hs := Lib.hid hs
  unfold maxLen at hs
  rw [one_sign s i h hl hd]
  have Hl := Lib.hid hl
  have Hd := Lib.hid hd
  have hsl := slice_run s i 1 (by omega)
  simp only [Int.natCast_one] at hsl
  clear hl hd
  by_cases h1 : s[i].toNat = 123
  · have hg : isSi s[i] = true := by simp [isSi, h1]
    rw [hg, if_pos rfl]
    have b1 : ((s[i].toNat : Int) == 123) = true := by rw [beq_iff_eq]; omega
    clear hg h1
    go_enter Tryz.func40, Tryz.ntmps40
    go_wp2_with (first | (go_at_call 67; refine (r_letter _ _).mono ?_; rintro e w' ⟨rfl, rfl⟩; rw [Hl.out]) | (go_at_call 69; refine (r_digit _ _).mono ?_; rintro e w' ⟨rfl, rfl⟩; rw [Hd.out]))
    exact bodyPost_ret (v := .tuple #[Tok.val ⟨3, s.extract i (i + 1), 0, i⟩, .int .i64 0]) (by simp [results, Tryz.results40, Tok.val, go_sem]) rfl ⟨rfl, ((Below.refl _ _).alloc (Nat.le_refl _) _)⟩
  have b1 : ((s[i].toNat : Int) == 123) = false := by rw [beq_eq_false_iff_ne]; omega
  by_cases h2 : s[i].toNat = 125
  · have hg : isSi s[i] = true := by simp [isSi, h2]
    rw [hg, if_pos rfl]
    have b2 : ((s[i].toNat : Int) == 125) = true := by rw [beq_iff_eq]; omega
    clear hg h1 h2
    go_enter Tryz.func40, Tryz.ntmps40
    go_wp2_with (first | (go_at_call 67; refine (r_letter _ _).mono ?_; rintro e w' ⟨rfl, rfl⟩; rw [Hl.out]) | (go_at_call 69; refine (r_digit _ _).mono ?_; rintro e w' ⟨rfl, rfl⟩; rw [Hd.out]))
    exact bodyPost_ret (v := .tuple #[Tok.val ⟨3, s.extract i (i + 1), 0, i⟩, .int .i64 0]) (by simp [results, Tryz.results40, Tok.val, go_sem]) rfl ⟨rfl, ((Below.refl _ _).alloc (Nat.le_refl _) _)⟩
  have b2 : ((s[i].toNat : Int) == 125) = false := by rw [beq_eq_false_iff_ne]; omega
  by_cases h3 : s[i].toNat = 59
  · have hg : isSi s[i] = true := by simp [isSi, h3]
    rw [hg, if_pos rfl]
    have b3 : ((s[i].toNat : Int) == 59) = true := by rw [beq_iff_eq]; omega
    clear hg h1 h2 h3
    go_enter Tryz.func40, Tryz.ntmps40
    go_wp2_with (first | (go_at_call 67; refine (r_letter _ _).mono ?_; rintro e w' ⟨rfl, rfl⟩; rw [Hl.out]) | (go_at_call 69; refine (r_digit _ _).mono ?_; rintro e w' ⟨rfl, rfl⟩; rw [Hd.out]))
    exact bodyPost_ret (v := .tuple #[Tok.val ⟨3, s.extract i (i + 1), 0, i⟩, .int .i64 0]) (by simp [results, Tryz.results40, Tok.val, go_sem]) rfl ⟨rfl, ((Below.refl _ _).alloc (Nat.le_refl _) _)⟩
  have b3 : ((s[i].toNat : Int) == 59) = false := by rw [beq_eq_false_iff_ne]; omega
  by_cases h4 : s[i].toNat = 44
  · have hg : isSi s[i] = true := by simp [isSi, h4]
    rw [hg, if_pos rfl]
    have b4 : ((s[i].toNat : Int) == 44) = true := by rw [beq_iff_eq]; omega
    clear hg h1 h2 h3 h4
    go_enter Tryz.func40, Tryz.ntmps40
    go_wp2_with (first | (go_at_call 67; refine (r_letter _ _).mono ?_; rintro e w' ⟨rfl, rfl⟩; rw [Hl.out]) | (go_at_call 69; refine (r_digit _ _).mono ?_; rintro e w' ⟨rfl, rfl⟩; rw [Hd.out]))
    exact bodyPost_ret (v := .tuple #[Tok.val ⟨3, s.extract i (i + 1), 0, i⟩, .int .i64 0]) (by simp [results, Tryz.results40, Tok.val, go_sem]) rfl ⟨rfl, ((Below.refl _ _).alloc (Nat.le_refl _) _)⟩
  have b4 : ((s[i].toNat : Int) == 44) = false := by rw [beq_eq_false_iff_ne]; omega
  have hg : isSi s[i] = false := by simp [isSi, h1, h2, h3, h4]
  rw [hg]
  simp only [Bool.false_eq_true, if_false]
  clear hg h1 h2 h3 h4
  go_enter Tryz.func40, Tryz.ntmps40
  go_wp2_with (first | (go_at_call 67; refine (r_letter _ _).mono ?_; rintro e w' ⟨rfl, rfl⟩; rw [Hl.out]) | (go_at_call 69; refine (r_digit _ _).mono ?_; rintro e w' ⟨rfl, rfl⟩; rw [Hd.out]))
  exact bodyPost_ret (v := .tuple #[Tok.val .zero, .int .i64 4]) (by simp [results, Tryz.results40, Tok.val, Tok.zero, go_sem]) rfl ⟨rfl, ((Below.refl _ _).alloc (Nat.le_refl _) _)⟩

set_option maxHeartbeats 1000000 in
theorem r_one_num (s : ByteArray) (hs : s.size ≤ maxLen) (i : Nat) (h : i < s.size) (hl : isLe s[i] = false) (hd : isDi s[i] = true) (w : World) :
    Calls Tryz.prog 40 #[.string s, .int .i64 i] w (Two (oneOf s i) w) := by
  have Hs := Lib.hid hs
  unfold maxLen at hs
  rw [one_number s i h hl hd]
  have hle := fr_le isDi ((bt s).drop i)
  rw [List.length_drop, bt_len] at hle
  have hdg : ∀ c ∈ bt (s.extract i (i + fr isDi ((bt s).drop i))), isDi c = true := by
    rw [← extract2 s i _ (by omega), bt_take, bt_extract]; exact fr_all isDi _
  have hv := r_Value (s.extract i (i + fr isDi ((bt s).drop i)))
  have hsz : (s.extract i (i + fr isDi ((bt s).drop i))).size = fr isDi ((bt s).drop i) := by simp only [ByteArray.size_extract]; omega
  rw [hsz] at hv
  have hne := r_numberEnd s Hs.out i (by omega)
  replace hle : i + fr isDi ((bt s).drop i) ≤ s.size := by omega
  have hsl := slice_run s i _ hle
  generalize fr isDi ((bt s).drop i) = n at *
  have Hl := Lib.hid hl
  have Hd := Lib.hid hd
  have Hdg := Lib.hid hdg
  have Hv := Lib.hid hv
  have Hne := Lib.hid hne
  clear hl hd hdg hv hsz hne
  by_cases h48 : s[i].toNat = 48
  · have hb : ((s[i].toNat : Int) == 48) = true := by rw [beq_iff_eq]; omega
    by_cases h1 : 1 < n
    · rw [if_pos ⟨h48, h1⟩]
      clear h48
      go_enter Tryz.func40, Tryz.ntmps40
      go_wp2_with (first | (go_at_call 67; refine (r_letter _ _).mono ?_; rintro e w' ⟨rfl, rfl⟩; rw [Hl.out]) | (go_at_call 69; refine (r_digit _ _).mono ?_; rintro e w' ⟨rfl, rfl⟩; rw [Hd.out]) | (go_at_call 70; refine (Hne.out _).mono ?_; rintro e w' ⟨rfl, rfl⟩))
      exact bodyPost_ret (v := .tuple #[Tok.val .zero, .int .i64 4]) (by simp [results, Tryz.results40, Tok.val, Tok.zero, go_sem]) rfl ⟨rfl, ((Below.refl _ _).alloc (Nat.le_refl _) _)⟩
    · rw [if_neg (fun h => h1 h.2), if_neg (by omega)]
      clear h48
      have hv := Hv.out (by omega) Hdg.out
      have Hv2 := Lib.hid hv
      clear hv
      go_enter Tryz.func40, Tryz.ntmps40
      go_wp2_with (first | (go_at_call 67; refine (r_letter _ _).mono ?_; rintro e w' ⟨rfl, rfl⟩; rw [Hl.out]) | (go_at_call 69; refine (r_digit _ _).mono ?_; rintro e w' ⟨rfl, rfl⟩; rw [Hd.out]) | (go_at_call 70; refine (Hne.out _).mono ?_; rintro e w' ⟨rfl, rfl⟩))
      go_region_with (go_at_call 71; refine (Hv2.out _).mono ?_; rintro e w' ⟨rfl, rfl⟩)
      all_goals go_wp2
      all_goals exact bodyPost_ret (v := .tuple #[Tok.val ⟨2, s.extract i (i + n), nv (bt (s.extract i (i + n))), i⟩, .int .i64 0]) (by simp [results, Tryz.results40, Tok.val, go_sem]) rfl ⟨rfl, ((Below.refl _ _).alloc (Nat.le_refl _) _).drew⟩
  · have hb : ((s[i].toNat : Int) == 48) = false := by rw [beq_eq_false_iff_ne]; omega
    rw [if_neg (fun h => h48 h.1)]
    clear h48
    by_cases h9 : 9 < n
    · rw [if_pos h9]
      go_enter Tryz.func40, Tryz.ntmps40
      go_wp2_with (first | (go_at_call 67; refine (r_letter _ _).mono ?_; rintro e w' ⟨rfl, rfl⟩; rw [Hl.out]) | (go_at_call 69; refine (r_digit _ _).mono ?_; rintro e w' ⟨rfl, rfl⟩; rw [Hd.out]) | (go_at_call 70; refine (Hne.out _).mono ?_; rintro e w' ⟨rfl, rfl⟩))
      exact bodyPost_ret (v := .tuple #[Tok.val .zero, .int .i64 3]) (by simp [results, Tryz.results40, Tok.val, Tok.zero, go_sem]) rfl ⟨rfl, ((Below.refl _ _).alloc (Nat.le_refl _) _)⟩
    · rw [if_neg h9]
      have hv := Hv.out (by omega) Hdg.out
      have Hv2 := Lib.hid hv
      clear hv
      go_enter Tryz.func40, Tryz.ntmps40
      go_wp2_with (first | (go_at_call 67; refine (r_letter _ _).mono ?_; rintro e w' ⟨rfl, rfl⟩; rw [Hl.out]) | (go_at_call 69; refine (r_digit _ _).mono ?_; rintro e w' ⟨rfl, rfl⟩; rw [Hd.out]) | (go_at_call 70; refine (Hne.out _).mono ?_; rintro e w' ⟨rfl, rfl⟩))
      go_region_with (go_at_call 71; refine (Hv2.out _).mono ?_; rintro e w' ⟨rfl, rfl⟩)
      all_goals go_wp2
      all_goals exact bodyPost_ret (v := .tuple #[Tok.val ⟨2, s.extract i (i + n), nv (bt (s.extract i (i + n))), i⟩, .int .i64 0]) (by simp [results, Tryz.results40, Tok.val, go_sem]) rfl ⟨rfl, ((Below.refl _ _).alloc (Nat.le_refl _) _).drew⟩

set_option maxHeartbeats 1000000 in
theorem r_one (s : ByteArray) (hs : s.size ≤ maxLen) (i : Nat) (h : i < s.size) (w : World) :
    Calls Tryz.prog 40 #[.string s, .int .i64 i] w (Two (oneOf s i) w) := by
  have Hs := Lib.hid hs
  cases hl : isLe s[i]
  · cases hd : isDi s[i]
    · exact r_one_no s hs i h hl hd w
    · exact r_one_num s hs i h hl hd w
  · unfold maxLen at hs
    rw [one_name s i h hl]
    have hle := fr_le inNa ((bt s).drop i)
    rw [List.length_drop, bt_len] at hle
    have hne := r_nameEnd s Hs.out i (by omega)
    replace hle : i + fr inNa ((bt s).drop i) ≤ s.size := by omega
    have hsl := slice_run s i _ hle
    generalize fr inNa ((bt s).drop i) = n at *
    have Hl := Lib.hid hl
    have Hne := Lib.hid hne
    clear hl hne
    by_cases h1 : 12 < n
    · rw [if_pos h1]
      go_enter Tryz.func40, Tryz.ntmps40
      go_wp2_with (first | (go_at_call 67; refine (r_letter _ _).mono ?_; rintro e w' ⟨rfl, rfl⟩; rw [Hl.out]) | (go_at_call 68; refine (Hne.out _).mono ?_; rintro e w' ⟨rfl, rfl⟩))
      exact bodyPost_ret (v := .tuple #[Tok.val .zero, .int .i64 3]) (by simp [results, Tryz.results40, Tok.val, Tok.zero, go_sem]) rfl ⟨rfl, ((Below.refl _ _).alloc (Nat.le_refl _) _)⟩
    · rw [if_neg h1]
      go_enter Tryz.func40, Tryz.ntmps40
      go_wp2_with (first | (go_at_call 67; refine (r_letter _ _).mono ?_; rintro e w' ⟨rfl, rfl⟩; rw [Hl.out]) | (go_at_call 68; refine (Hne.out _).mono ?_; rintro e w' ⟨rfl, rfl⟩))
      exact bodyPost_ret (v := .tuple #[Tok.val ⟨1, s.extract i (i + n), 0, i⟩, .int .i64 0]) (by simp [results, Tryz.results40, Tok.val, go_sem]) rfl ⟨rfl, ((Below.refl _ _).alloc (Nat.le_refl _) _)⟩
end Go.Proofs.YtfpcdgmdangmaaaGreatDoor

/- DERIVED. The contract of the reference's Tokens. -/
namespace Go.Proofs.YtfpcdgmdangmaaaGreatDoor
open Go.RowKit
set_option maxRecDepth 100000

/-- What stands between two rounds of the reference's loop. -/
def RtRel (s : ByteArray) (w : World) (lv iv : Value) (wr : World) : Prop :=
  ∃ (k f : Nat) (pre : List (Tok × Int)), iv = .int .i64 k ∧ k ≤ s.size ∧ s.size < f + k ∧ seqOf s = pre ++ seqF s f k ∧ (∀ y ∈ pre, y.2 = 0) ∧
    wr.ownsRow w.heap.size 37 4 lv pre.length (tokCells (pre.map (·.1))) ∧ Below w.heap.size w wr

/-- Behind the append: the token's box, and what lay. -/
theorem rt_after {w wr w1 w3 : World} {lv : Value} {k : Nat} {xs : List Value} {a b c d : Value} {tmp : Obj} (hrow : wr.ownsRow w.heap.size 37 4 lv k xs) (hB : Below w.heap.size w wr) (hbl : Below wr.heap.size wr w1)
    (hgrow : ((w1.alloc (.cells #[a, b, c, d] 37)).alloc tmp).grownBy w3 lv.ownBlock) : w3.cell? ⟨w1.heap.size, 1, none⟩ = some b ∧ Below w.heap.size w w3 := by
  have hz := hbl.size
  have hz2 := hB.size
  have hlt : ∀ g, lv.ownBlock = some g → w.heap.size ≤ g ∧ g < wr.heap.size := hrow.lt
  constructor
  · have h1 : w3.heap[w1.heap.size]? = some (.cells #[a, b, c, d] 37 (0, 0)) := by
      refine (hgrow.block w1.heap.size (by simp; omega) (fun e => ?_)).trans ((Below.heap_alloc _ tmp w1.heap.size (by simp)).trans (heap_alloc_new w1 _))
      have := (hlt _ e.symm).2; omega
    simp [World.cell?, h1]
  · exact (((hB.trans (hbl.mono hz2)).alloc (by omega) _).alloc (by simp; omega) _).grown hgrow (by simp; omega) (fun g e => (hlt g e).1)

set_option maxHeartbeats 1000000 in
theorem r_Tokens (s : ByteArray) (hs : s.size ≤ maxLen) (w : World) :
    Calls Tryz.prog 19 #[.string s] w (TokPost (toksOf s) w) := by
  have Hs := Lib.hid hs
  unfold maxLen at hs
  by_cases hlen : 4096 < s.size
  · have hv : toksOf s = ([], 4096, 3) := by unfold toksOf; rw [if_pos hlen]
    rw [hv]
    clear hv
    go_enter Tryz.func19, Tryz.ntmps19
    go_wp2
    go_ret3
    exact ⟨_, rfl, World.ownsRow_nil _ _ _ _, Below.refl _ _⟩
  obtain ⟨i0, hi, hz0, hz1, hz2⟩ := info_parts infoT34
  have hsk : ∀ w, Calls Tryz.prog 39 #[.string s, .int .i64 0] w fun e w' => e = .returned (.int .i64 (sk false (bt s) : Int)) ∧ w' = w := fun w => by
    have h := r_skip s Hs.out 0 (Nat.zero_le _) w
    simpa using h
  have hk0 : sk false (bt s) ≤ s.size := by have := sk_le false (bt s); rwa [bt_len] at this
  generalize hk : sk false (bt s) = k0 at hsk hk0
  have Hk := Lib.hid hk
  have Hsk := Lib.hid hsk
  clear hsk hk
  go_enter Tryz.func19, Tryz.ntmps19
  go_wp2_with (first | (go_at_call 39; refine (Hsk.out _).mono ?_; rintro e w' ⟨rfl, rfl⟩))
  go_loopw [5, 6] (fun lv iv wr => RtRel s w' lv iv wr) (fun lv iv wr => s.size - (intOf iv).toNat)
  case atStart =>
    exact ⟨k0, s.size + 1, [], rfl, hk0, by omega, by rw [List.nil_append, ← Hk.out]; rfl, (by intro y hy; cases hy), World.ownsRow_nil _ _ _ _, Below.refl _ _⟩
  case round =>
    obtain ⟨k, f, pre, rfl, hk1, hf, hq, hz, hrow, hB⟩ := hrel
    by_cases hlt : k < s.size
    · obtain ⟨f, rfl⟩ : ∃ f', f = f' + 1 := ⟨f - 1, by omega⟩
      have hrd := r_one s Hs.out k hlt
      have hok := read_ok (s.extract k s.size)
      simp only [seqF, if_pos hlt] at hq
      unfold oneOf at hrd
      have hsx : (s.extract k s.size).size = s.size - k := by simp only [ByteArray.size_extract]; omega
      rw [hsx] at hok
      have hpl : pre.length ≤ 4096 := by have := seqF_len s (s.size + 1) (sk false (bt s)); unfold seqOf at hq; rw [hq, List.length_append] at this; split at this <;> simp at this <;> omega
      generalize readOf (s.extract k s.size) = r at hrd hok hq
      clear hsx
      obtain ⟨⟨kd, tx, nm, of0⟩, er⟩ := r
      dsimp only at hok hq hrd
      have Hz := Lib.hid hz
      clear hz
      by_cases her : er = 0
      · subst her
        obtain ⟨m, hm0, hm1, hm2⟩ := hok rfl
        have htx : tx.size = m := by rw [hm2]; simp only [ByteArray.size_extract]; omega
        clear hok
        rw [if_pos rfl, htx] at hq
        rw [if_pos rfl] at hrd
        have Hrd := Lib.hid hrd
        have Hm2 := Lib.hid hm2
        have Hq := Lib.hid hq
        have Htx := Lib.hid htx
        clear hm2 hq htx hrd
        have hsk2 : ∀ w, Calls Tryz.prog 39 #[.string s, .int .i64 ((k : Int) + (m : Int))] w fun e w' => e = .returned (.int .i64 (((k + m : Nat) : Int) + (sk false ((bt s).drop (k + m)) : Int))) ∧ w' = w := fun w => by
          have h := r_skip s Hs.out (k + m) (by omega) w
          simpa using h
        have hle := sk_le false ((bt s).drop (k + m))
        rw [List.length_drop, bt_len] at hle
        have Hsk2 := Lib.hid hsk2
        clear hsk2
        have ht1 : (tx.size : Int) = m := by rw [Htx.out]
        go_wp2_with (first | (go_at_call 40; refine (Hrd.out _).mono ?_; rintro e w1 ⟨rfl, hbl⟩; simp only [Tok.val]; have hr1 := (ownsRow_below hrow hbl).kept (World.grownBy_alloc w1 (.cells #[.int .u8 kd, .string tx, .int .i64 nm, .int .i64 k] 37) none) (Classical.em _)) | (at_builtin; refine wpList_append_own _ rfl _ _ 32 rfl w'.heap.size 37 i0 Tok.zero.val 4 40 Tryz.underlying32 hi hz0 hz1 hz2 rfl (by decide) _ _ _ rfl (hr1.alloc _) ⟨w1.heap.size + 1, 0, none⟩ 1 1 (Tok.cells ⟨kd, tx, nm, k⟩) rfl rfl (cell_four_new' _ (by simp) _ _ _ _ _) (by simp [Value.oneCell', Tok.cells]) (by simp only [maxLen]; omega) (by omega) (by have h1 := hB.size; have h2 := hbl.size; simp; omega) ?_; intro v' w3 hown' hgrow _; obtain ⟨g', cap', rfl⟩ := ownsRow_succ hown'; obtain ⟨htc, hb3⟩ := rt_after hrow hB hbl hgrow) | (go_at_call 39; refine (Hsk2.out _).mono ?_; rintro e w2 ⟨rfl, rfl⟩))
        refine ⟨⟨k + m + sk false ((bt s).drop (k + m)), f, pre ++ [(⟨kd, tx, nm, k⟩, 0)], by go_num, by omega, by omega, by rw [Hq.out]; simp, ?_, ?_, hb3⟩, by simp [intOf]; omega⟩
        · intro y hy
          rcases List.mem_append.1 hy with h | h
          · exact Hz.out y h
          · rw [List.mem_singleton.1 h]
        · rw [List.length_append, List.map_append, List.map_cons, List.map_nil, tokCells_snoc]
          exact hown'
      · have hxb : (er != 0) = true := by rw [bne_iff_ne]; exact her
        rw [if_neg her] at hq hrd
        have hv := toksOf_err s hlen pre [] _ hq Hz.out her
        have Hv := Lib.hid hv
        have Hrd := Lib.hid hrd
        clear hq hok her hv hrd
        go_wp2_with (first | (go_at_call 40; refine (Hrd.out _).mono ?_; rintro e w1 ⟨rfl, hbl⟩; simp only [Tok.val]))
        rw [Hv.out]
        go_ret3
        exact ⟨_, rfl, World.ownsRow_nil _ _ _ _, (hB.trans (hbl.mono hB.size)).alloc (by have h1 := hB.size; have h2 := hbl.size; omega) _⟩
    · have hq2 : seqOf s = pre := by rw [hq, seqF_end s f k (by omega), List.append_nil]
      have hv := toksOf_ok s hlen (by rw [hq2]; exact hz)
      have Hv := Lib.hid hv
      have Hq := Lib.hid hq2
      clear hq hv hq2 hz
      go_wp2
      rw [Hv.out, Hq.out]
      go_ret3
      refine ⟨_, rfl, ?_, hB⟩
      rwa [List.length_map]
end Go.Proofs.YtfpcdgmdangmaaaGreatDoor

/- DERIVED. The contract of the reference's Right. -/
namespace Go.Proofs.YtfpcdgmdangmaaaGreatDoor
open Go.RowKit

set_option maxHeartbeats 400000 in
theorem r_Right (t : Tok) (hs : t.text.size ≤ maxLen) (w : World) :
    Calls Tryz.prog 93 #[.agg #[.int .u8 t.kind, .string t.text, .int .i64 t.num, .int .i64 t.off]] w fun e w' => e = .returned (.bool (validT t)) ∧ Below w.heap.size w w' := by
  by_cases h0 : 0 < t.text.size
  · have hrd := r_one t.text hs 0 h0
    have hne := empty_no t.text h0
    unfold oneOf at hrd
    rw [extract_all] at hrd
    unfold validT
    generalize readOf t.text = r at hrd ⊢
    obtain ⟨⟨kd, tx, nm, of0⟩, er⟩ := r
    obtain ⟨kd2, tx2, nm2, of2⟩ := t
    dsimp only at hrd hne ⊢
    obtain ⟨bv, hbv⟩ : ∃ b, b = ((er == 0) && ((kd == kd2) && ((tx.toList == tx2.toList) && (nm == nm2)))) := ⟨_, rfl⟩
    rw [← hbv]
    have Hb := Lib.hid hbv
    clear hbv
    by_cases her : er = 0
    · subst her
      rw [if_pos rfl] at hrd
      have Hrd := Lib.hid hrd
      clear hrd
      go_enter Tryz.func93, Tryz.ntmps93
      go_wp2_with (first | (go_at_call 40; refine (Hrd.out _).mono ?_; rintro e w1 ⟨rfl, hbl⟩; obtain ⟨⟨g0, g1, g2, g3⟩, ⟨f0, f1, f2, f3⟩, hsz⟩ := res4 hbl; simp only [Tok.val]))
      all_goals go_ret
      all_goals refine ⟨ret_bool (by rw [Hb.out]; simp [*]), ?_⟩
      all_goals exact (((Below.refl _ w).alloc (Nat.le_refl _) _).trans (hbl.mono (by simp))).alloc (by have := hbl.size; simp at this ⊢; omega) _
    · rw [if_neg her] at hrd
      have hb : (er == 0) = false := by rw [beq_eq_false_iff_ne]; exact her
      have Hrd := Lib.hid hrd
      clear hrd her
      go_enter Tryz.func93, Tryz.ntmps93
      go_wp2_with (first | (go_at_call 40; refine (Hrd.out _).mono ?_; rintro e w1 ⟨rfl, hbl⟩; simp only [Tok.val]))
      all_goals go_ret
      all_goals refine ⟨ret_bool (by rw [Hb.out]; simp [*]), ?_⟩
      all_goals exact (((Below.refl _ w).alloc (Nat.le_refl _) _).trans (hbl.mono (by simp))).alloc (by have := hbl.size; simp at this ⊢; omega) _
  · have hne := empty_yes t.text h0
    have hv : validT t = false := by
      have : bt t.text = [] := List.eq_nil_of_length_eq_zero (by rw [bt_len]; omega)
      unfold validT readOf
      rw [this]
      rfl
    obtain ⟨kd2, tx2, nm2, of2⟩ := t
    rw [hv]
    clear hv
    dsimp only at hne ⊢
    go_enter Tryz.func93, Tryz.ntmps93
    go_wp2
    go_ret
    exact ⟨rfl, (Below.refl _ w).alloc (Nat.le_refl _) _⟩
end Go.Proofs.YtfpcdgmdangmaaaGreatDoor
