/-
  DERIVED. The contracts of lexis.front at each of its three classes.
-/
import Derived.Test.YtlfjhechploioaaA
namespace Go.Proofs.Ytlfjhechploioaa
open Go.RowKit

/-- The number of bytes at the front of a list that are in a class. -/
def fr (p : UInt8 → Bool) : List UInt8 → Nat
  | [] => 0
  | c :: r => if p c then fr p r + 1 else 0
def bt (s : ByteArray) : List UInt8 := s.data.toList
theorem bt_len (s : ByteArray) : (bt s).length = s.size := by unfold bt; rw [Array.length_toList]; rfl
theorem bt_drop (s : ByteArray) (k : Nat) (h : k < s.size) : (bt s).drop k = s[k] :: (bt s).drop (k + 1) := by
  rw [List.drop_eq_getElem_cons (by rw [bt_len]; exact h)]; rfl
theorem fr_le (p : UInt8 → Bool) : ∀ l, fr p l ≤ l.length
  | [] => Nat.le_refl _
  | c :: r => by unfold fr; have := fr_le p r; split <;> simp <;> omega
theorem fr_yes (p : UInt8 → Bool) (s : ByteArray) (k : Nat) (h : k < s.size) (hp : p s[k] = true) : fr p ((bt s).drop k) = fr p ((bt s).drop (k + 1)) + 1 := by
  rw [bt_drop s k h, fr, if_pos hp]
theorem fr_no (p : UInt8 → Bool) (s : ByteArray) (k : Nat) (h : k < s.size) (hp : p s[k] = false) : fr p ((bt s).drop k) = 0 := by
  rw [bt_drop s k h, fr, if_neg (by simp [hp])]
theorem fr_end (p : UInt8 → Bool) (s : ByteArray) (k : Nat) (h : s.size ≤ k) : fr p ((bt s).drop k) = 0 := by
  rw [List.drop_of_length_le (by rw [bt_len]; exact h)]; rfl

set_option maxHeartbeats 400000 in
theorem c_front_inRe (s : ByteArray) (hs : s.size ≤ maxLen) (w : World) :
    Calls Try.prog 37 #[.string s, .func (.func 38) #[] #[]] w fun e w' => e = .returned (.string (s.extract 0 (fr inRe (bt s)))) ∧ w' = w := by
  unfold maxLen at hs
  go_enter Try.func37, Try.ntmps37
  go_wp2
  go_loop [5] (fun i => ∃ k : Nat, k ≤ s.size ∧ i = .int .i64 k ∧ fr inRe (bt s) = k + fr inRe ((bt s).drop k)) (fun i => s.size - (intOf i).toNat)
  case atStart => exact ⟨0, Nat.zero_le _, rfl, by simp⟩
  case round =>
    obtain ⟨k, hk, rfl, hf⟩ := hrel
    have Hf := Lib.hid hf
    clear hf
    by_cases hlt : k < s.size
    · cases hp : inRe s[k]
      · have Hp := Lib.hid hp
        clear hp
        go_wp2_with (first | (go_at_call 38; refine (c_inRemark _ _).mono ?_; rintro e w' ⟨rfl, rfl⟩; rw [Hp.out]))
        go_ret
        refine ⟨?_, rfl⟩
        rw [Hf.out, fr_no inRe s k hlt Hp.out]
        rfl
      · have Hp := Lib.hid hp
        clear hp
        go_wp2_with (first | (go_at_call 38; refine (c_inRemark _ _).mono ?_; rintro e w' ⟨rfl, rfl⟩; rw [Hp.out]))
        go_round
        case rel => exact ⟨k + 1, by omega, by go_num, by rw [Hf.out, fr_yes inRe s k hlt Hp.out]; omega⟩
        case measure => simp [intOf]; omega
    · go_wp2
      go_ret
      refine ⟨?_, rfl⟩
      rw [Hf.out, fr_end inRe s k (by omega)]
      rfl

set_option maxHeartbeats 400000 in
theorem c_front_inNa (s : ByteArray) (hs : s.size ≤ maxLen) (w : World) :
    Calls Try.prog 37 #[.string s, .func (.func 41) #[] #[]] w fun e w' => e = .returned (.string (s.extract 0 (fr inNa (bt s)))) ∧ w' = w := by
  unfold maxLen at hs
  go_enter Try.func37, Try.ntmps37
  go_wp2
  go_loop [5] (fun i => ∃ k : Nat, k ≤ s.size ∧ i = .int .i64 k ∧ fr inNa (bt s) = k + fr inNa ((bt s).drop k)) (fun i => s.size - (intOf i).toNat)
  case atStart => exact ⟨0, Nat.zero_le _, rfl, by simp⟩
  case round =>
    obtain ⟨k, hk, rfl, hf⟩ := hrel
    have Hf := Lib.hid hf
    clear hf
    by_cases hlt : k < s.size
    · cases hp : inNa s[k]
      · have Hp := Lib.hid hp
        clear hp
        go_wp2_with (first | (go_at_call 41; refine (c_inName _ _).mono ?_; rintro e w' ⟨rfl, rfl⟩; rw [Hp.out]))
        go_ret
        refine ⟨?_, rfl⟩
        rw [Hf.out, fr_no inNa s k hlt Hp.out]
        rfl
      · have Hp := Lib.hid hp
        clear hp
        go_wp2_with (first | (go_at_call 41; refine (c_inName _ _).mono ?_; rintro e w' ⟨rfl, rfl⟩; rw [Hp.out]))
        go_round
        case rel => exact ⟨k + 1, by omega, by go_num, by rw [Hf.out, fr_yes inNa s k hlt Hp.out]; omega⟩
        case measure => simp [intOf]; omega
    · go_wp2
      go_ret
      refine ⟨?_, rfl⟩
      rw [Hf.out, fr_end inNa s k (by omega)]
      rfl

set_option maxHeartbeats 400000 in
theorem c_front_isDi (s : ByteArray) (hs : s.size ≤ maxLen) (w : World) :
    Calls Try.prog 37 #[.string s, .func (.func 42) #[] #[]] w fun e w' => e = .returned (.string (s.extract 0 (fr isDi (bt s)))) ∧ w' = w := by
  unfold maxLen at hs
  go_enter Try.func37, Try.ntmps37
  go_wp2
  go_loop [5] (fun i => ∃ k : Nat, k ≤ s.size ∧ i = .int .i64 k ∧ fr isDi (bt s) = k + fr isDi ((bt s).drop k)) (fun i => s.size - (intOf i).toNat)
  case atStart => exact ⟨0, Nat.zero_le _, rfl, by simp⟩
  case round =>
    obtain ⟨k, hk, rfl, hf⟩ := hrel
    have Hf := Lib.hid hf
    clear hf
    by_cases hlt : k < s.size
    · cases hp : isDi s[k]
      · have Hp := Lib.hid hp
        clear hp
        go_wp2_with (first | (go_at_call 42; refine (c_isDigit _ _).mono ?_; rintro e w' ⟨rfl, rfl⟩; rw [Hp.out]))
        go_ret
        refine ⟨?_, rfl⟩
        rw [Hf.out, fr_no isDi s k hlt Hp.out]
        rfl
      · have Hp := Lib.hid hp
        clear hp
        go_wp2_with (first | (go_at_call 42; refine (c_isDigit _ _).mono ?_; rintro e w' ⟨rfl, rfl⟩; rw [Hp.out]))
        go_round
        case rel => exact ⟨k + 1, by omega, by go_num, by rw [Hf.out, fr_yes isDi s k hlt Hp.out]; omega⟩
        case measure => simp [intOf]; omega
    · go_wp2
      go_ret
      refine ⟨?_, rfl⟩
      rw [Hf.out, fr_end isDi s k (by omega)]
      rfl
end Go.Proofs.Ytlfjhechploioaa
