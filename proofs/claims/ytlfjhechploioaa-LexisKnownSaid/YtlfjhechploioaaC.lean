/-
  DERIVED. The contract of lexis.skip.
-/
import Derived.Test.YtlfjhechploioaaB
namespace Go.Proofs.Ytlfjhechploioaa
open Go.RowKit

/-- How many bytes at the front belong to blanks and remarks; 'true': a remark has begun. -/
def sk : Bool → List UInt8 → Nat
  | _, [] => 0
  | true, c :: r => (if c.toNat = 10 then sk false r else sk true r) + 1
  | false, c :: r => if isBl c then sk false r + 1 else if c.toNat = 35 then sk true r + 1 else 0

theorem sk_le (b : Bool) (l : List UInt8) : sk b l ≤ l.length := by
  induction l generalizing b with
  | nil => cases b <;> simp [sk]
  | cons c r ih =>
    have h1 := ih true
    have h2 := ih false
    cases b <;> simp only [sk, List.length_cons] <;> (repeat' split) <;> omega

theorem sk_true : ∀ l, sk true l = fr inRe l + sk false (l.drop (fr inRe l))
  | [] => rfl
  | c :: r => by
    by_cases h : c.toNat = 10
    · have hi : inRe c = false := by simp [inRe, h]
      have hb : isBl c = true := by simp [isBl, h]
      simp [sk, fr, h, hi, hb]
    · have hi : inRe c = true := by simp [inRe, h]
      have := sk_true r
      simp only [sk, fr, if_neg h, if_pos hi, List.drop_succ_cons]
      omega

theorem bt_extract (s : ByteArray) (a : Nat) : bt (s.extract a s.size) = (bt s).drop a := by
  unfold bt
  rw [ByteArray.data_extract, Array.toList_extract]
  simp [List.extract]
  exact List.take_of_length_le (by simp)

theorem sk_blank (s : ByteArray) (k : Nat) (h : k < s.size) (hp : isBl s[k] = true) : sk false ((bt s).drop k) = sk false ((bt s).drop (k + 1)) + 1 := by
  rw [bt_drop s k h]; simp [sk, hp]
theorem sk_remark (s : ByteArray) (k : Nat) (h : k < s.size) (hp : isBl s[k] = false) (hq : s[k].toNat = 35) :
    0 < fr inRe ((bt s).drop k) ∧ sk false ((bt s).drop k) = fr inRe ((bt s).drop k) + sk false ((bt s).drop (k + fr inRe ((bt s).drop k))) := by
  have hi : inRe s[k] = true := by simp [inRe, hq]
  have h0 := bt_drop s k h
  have h1 : fr inRe ((bt s).drop k) = fr inRe ((bt s).drop (k + 1)) + 1 := fr_yes inRe s k h hi
  refine ⟨by omega, ?_⟩
  have h2 := sk_true ((bt s).drop (k + 1))
  rw [List.drop_drop] at h2
  rw [h1, h0]
  simp only [sk, hp, hq, if_true, Bool.false_eq_true, if_false]
  rw [h2, show k + (fr inRe ((bt s).drop (k + 1)) + 1) = k + 1 + fr inRe ((bt s).drop (k + 1)) from by omega]
  omega
theorem sk_stop (s : ByteArray) (k : Nat) (h : k < s.size) (hp : isBl s[k] = false) (hq : ¬ s[k].toNat = 35) : sk false ((bt s).drop k) = 0 := by
  rw [bt_drop s k h]; simp [sk, hp, hq]
theorem sk_end (s : ByteArray) (k : Nat) (h : s.size ≤ k) : sk false ((bt s).drop k) = 0 := by
  rw [List.drop_of_length_le (by rw [bt_len]; exact h)]; rfl

theorem ret_int {k : IntKind} {a b : Int} (h : a = b) : Ending.returned (.int k a) = .returned (.int k b) := by rw [h]

set_option maxHeartbeats 400000 in
theorem c_skip (s : ByteArray) (hs : s.size ≤ maxLen) (a : Nat) (ha : a ≤ s.size) (w : World) :
    Calls Try.prog 25 #[.string s, .int .i64 a] w fun e w' => e = .returned (.int .i64 ((a : Int) + (sk false ((bt s).drop a) : Int))) ∧ w' = w := by
  unfold maxLen at hs
  go_enter Try.func25, Try.ntmps25
  go_wp2
  go_loop [1] (fun i => ∃ k : Nat, k ≤ s.size ∧ i = .int .i64 k ∧ a + sk false ((bt s).drop a) = k + sk false ((bt s).drop k)) (fun i => s.size - (intOf i).toNat)
  case atStart => exact ⟨a, ha, rfl, rfl⟩
  case round =>
    obtain ⟨k, hk, rfl, hf⟩ := hrel
    have Hf := Lib.hid hf
    clear hf
    by_cases hlt : k < s.size
    · cases hp : isBl s[k]
      · have Hp := Lib.hid hp
        clear hp
        have hfl := fr_le inRe ((bt s).drop k)
        rw [List.length_drop, bt_len] at hfl
        have hbx := bt_extract s k
        have Hbx := Lib.hid hbx
        clear hbx
        by_cases hq : s[k].toNat = 35
        · have hb : ((s[k].toNat : Int) == 35) = true := by rw [beq_iff_eq]; omega
          have hr := sk_remark s k hlt Hp.out hq
          have hr0 := hr.1
          have Hr := Lib.hid hr.2
          clear hr hq
          go_wp2_with (first | (go_at_call 36; refine (c_isBlank _ _).mono ?_; rintro e w' ⟨rfl, rfl⟩; rw [Hp.out]) | (go_at_call 37; refine (c_front_inRe _ (by simp only [ByteArray.size_extract, maxLen]; omega) _).mono ?_; rintro e w' ⟨rfl, rfl⟩; rw [Hbx.out]))
          refine ⟨⟨k + fr inRe ((bt s).drop k), by omega, by go_num, ?_⟩, by simp [intOf]; omega⟩
          rw [Hf.out, Hr.out]
          omega
        · have hb : ((s[k].toNat : Int) == 35) = false := by rw [beq_eq_false_iff_ne]; omega
          have Hq := Lib.hid (sk_stop s k hlt Hp.out hq)
          clear hq
          go_wp2_with (first | (go_at_call 36; refine (c_isBlank _ _).mono ?_; rintro e w' ⟨rfl, rfl⟩; rw [Hp.out]))
          go_ret
          have h1 := Hf.out
          have h2 := Hq.out
          exact ⟨ret_int (by omega), rfl⟩
      · have Hp := Lib.hid hp
        clear hp
        go_wp2_with (first | (go_at_call 36; refine (c_isBlank _ _).mono ?_; rintro e w' ⟨rfl, rfl⟩; rw [Hp.out]))
        go_round
        case rel => exact ⟨k + 1, by omega, by go_num, by rw [Hf.out, sk_blank s k hlt Hp.out]; omega⟩
        case measure => simp [intOf]; omega
    · go_wp2
      go_ret
      have h1 := Hf.out
      have h2 := sk_end s k (by omega)
      exact ⟨ret_int (by omega), rfl⟩
end Go.Proofs.Ytlfjhechploioaa
