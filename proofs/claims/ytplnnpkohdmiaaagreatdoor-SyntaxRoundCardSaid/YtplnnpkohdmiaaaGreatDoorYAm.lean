/-
  DERIVED. Several texts in one.
-/
import Derived.Test.YtplnnpkohdmiaaaGreatDoorProg
import Derived.WalkKit
import Derived.BigQuiet
import Derived.Deep.QuietTactic
import Derived.Lib.Hide
import Derived.Laws.IdiomStrings
import Derived.Below
import Derived.Deep.DeepFit
set_option linter.unusedVariables false
set_option linter.unusedSimpArgs false

/- DERIVED. Leaf contracts of package lexis: the byte classes. -/
namespace Go.Proofs.YtplnnpkohdmiaaaGreatDoor
open Go.RowKit

def isBl (c : UInt8) : Bool := decide (c.toNat = 32) || decide (c.toNat = 9) || decide (c.toNat = 13) || decide (c.toNat = 10)
def isLe (c : UInt8) : Bool := decide (97 ≤ c.toNat) && decide (c.toNat ≤ 122)
def isDi (c : UInt8) : Bool := decide (48 ≤ c.toNat) && decide (c.toNat ≤ 57)
def isSi (c : UInt8) : Bool := decide (c.toNat = 123) || decide (c.toNat = 125) || decide (c.toNat = 59) || decide (c.toNat = 44)
def inNa (c : UInt8) : Bool := isLe c || isDi c || decide (c.toNat = 45)
def inRe (c : UInt8) : Bool := !decide (c.toNat = 10)

theorem ret_bool {a b : Bool} (h : a = b) : Ending.returned (.bool a) = .returned (.bool b) := by rw [h]

theorem c_isLetter (c : UInt8) (w : World) :
    Calls Tryz.prog 72 #[.int .u8 c.toNat] w fun e w' => e = .returned (.bool (isLe c)) ∧ w' = w := by
  go_enter Tryz.func72, Tryz.ntmps72
  go_wp2
  all_goals go_ret
  all_goals exact ⟨ret_bool (by unfold isLe; rw [Bool.eq_iff_iff]; simp; omega), rfl⟩

theorem c_isDigit (c : UInt8) (w : World) :
    Calls Tryz.prog 76 #[.int .u8 c.toNat] w fun e w' => e = .returned (.bool (isDi c)) ∧ w' = w := by
  go_enter Tryz.func76, Tryz.ntmps76
  go_wp2
  all_goals go_ret
  all_goals exact ⟨ret_bool (by unfold isDi; rw [Bool.eq_iff_iff]; simp; omega), rfl⟩

theorem c_isBlank (c : UInt8) (w : World) :
    Calls Tryz.prog 82 #[.int .u8 c.toNat] w fun e w' => e = .returned (.bool (isBl c)) ∧ w' = w := by
  go_enter Tryz.func82, Tryz.ntmps82
  go_wp2
  all_goals go_ret
  all_goals refine ⟨ret_bool ?_, rfl⟩
  all_goals (unfold isBl; rw [Bool.eq_iff_iff]; simp; try omega)

theorem c_inRemark (c : UInt8) (w : World) :
    Calls Tryz.prog 83 #[.int .u8 c.toNat] w fun e w' => e = .returned (.bool (inRe c)) ∧ w' = w := by
  go_enter Tryz.func83, Tryz.ntmps83
  go_wp2
  all_goals go_ret
  all_goals refine ⟨ret_bool ?_, rfl⟩
  all_goals (unfold inRe; rw [Bool.eq_iff_iff]; simp; try omega)

theorem c_inName (c : UInt8) (w : World) :
    Calls Tryz.prog 75 #[.int .u8 c.toNat] w fun e w' => e = .returned (.bool (inNa c)) ∧ w' = w := by
  go_enter Tryz.func75, Tryz.ntmps75
  go_wp2_with (first | (go_at_call 72; refine (c_isLetter _ _).mono ?_; rintro e w' ⟨rfl, rfl⟩) | (go_at_call 76; refine (c_isDigit _ _).mono ?_; rintro e w' ⟨rfl, rfl⟩))
  all_goals go_ret
  all_goals refine ⟨ret_bool ?_, rfl⟩
  all_goals (unfold inNa; simp only [*]; rw [Bool.eq_iff_iff]; simp; try omega)
end Go.Proofs.YtplnnpkohdmiaaaGreatDoor

/- DERIVED. The contracts of lexis.front at each of its three classes. -/
namespace Go.Proofs.YtplnnpkohdmiaaaGreatDoor
open Go.RowKit

/-- The number of bytes at the front of a list that are in a class. -/
def fr (p : UInt8 → Bool) : List UInt8 → Nat
  | [] => 0
  | c :: r => if p c then fr p r + 1 else 0
def bt (s : ByteArray) : List UInt8 := s.data.toList
theorem bt_len (s : ByteArray) : (bt s).length = s.size := by unfold bt; rw [Array.length_toList]; rfl
theorem bt_drop (s : ByteArray) (k : Nat) (h : k < s.size) : (bt s).drop k = s[k] :: (bt s).drop (k + 1) := by
  rw [List.drop_eq_getElem_cons (by rw [bt_len]; exact h)]; rfl
theorem fr_le (p : UInt8 → Bool) : ∀ l, fr p l ≤ l.length
  | [] => Nat.le_refl _
  | c :: r => by unfold fr; have := fr_le p r; split <;> simp <;> omega
theorem fr_yes (p : UInt8 → Bool) (s : ByteArray) (k : Nat) (h : k < s.size) (hp : p s[k] = true) : fr p ((bt s).drop k) = fr p ((bt s).drop (k + 1)) + 1 := by
  rw [bt_drop s k h, fr, if_pos hp]
theorem fr_no (p : UInt8 → Bool) (s : ByteArray) (k : Nat) (h : k < s.size) (hp : p s[k] = false) : fr p ((bt s).drop k) = 0 := by
  rw [bt_drop s k h, fr, if_neg (by simp [hp])]
theorem fr_end (p : UInt8 → Bool) (s : ByteArray) (k : Nat) (h : s.size ≤ k) : fr p ((bt s).drop k) = 0 := by
  rw [List.drop_of_length_le (by rw [bt_len]; exact h)]; rfl

set_option maxHeartbeats 400000 in
theorem c_front_inRe (s : ByteArray) (hs : s.size ≤ maxLen) (w : World) :
    Calls Tryz.prog 74 #[.string s, .func (.func 83) #[] #[]] w fun e w' => e = .returned (.string (s.extract 0 (fr inRe (bt s)))) ∧ w' = w := by
  unfold maxLen at hs
  go_enter Tryz.func74, Tryz.ntmps74
  go_wp2
  go_loop [5] (fun i => ∃ k : Nat, k ≤ s.size ∧ i = .int .i64 k ∧ fr inRe (bt s) = k + fr inRe ((bt s).drop k)) (fun i => s.size - (intOf i).toNat)
  case atStart => exact ⟨0, Nat.zero_le _, rfl, by simp⟩
  case round =>
    obtain ⟨k, hk, rfl, hf⟩ := hrel
    have Hf := Lib.hid hf
    clear hf
    by_cases hlt : k < s.size
    · cases hp : inRe s[k]
      · have Hp := Lib.hid hp
        clear hp
        go_wp2_with (first | (go_at_call 83; refine (c_inRemark _ _).mono ?_; rintro e w' ⟨rfl, rfl⟩; rw [Hp.out]))
        go_ret
        refine ⟨?_, rfl⟩
        rw [Hf.out, fr_no inRe s k hlt Hp.out]
        rfl
      · have Hp := Lib.hid hp
        clear hp
        go_wp2_with (first | (go_at_call 83; refine (c_inRemark _ _).mono ?_; rintro e w' ⟨rfl, rfl⟩; rw [Hp.out]))
        go_round
        case rel => exact ⟨k + 1, by omega, by go_num, by rw [Hf.out, fr_yes inRe s k hlt Hp.out]; omega⟩
        case measure => simp [intOf]; omega
    · go_wp2
      go_ret
      refine ⟨?_, rfl⟩
      rw [Hf.out, fr_end inRe s k (by omega)]
      rfl

set_option maxHeartbeats 400000 in
theorem c_front_inNa (s : ByteArray) (hs : s.size ≤ maxLen) (w : World) :
    Calls Tryz.prog 74 #[.string s, .func (.func 75) #[] #[]] w fun e w' => e = .returned (.string (s.extract 0 (fr inNa (bt s)))) ∧ w' = w := by
  unfold maxLen at hs
  go_enter Tryz.func74, Tryz.ntmps74
  go_wp2
  go_loop [5] (fun i => ∃ k : Nat, k ≤ s.size ∧ i = .int .i64 k ∧ fr inNa (bt s) = k + fr inNa ((bt s).drop k)) (fun i => s.size - (intOf i).toNat)
  case atStart => exact ⟨0, Nat.zero_le _, rfl, by simp⟩
  case round =>
    obtain ⟨k, hk, rfl, hf⟩ := hrel
    have Hf := Lib.hid hf
    clear hf
    by_cases hlt : k < s.size
    · cases hp : inNa s[k]
      · have Hp := Lib.hid hp
        clear hp
        go_wp2_with (first | (go_at_call 75; refine (c_inName _ _).mono ?_; rintro e w' ⟨rfl, rfl⟩; rw [Hp.out]))
        go_ret
        refine ⟨?_, rfl⟩
        rw [Hf.out, fr_no inNa s k hlt Hp.out]
        rfl
      · have Hp := Lib.hid hp
        clear hp
        go_wp2_with (first | (go_at_call 75; refine (c_inName _ _).mono ?_; rintro e w' ⟨rfl, rfl⟩; rw [Hp.out]))
        go_round
        case rel => exact ⟨k + 1, by omega, by go_num, by rw [Hf.out, fr_yes inNa s k hlt Hp.out]; omega⟩
        case measure => simp [intOf]; omega
    · go_wp2
      go_ret
      refine ⟨?_, rfl⟩
      rw [Hf.out, fr_end inNa s k (by omega)]
      rfl

set_option maxHeartbeats 400000 in
theorem c_front_isDi (s : ByteArray) (hs : s.size ≤ maxLen) (w : World) :
    Calls Tryz.prog 74 #[.string s, .func (.func 76) #[] #[]] w fun e w' => e = .returned (.string (s.extract 0 (fr isDi (bt s)))) ∧ w' = w := by
  unfold maxLen at hs
  go_enter Tryz.func74, Tryz.ntmps74
  go_wp2
  go_loop [5] (fun i => ∃ k : Nat, k ≤ s.size ∧ i = .int .i64 k ∧ fr isDi (bt s) = k + fr isDi ((bt s).drop k)) (fun i => s.size - (intOf i).toNat)
  case atStart => exact ⟨0, Nat.zero_le _, rfl, by simp⟩
  case round =>
    obtain ⟨k, hk, rfl, hf⟩ := hrel
    have Hf := Lib.hid hf
    clear hf
    by_cases hlt : k < s.size
    · cases hp : isDi s[k]
      · have Hp := Lib.hid hp
        clear hp
        go_wp2_with (first | (go_at_call 76; refine (c_isDigit _ _).mono ?_; rintro e w' ⟨rfl, rfl⟩; rw [Hp.out]))
        go_ret
        refine ⟨?_, rfl⟩
        rw [Hf.out, fr_no isDi s k hlt Hp.out]
        rfl
      · have Hp := Lib.hid hp
        clear hp
        go_wp2_with (first | (go_at_call 76; refine (c_isDigit _ _).mono ?_; rintro e w' ⟨rfl, rfl⟩; rw [Hp.out]))
        go_round
        case rel => exact ⟨k + 1, by omega, by go_num, by rw [Hf.out, fr_yes isDi s k hlt Hp.out]; omega⟩
        case measure => simp [intOf]; omega
    · go_wp2
      go_ret
      refine ⟨?_, rfl⟩
      rw [Hf.out, fr_end isDi s k (by omega)]
      rfl
end Go.Proofs.YtplnnpkohdmiaaaGreatDoor

/- DERIVED. The contract of lexis.skip. -/
namespace Go.Proofs.YtplnnpkohdmiaaaGreatDoor
open Go.RowKit

/-- How many bytes at the front belong to blanks and remarks; 'true': a remark has begun. -/
def sk : Bool → List UInt8 → Nat
  | _, [] => 0
  | true, c :: r => (if c.toNat = 10 then sk false r else sk true r) + 1
  | false, c :: r => if isBl c then sk false r + 1 else if c.toNat = 35 then sk true r + 1 else 0

theorem sk_le (b : Bool) (l : List UInt8) : sk b l ≤ l.length := by
  induction l generalizing b with
  | nil => cases b <;> simp [sk]
  | cons c r ih =>
    have h1 := ih true
    have h2 := ih false
    cases b <;> simp only [sk, List.length_cons] <;> (repeat' split) <;> omega

theorem sk_true : ∀ l, sk true l = fr inRe l + sk false (l.drop (fr inRe l))
  | [] => rfl
  | c :: r => by
    by_cases h : c.toNat = 10
    · have hi : inRe c = false := by simp [inRe, h]
      have hb : isBl c = true := by simp [isBl, h]
      simp [sk, fr, h, hi, hb]
    · have hi : inRe c = true := by simp [inRe, h]
      have := sk_true r
      simp only [sk, fr, if_neg h, if_pos hi, List.drop_succ_cons]
      omega

theorem bt_extract (s : ByteArray) (a : Nat) : bt (s.extract a s.size) = (bt s).drop a := by
  unfold bt
  rw [ByteArray.data_extract, Array.toList_extract]
  simp [List.extract]
  exact List.take_of_length_le (by simp)

theorem sk_blank (s : ByteArray) (k : Nat) (h : k < s.size) (hp : isBl s[k] = true) : sk false ((bt s).drop k) = sk false ((bt s).drop (k + 1)) + 1 := by
  rw [bt_drop s k h]; simp [sk, hp]
theorem sk_remark (s : ByteArray) (k : Nat) (h : k < s.size) (hp : isBl s[k] = false) (hq : s[k].toNat = 35) :
    0 < fr inRe ((bt s).drop k) ∧ sk false ((bt s).drop k) = fr inRe ((bt s).drop k) + sk false ((bt s).drop (k + fr inRe ((bt s).drop k))) := by
  have hi : inRe s[k] = true := by simp [inRe, hq]
  have h0 := bt_drop s k h
  have h1 : fr inRe ((bt s).drop k) = fr inRe ((bt s).drop (k + 1)) + 1 := fr_yes inRe s k h hi
  refine ⟨by omega, ?_⟩
  have h2 := sk_true ((bt s).drop (k + 1))
  rw [List.drop_drop] at h2
  rw [h1, h0]
  simp only [sk, hp, hq, if_true, Bool.false_eq_true, if_false]
  rw [h2, show k + (fr inRe ((bt s).drop (k + 1)) + 1) = k + 1 + fr inRe ((bt s).drop (k + 1)) from by omega]
  omega
theorem sk_stop (s : ByteArray) (k : Nat) (h : k < s.size) (hp : isBl s[k] = false) (hq : ¬ s[k].toNat = 35) : sk false ((bt s).drop k) = 0 := by
  rw [bt_drop s k h]; simp [sk, hp, hq]
theorem sk_end (s : ByteArray) (k : Nat) (h : s.size ≤ k) : sk false ((bt s).drop k) = 0 := by
  rw [List.drop_of_length_le (by rw [bt_len]; exact h)]; rfl

theorem ret_int {k : IntKind} {a b : Int} (h : a = b) : Ending.returned (.int k a) = .returned (.int k b) := by rw [h]

set_option maxHeartbeats 400000 in
theorem c_skip (s : ByteArray) (hs : s.size ≤ maxLen) (a : Nat) (ha : a ≤ s.size) (w : World) :
    Calls Tryz.prog 63 #[.string s, .int .i64 a] w fun e w' => e = .returned (.int .i64 ((a : Int) + (sk false ((bt s).drop a) : Int))) ∧ w' = w := by
  unfold maxLen at hs
  go_enter Tryz.func63, Tryz.ntmps63
  go_wp2
  go_loop [1] (fun i => ∃ k : Nat, k ≤ s.size ∧ i = .int .i64 k ∧ a + sk false ((bt s).drop a) = k + sk false ((bt s).drop k)) (fun i => s.size - (intOf i).toNat)
  case atStart => exact ⟨a, ha, rfl, rfl⟩
  case round =>
    obtain ⟨k, hk, rfl, hf⟩ := hrel
    have Hf := Lib.hid hf
    clear hf
    by_cases hlt : k < s.size
    · cases hp : isBl s[k]
      · have Hp := Lib.hid hp
        clear hp
        have hfl := fr_le inRe ((bt s).drop k)
        rw [List.length_drop, bt_len] at hfl
        have hbx := bt_extract s k
        have Hbx := Lib.hid hbx
        clear hbx
        by_cases hq : s[k].toNat = 35
        · have hb : ((s[k].toNat : Int) == 35) = true := by rw [beq_iff_eq]; omega
          have hr := sk_remark s k hlt Hp.out hq
          have hr0 := hr.1
          have Hr := Lib.hid hr.2
          clear hr hq
          go_wp2_with (first | (go_at_call 82; refine (c_isBlank _ _).mono ?_; rintro e w' ⟨rfl, rfl⟩; rw [Hp.out]) | (go_at_call 74; refine (c_front_inRe _ (by simp only [ByteArray.size_extract, maxLen]; omega) _).mono ?_; rintro e w' ⟨rfl, rfl⟩; rw [Hbx.out]))
          refine ⟨⟨k + fr inRe ((bt s).drop k), by omega, by go_num, ?_⟩, by simp [intOf]; omega⟩
          rw [Hf.out, Hr.out]
          omega
        · have hb : ((s[k].toNat : Int) == 35) = false := by rw [beq_eq_false_iff_ne]; omega
          have Hq := Lib.hid (sk_stop s k hlt Hp.out hq)
          clear hq
          go_wp2_with (first | (go_at_call 82; refine (c_isBlank _ _).mono ?_; rintro e w' ⟨rfl, rfl⟩; rw [Hp.out]))
          go_ret
          have h1 := Hf.out
          have h2 := Hq.out
          exact ⟨ret_int (by omega), rfl⟩
      · have Hp := Lib.hid hp
        clear hp
        go_wp2_with (first | (go_at_call 82; refine (c_isBlank _ _).mono ?_; rintro e w' ⟨rfl, rfl⟩; rw [Hp.out]))
        go_round
        case rel => exact ⟨k + 1, by omega, by go_num, by rw [Hf.out, sk_blank s k hlt Hp.out]; omega⟩
        case measure => simp [intOf]; omega
    · go_wp2
      go_ret
      have h1 := Hf.out
      have h2 := sk_end s k (by omega)
      exact ⟨ret_int (by omega), rfl⟩
end Go.Proofs.YtplnnpkohdmiaaaGreatDoor

/- DERIVED. The contracts of lexis.name, lexis.number, lexis.isSign, lexis.read. -/
namespace Go.Proofs.YtplnnpkohdmiaaaGreatDoor
open Go.RowKit

theorem c_isSign (c : UInt8) (w : World) :
    Calls Tryz.prog 78 #[.int .u8 c.toNat] w fun e w' => e = .returned (.bool (isSi c)) ∧ w' = w := by
  go_enter Tryz.func78, Tryz.ntmps78
  go_wp2
  all_goals go_ret
  all_goals refine ⟨ret_bool ?_, rfl⟩
  all_goals (unfold isSi; rw [Bool.eq_iff_iff]; simp; try omega)

/-- A token as the program holds it. -/
structure Tok where
  kind : Int
  text : ByteArray
  num : Int
  off : Int
def Tok.zero : Tok := ⟨0, ⟨#[]⟩, 0, 0⟩
def Tok.val (t : Tok) : Value := .agg #[.int .u8 t.kind, .string t.text, .int .i64 t.num, .int .i64 t.off]
def Tok.cells (t : Tok) : List Value := [.int .u8 t.kind, .string t.text, .int .i64 t.num, .int .i64 t.off]

def nameOf (s : ByteArray) : Tok × Int := if 12 < s.size then (.zero, 3) else (⟨1, s, 0, 0⟩, 0)
def nv (l : List UInt8) : Nat := l.foldl (fun n c => 10 * n + (c.toNat - 48)) 0
def numberOf (s : ByteArray) : Tok × Int :=
  if 1 < s.size ∧ (bt s).head? = some 48 then (.zero, 4) else if 9 < s.size then (.zero, 3) else (⟨2, s, nv (bt s), 0⟩, 0)

def Two (r : Tok × Int) (w : World) (e : Ending) (w' : World) : Prop := e = .returned (.tuple #[r.1.val, .int .i64 r.2]) ∧ Below w.heap.size w w'

theorem c_name (s : ByteArray) (hs : s.size ≤ maxLen) (w : World) :
    Calls Tryz.prog 73 #[.string s] w (Two (nameOf s) w) := by
  unfold maxLen at hs
  by_cases h : 12 < s.size
  · have hv : nameOf s = (.zero, 3) := by unfold nameOf; rw [if_pos h]
    rw [hv]
    go_enter Tryz.func73, Tryz.ntmps73
    go_wp2
    exact bodyPost_ret (v := .tuple #[Tok.val .zero, .int .i64 3]) (by simp [results, Tryz.results73, Tok.val, Tok.zero, go_sem]) rfl ⟨rfl, (Below.refl _ _).alloc (Nat.le_refl _) _⟩
  · have hv : nameOf s = (⟨1, s, 0, 0⟩, 0) := by unfold nameOf; rw [if_neg h]
    rw [hv]
    go_enter Tryz.func73, Tryz.ntmps73
    go_wp2
    exact bodyPost_ret (v := .tuple #[Tok.val ⟨1, s, 0, 0⟩, .int .i64 0]) (by simp [results, Tryz.results73, Tok.val, go_sem]) rfl ⟨rfl, (Below.refl _ _).alloc (Nat.le_refl _) _⟩

theorem nv_snoc (l : List UInt8) (c : UInt8) : nv (l ++ [c]) = 10 * nv l + (c.toNat - 48) := by unfold nv; rw [List.foldl_append]; rfl
theorem snoc_ind {α : Type} {P : List α → Prop} (h0 : P []) (h1 : ∀ l c, P l → P (l ++ [c])) (l : List α) : P l := by
  have h : ∀ r : List α, P r.reverse := by
    intro r
    induction r with
    | nil => exact h0
    | cons c r ih => rw [List.reverse_cons]; exact h1 _ _ ih
  have := h l.reverse
  rwa [List.reverse_reverse] at this
theorem nv_lt (l : List UInt8) : (∀ c ∈ l, isDi c = true) → nv l < 10 ^ l.length := by
  induction l using snoc_ind with
  | h0 => intro _; simp [nv]
  | h1 l c ih =>
    intro h
    have h1 := ih (fun c hc => h c (by simp [hc]))
    have h2 := h c (by simp)
    simp [isDi] at h2
    rw [nv_snoc, List.length_append, List.length_singleton, Nat.pow_succ]
    omega

theorem take_snoc (s : ByteArray) (k : Nat) (h : k < s.size) : (bt s).take (k + 1) = (bt s).take k ++ [s[k]] := by
  rw [List.take_succ_eq_append_getElem (by rw [bt_len]; exact h)]; rfl

set_option maxHeartbeats 400000 in
theorem c_number (s : ByteArray) (hs : s.size ≤ maxLen) (h0 : 0 < s.size) (hd : ∀ c ∈ bt s, isDi c = true) (w : World) :
    Calls Tryz.prog 77 #[.string s] w (Two (numberOf s) w) := by
  unfold maxLen at hs
  have hh : (bt s).head? = some s[0] := by
    have := bt_drop s 0 h0
    rw [List.drop_zero] at this
    rw [this]; rfl
  have Hh := Lib.hid hh
  clear hh
  by_cases h1 : 1 < s.size ∧ s[0].toNat = 48
  · have hv : numberOf s = (.zero, 4) := by
      unfold numberOf; rw [if_pos ⟨h1.1, by rw [Hh.out]; congr 1; exact UInt8.toNat_inj.1 h1.2⟩]
    rw [hv]
    obtain ⟨h1, h2⟩ := h1
    have hb : ((s[0].toNat : Int) == 48) = true := by rw [beq_iff_eq]; omega
    clear h2 hd hv
    go_enter Tryz.func77, Tryz.ntmps77
    go_wp2
    exact bodyPost_ret (v := .tuple #[Tok.val .zero, .int .i64 4]) (by simp [results, Tryz.results77, Tok.val, Tok.zero, go_sem]) rfl ⟨rfl, (Below.refl _ _).alloc (Nat.le_refl _) _⟩
  · have hn : ¬ (1 < s.size ∧ (bt s).head? = some 48) := by
      rintro ⟨a, b⟩
      rw [Hh.out] at b
      injection b with b
      exact h1 ⟨a, by rw [b]; rfl⟩
    by_cases h9 : 9 < s.size
    · have hv : numberOf s = (.zero, 3) := by unfold numberOf; rw [if_neg hn, if_pos h9]
      rw [hv]
      have hb : ((s[0].toNat : Int) == 48) = false := by rw [beq_eq_false_iff_ne]; intro h; exact h1 ⟨by omega, by omega⟩
      clear hn hd hv h1
      go_enter Tryz.func77, Tryz.ntmps77
      go_wp2
      exact bodyPost_ret (v := .tuple #[Tok.val .zero, .int .i64 3]) (by simp [results, Tryz.results77, Tok.val, Tok.zero, go_sem]) rfl ⟨rfl, (Below.refl _ _).alloc (Nat.le_refl _) _⟩
    · have hv : numberOf s = (⟨2, s, nv (bt s), 0⟩, 0) := by unfold numberOf; rw [if_neg hn, if_neg h9]
      rw [hv]
      have hb : (decide (1 < s.size) && ((s[0].toNat : Int) == 48)) = false := by
        rw [Bool.and_eq_false_iff]
        by_cases h : 1 < s.size
        · right; rw [beq_eq_false_iff_ne]; intro h2; exact h1 ⟨h, by omega⟩
        · left; simpa using h
      have hm : nv (bt s) < 1000000000 := by
        refine Nat.lt_of_lt_of_le (nv_lt _ hd) ?_
        rw [bt_len]
        exact Nat.pow_le_pow_right (by omega) (by omega : s.size ≤ 9)
      clear hn hv h1
      obtain ⟨CP, hconv⟩ : ∃ CP : World → Nat, ∀ W : World, (convert 9 91 (.string s)).run Tryz.prog W = .ok (.slice (some ⟨W.heap.size, 0, none⟩) s.size (CP W))
          (W.alloc (.cells (bytesRow s (CP W)) 5 ((bytesRow s (CP W)).size, (bytesRow s (CP W)).size + 1))).drew :=
        ⟨fun W => grownCap W s.size 0 5, fun W => run_bytes_of_string W 9 91 5 s Tryz.underlying9 Tryz.underlying91 Tryz.underlying5⟩
      by_cases hs1 : 1 < s.size
      · have hb2 : ((s[0].toNat : Int) == 48) = false := by simpa [hs1] using hb
        clear hb
        go_enter Tryz.func77, Tryz.ntmps77
        go_wp2
        generalize CP _ = cap
        have hcells : ∀ k (hk : k < s.size), ((w.alloc (.cells #[.int .u8 0, .string { data := #[] }, .int .i64 0, .int .i64 0] 62)).alloc
            (.cells (bytesRow s cap) 5 ((bytesRow s cap).size, (bytesRow s cap).size + 1))).cell? ⟨w.heap.size + 1, k, none⟩ = some (.int .u8 (s[k].toNat : Int)) := fun k hk => by
          have h := World.cell?_alloc_mark (w.alloc (.cells #[.int .u8 0, .string { data := #[] }, .int .i64 0, .int .i64 0] 62)) (bytesRow s cap) 5 ((bytesRow s cap).size, (bytesRow s cap).size + 1) k
          rw [World.size_alloc] at h
          exact h.trans (bytesRow_at s cap k hk)
        have Hc := Lib.hid hcells
        clear hcells
        have Hd := Lib.hid hd
        clear hd
        go_loop [4, 23] (fun n i => ∃ k : Nat, k ≤ s.size ∧ i = .int .i64 k ∧ n = .int .i64 (nv ((bt s).take k) : Nat)) (fun _ i => s.size - (intOf i).toNat)
        case atStart => exact ⟨0, Nat.zero_le _, rfl, rfl⟩
        case round =>
          obtain ⟨k, hk, rfl, rfl⟩ := hrel
          by_cases hlt : k < s.size
          · have hc := Hc.out k hlt
            have hm2 : nv ((bt s).take k) < 1000000000 := by
              refine Nat.lt_of_lt_of_le (nv_lt _ (fun c hc => Hd.out c (List.mem_of_mem_take hc))) (Nat.pow_le_pow_right (by omega) (?_ : _ ≤ 9))
              rw [List.length_take]; omega
            have hdi := Hd.out s[k] (by have := bt_drop s k hlt; exact List.mem_of_mem_drop (this ▸ List.mem_cons_self))
            simp only [isDi, Bool.and_eq_true, decide_eq_true_eq] at hdi
            obtain ⟨hd1, hd2⟩ := hdi
            have hts : nv ((bt s).take (k + 1)) = 10 * nv ((bt s).take k) + (s[k].toNat - 48) := by rw [take_snoc s k hlt, nv_snoc]
            have Hts := Lib.hid hts
            clear hts
            go_wp2
            go_round
            case rel => exact ⟨k + 1, by omega, by go_num, by rw [Hts.out]; congr 1; omega⟩
            case measure => simp [intOf]; omega
          · go_wp2
            have hk2 : (bt s).take k = bt s := List.take_of_length_le (by rw [bt_len]; omega)
            rw [hk2]
            exact bodyPost_ret (v := .tuple #[Tok.val ⟨2, s, nv (bt s), 0⟩, .int .i64 0]) (by simp [results, Tryz.results77, Tok.val, go_sem]) rfl ⟨rfl, (((Below.refl _ _).alloc (Nat.le_refl _) _).alloc (by simp) _).drew⟩
      · have hb2 : decide (1 < s.size) = false := by simpa using hs1
        clear hb
        go_enter Tryz.func77, Tryz.ntmps77
        go_wp2
        generalize CP _ = cap
        have hcells : ∀ k (hk : k < s.size), ((w.alloc (.cells #[.int .u8 0, .string { data := #[] }, .int .i64 0, .int .i64 0] 62)).alloc
            (.cells (bytesRow s cap) 5 ((bytesRow s cap).size, (bytesRow s cap).size + 1))).cell? ⟨w.heap.size + 1, k, none⟩ = some (.int .u8 (s[k].toNat : Int)) := fun k hk => by
          have h := World.cell?_alloc_mark (w.alloc (.cells #[.int .u8 0, .string { data := #[] }, .int .i64 0, .int .i64 0] 62)) (bytesRow s cap) 5 ((bytesRow s cap).size, (bytesRow s cap).size + 1) k
          rw [World.size_alloc] at h
          exact h.trans (bytesRow_at s cap k hk)
        have Hc := Lib.hid hcells
        clear hcells
        have Hd := Lib.hid hd
        clear hd
        go_loop [4, 23] (fun n i => ∃ k : Nat, k ≤ s.size ∧ i = .int .i64 k ∧ n = .int .i64 (nv ((bt s).take k) : Nat)) (fun _ i => s.size - (intOf i).toNat)
        case atStart => exact ⟨0, Nat.zero_le _, rfl, rfl⟩
        case round =>
          obtain ⟨k, hk, rfl, rfl⟩ := hrel
          by_cases hlt : k < s.size
          · have hc := Hc.out k hlt
            have hm2 : nv ((bt s).take k) < 1000000000 := by
              refine Nat.lt_of_lt_of_le (nv_lt _ (fun c hc => Hd.out c (List.mem_of_mem_take hc))) (Nat.pow_le_pow_right (by omega) (?_ : _ ≤ 9))
              rw [List.length_take]; omega
            have hdi := Hd.out s[k] (by have := bt_drop s k hlt; exact List.mem_of_mem_drop (this ▸ List.mem_cons_self))
            simp only [isDi, Bool.and_eq_true, decide_eq_true_eq] at hdi
            obtain ⟨hd1, hd2⟩ := hdi
            have hts : nv ((bt s).take (k + 1)) = 10 * nv ((bt s).take k) + (s[k].toNat - 48) := by rw [take_snoc s k hlt, nv_snoc]
            have Hts := Lib.hid hts
            clear hts
            go_wp2
            go_round
            case rel => exact ⟨k + 1, by omega, by go_num, by rw [Hts.out]; congr 1; omega⟩
            case measure => simp [intOf]; omega
          · go_wp2
            have hk2 : (bt s).take k = bt s := List.take_of_length_le (by rw [bt_len]; omega)
            rw [hk2]
            exact bodyPost_ret (v := .tuple #[Tok.val ⟨2, s, nv (bt s), 0⟩, .int .i64 0]) (by simp [results, Tryz.results77, Tok.val, go_sem]) rfl ⟨rfl, (((Below.refl _ _).alloc (Nat.le_refl _) _).alloc (by simp) _).drew⟩

end Go.Proofs.YtplnnpkohdmiaaaGreatDoor

/- DERIVED. The contract of lexis.read. -/
namespace Go.Proofs.YtplnnpkohdmiaaaGreatDoor
open Go.RowKit

def readOf (s : ByteArray) : Tok × Int :=
  match (bt s).head? with
  | none => (.zero, 4)
  | some c =>
    if isLe c then nameOf (s.extract 0 (fr inNa (bt s)))
    else if isDi c then numberOf (s.extract 0 (fr isDi (bt s)))
    else if isSi c then (⟨3, s.extract 0 1, 0, 0⟩, 0)
    else (.zero, 4)

theorem bt_head (s : ByteArray) (h : 0 < s.size) : (bt s).head? = some s[0] := by
  have := bt_drop s 0 h
  rw [List.drop_zero] at this
  rw [this]; rfl
theorem bt_take (s : ByteArray) (n : Nat) : bt (s.extract 0 n) = (bt s).take n := by
  unfold bt
  rw [ByteArray.data_extract, Array.toList_extract]
  simp [List.extract]
theorem fr_all (p : UInt8 → Bool) : ∀ l : List UInt8, ∀ c ∈ l.take (fr p l), p c = true
  | [] => by simp [fr]
  | c :: r => by
    by_cases h : p c = true
    · simp only [fr, if_pos h, List.take_succ_cons, List.mem_cons]
      rintro x (rfl | hx)
      · exact h
      · exact fr_all p r x hx
    · simp [fr, h]

theorem empty_no (s : ByteArray) (h : 0 < s.size) : s.toList.isEmpty = false := by
  rw [ByteArray.toList_eq, List.isEmpty_eq_false_iff]
  intro h2
  have := bt_len s
  unfold bt at this
  rw [h2] at this
  simp at this
  omega
theorem empty_yes (s : ByteArray) (h : ¬ 0 < s.size) : s.toList.isEmpty = true := by
  rw [ByteArray.toList_eq, List.isEmpty_iff]
  have := bt_len s
  unfold bt at this
  exact List.eq_nil_of_length_eq_zero (by omega)

/-- A result's block is as it was laid, behind a call that leaves what lay. -/
theorem res4 {w w' : World} {a b c d : Value} {t : TypeId} (hb : Below (w.alloc (.cells #[a, b, c, d] t)).heap.size (w.alloc (.cells #[a, b, c, d] t)) w') :
    (w'.cell? ⟨w.heap.size, 0, none⟩ = some a ∧ w'.cell? ⟨w.heap.size, 1, none⟩ = some b ∧ w'.cell? ⟨w.heap.size, 2, none⟩ = some c ∧ w'.cell? ⟨w.heap.size, 3, none⟩ = some d) ∧
    (w'.frozen? ⟨w.heap.size, 0, none⟩ = false ∧ w'.frozen? ⟨w.heap.size, 1, none⟩ = false ∧ w'.frozen? ⟨w.heap.size, 2, none⟩ = false ∧ w'.frozen? ⟨w.heap.size, 3, none⟩ = false) ∧ w.heap.size < w'.heap.size := by
  have h1 : ∀ i, w'.cell? ⟨w.heap.size, i, none⟩ = #[a, b, c, d][i]? := fun i => by
    rw [hb.cell (p := ⟨w.heap.size, i, none⟩) (by simp)]
    exact World.cell?_alloc_mark w _ _ _ _
  have h2 : ∀ i, w'.frozen? ⟨w.heap.size, i, none⟩ = false := fun i => by
    rw [hb.frozen (p := ⟨w.heap.size, i, none⟩) (by simp)]
    have := World.frozen?_alloc_mark w #[a, b, c, d] t 0 0 i
    rw [this]; simp
  have := hb.size
  simp at this
  exact ⟨⟨h1 0, h1 1, h1 2, h1 3⟩, ⟨h2 0, h2 1, h2 2, h2 3⟩, by omega⟩

theorem set4 {w w' : World} {o : Obj} (hb : Below (w.alloc o).heap.size (w.alloc o) w') (a b c d : Value) :
    Below w.heap.size w ((((w'.setCell ⟨w.heap.size, 0, none⟩ a).setCell ⟨w.heap.size, 1, none⟩ b).setCell ⟨w.heap.size, 2, none⟩ c).setCell ⟨w.heap.size, 3, none⟩ d) :=
  ((((((Below.refl _ _).alloc (Nat.le_refl _) _).trans (hb.mono (by simp))).setCell (p := ⟨w.heap.size, 0, none⟩) (Nat.le_refl _) _).setCell (p := ⟨w.heap.size, 1, none⟩) (Nat.le_refl _) _).setCell (p := ⟨w.heap.size, 2, none⟩) (Nat.le_refl _) _).setCell (p := ⟨w.heap.size, 3, none⟩) (Nat.le_refl _) _

set_option maxHeartbeats 400000 in
theorem c_read (s : ByteArray) (hs : s.size ≤ maxLen) (w : World) :
    Calls Tryz.prog 53 #[.string s] w (Two (readOf s) w) := by
  have Hm := Lib.hid hs
  unfold maxLen at hs
  by_cases h0 : 0 < s.size
  · have hh := bt_head s h0
    have hse := empty_no s h0
    cases hl : isLe s[0]
    · cases hdg : isDi s[0]
      · cases hsg : isSi s[0]
        · have hv : readOf s = (.zero, 4) := by unfold readOf; rw [hh]; simp [hl, hdg, hsg]
          rw [hv]
          have Hl := Lib.hid hl
          have Hd := Lib.hid hdg
          have Hs := Lib.hid hsg
          clear hl hdg hsg hh hv
          go_enter Tryz.func53, Tryz.ntmps53
          go_wp2_with (first | (go_at_call 72; refine (c_isLetter _ _).mono ?_; rintro e w' ⟨rfl, rfl⟩; rw [Hl.out]) | (go_at_call 76; refine (c_isDigit _ _).mono ?_; rintro e w' ⟨rfl, rfl⟩; rw [Hd.out]) | (go_at_call 78; refine (c_isSign _ _).mono ?_; rintro e w' ⟨rfl, rfl⟩; rw [Hs.out]))
          exact bodyPost_ret (v := .tuple #[Tok.val .zero, .int .i64 4]) (by simp [results, Tryz.results53, Tok.val, Tok.zero, go_sem]) rfl ⟨rfl, (Below.refl _ _).alloc (Nat.le_refl _) _⟩
        · have hv : readOf s = (⟨3, s.extract 0 1, 0, 0⟩, 0) := by unfold readOf; rw [hh]; simp [hl, hdg, hsg]
          rw [hv]
          have Hl := Lib.hid hl
          have Hd := Lib.hid hdg
          have Hs := Lib.hid hsg
          clear hl hdg hsg hh hv
          go_enter Tryz.func53, Tryz.ntmps53
          go_wp2_with (first | (go_at_call 72; refine (c_isLetter _ _).mono ?_; rintro e w' ⟨rfl, rfl⟩; rw [Hl.out]) | (go_at_call 76; refine (c_isDigit _ _).mono ?_; rintro e w' ⟨rfl, rfl⟩; rw [Hd.out]) | (go_at_call 78; refine (c_isSign _ _).mono ?_; rintro e w' ⟨rfl, rfl⟩; rw [Hs.out]))
          exact bodyPost_ret (v := .tuple #[Tok.val ⟨3, s.extract 0 1, 0, 0⟩, .int .i64 0]) (by simp [results, Tryz.results53, Tok.val, go_sem]) rfl ⟨rfl, (Below.refl _ _).alloc (Nat.le_refl _) _⟩
      · have hv : readOf s = numberOf (s.extract 0 (fr isDi (bt s))) := by unfold readOf; rw [hh]; simp [hl, hdg]
        rw [hv]
        have hf : 0 < fr isDi (bt s) := by
          have := fr_yes isDi s 0 h0 hdg
          rw [List.drop_zero] at this; omega
        have hfl := fr_le isDi (bt s)
        rw [bt_len] at hfl
        have hc := c_number (s.extract 0 (fr isDi (bt s))) (by simp only [ByteArray.size_extract, maxLen]; omega) (by simp only [ByteArray.size_extract]; omega) (by rw [bt_take]; exact fr_all isDi _)
        generalize numberOf (s.extract 0 (fr isDi (bt s))) = r at hc ⊢
        obtain ⟨t, x⟩ := r
        obtain ⟨k0, t0, n0, o0⟩ := t
        have Hl := Lib.hid hl
        have Hd := Lib.hid hdg
        have HC := Lib.hid hc
        clear hl hdg hh hv hc
        go_enter Tryz.func53, Tryz.ntmps53
        go_wp2_with (first | (go_at_call 72; refine (c_isLetter _ _).mono ?_; rintro e w' ⟨rfl, rfl⟩; rw [Hl.out]) | (go_at_call 74; refine (c_front_isDi _ Hm.out _).mono ?_; rintro e w' ⟨rfl, rfl⟩) | (go_at_call 76; refine (c_isDigit _ _).mono ?_; rintro e w' ⟨rfl, rfl⟩; rw [Hd.out]) | (go_at_call 77; refine (HC.out _).mono ?_; rintro e w' ⟨rfl, hb⟩; obtain ⟨⟨g0, g1, g2, g3⟩, ⟨f0, f1, f2, f3⟩, hsz⟩ := res4 hb; simp only [Tok.val]))
        exact bodyPost_ret (v := .tuple #[Tok.val ⟨k0, t0, n0, o0⟩, .int .i64 x]) (by simp [results, Tryz.results53, Tok.val, go_sem, g0, g1, g2, g3]) rfl ⟨rfl, set4 hb _ _ _ _⟩
    · have hv : readOf s = nameOf (s.extract 0 (fr inNa (bt s))) := by unfold readOf; rw [hh]; simp [hl]
      rw [hv]
      have hfl := fr_le inNa (bt s)
      rw [bt_len] at hfl
      have hc := c_name (s.extract 0 (fr inNa (bt s))) (by simp only [ByteArray.size_extract, maxLen]; omega)
      generalize nameOf (s.extract 0 (fr inNa (bt s))) = r at hc ⊢
      obtain ⟨t, x⟩ := r
      obtain ⟨k0, t0, n0, o0⟩ := t
      have Hl := Lib.hid hl
      have HC := Lib.hid hc
      clear hl hh hv hc
      go_enter Tryz.func53, Tryz.ntmps53
      go_wp2_with (first | (go_at_call 72; refine (c_isLetter _ _).mono ?_; rintro e w' ⟨rfl, rfl⟩; rw [Hl.out]) | (go_at_call 74; refine (c_front_inNa _ Hm.out _).mono ?_; rintro e w' ⟨rfl, rfl⟩) | (go_at_call 73; refine (HC.out _).mono ?_; rintro e w' ⟨rfl, hb⟩; obtain ⟨⟨g0, g1, g2, g3⟩, ⟨f0, f1, f2, f3⟩, hsz⟩ := res4 hb; simp only [Tok.val]))
      exact bodyPost_ret (v := .tuple #[Tok.val ⟨k0, t0, n0, o0⟩, .int .i64 x]) (by simp [results, Tryz.results53, Tok.val, go_sem, g0, g1, g2, g3]) rfl ⟨rfl, set4 hb _ _ _ _⟩
  · have hv : readOf s = (.zero, 4) := by
      unfold readOf
      rw [show bt s = [] from List.eq_nil_of_length_eq_zero (by rw [bt_len]; omega)]; rfl
    rw [hv]
    have hse := empty_yes s h0
    clear hv
    go_enter Tryz.func53, Tryz.ntmps53
    go_wp2
    exact bodyPost_ret (v := .tuple #[Tok.val .zero, .int .i64 4]) (by simp [results, Tryz.results53, Tok.val, Tok.zero, go_sem]) rfl ⟨rfl, (Below.refl _ _).alloc (Nat.le_refl _) _⟩
end Go.Proofs.YtplnnpkohdmiaaaGreatDoor
