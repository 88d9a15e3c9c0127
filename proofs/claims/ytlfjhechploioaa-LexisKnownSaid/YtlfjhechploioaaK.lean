/-
  DERIVED. The contracts of lexis.valid and of the reference's Right.
-/
import Derived.Test.YtlfjhechploioaaI
namespace Go.Proofs.Ytlfjhechploioaa
open Go.RowKit

/-- The token that is read from its text is the token itself. -/
def validT (t : Tok) : Bool :=
  ((readOf t.text).2 == 0) && (((readOf t.text).1.kind == t.kind) && (((readOf t.text).1.text.toList == t.text.toList) && ((readOf t.text).1.num == t.num)))

theorem read_off (s : ByteArray) : (readOf s).1.off = 0 := by
  unfold readOf nameOf numberOf
  split
  · rfl
  · split
    · split <;> rfl
    · split
      · split
        · rfl
        · split <;> rfl
      · split <;> rfl

set_option maxHeartbeats 400000 in
theorem c_valid (t : Tok) (hs : t.text.size ≤ maxLen) (w : World) :
    Calls Try.prog 21 #[.agg #[.int .u8 t.kind, .string t.text, .int .i64 t.num, .int .i64 t.off]] w fun e w' => e = .returned (.bool (validT t)) ∧ Below w.heap.size w w' := by
  have hrd := c_read t.text hs
  have ho := read_off t.text
  unfold validT
  generalize readOf t.text = r at hrd ho ⊢
  obtain ⟨⟨kd, tx, nm, of0⟩, er⟩ := r
  obtain ⟨kd2, tx2, nm2, of2⟩ := t
  dsimp only at hrd ho ⊢
  subst ho
  have Hrd := Lib.hid hrd
  clear hrd
  obtain ⟨bv, hbv⟩ : ∃ b, b = ((er == 0) && ((kd == kd2) && ((tx.toList == tx2.toList) && (nm == nm2)))) := ⟨_, rfl⟩
  rw [← hbv]
  have Hb := Lib.hid hbv
  clear hbv
  go_enter Try.func21, Try.ntmps21
  go_wp2_with (first | (go_at_call 26; refine (Hrd.out _).mono ?_; rintro e w1 ⟨rfl, hbl⟩; obtain ⟨⟨g0, g1, g2, g3⟩, ⟨f0, f1, f2, f3⟩, hsz⟩ := res4 hbl; simp only [Tok.val]))
  all_goals go_ret
  all_goals refine ⟨ret_bool (by rw [Hb.out]; simp [*]), ?_⟩
  all_goals exact ((((Below.refl _ w).alloc (Nat.le_refl _) _).trans (hbl.mono (by simp))).setCell (p := ⟨w.heap.size, 3, none⟩) (Nat.le_refl _) _).alloc (by have := hbl.size; simp at this ⊢; omega) _

theorem extract_all (s : ByteArray) : s.extract 0 s.size = s := by
  apply ByteArray.ext
  rw [ByteArray.data_extract]
  exact Array.extract_size

set_option maxHeartbeats 400000 in
theorem r_Right (t : Tok) (hs : t.text.size ≤ maxLen) (w : World) :
    Calls Try.prog 23 #[.agg #[.int .u8 t.kind, .string t.text, .int .i64 t.num, .int .i64 t.off]] w fun e w' => e = .returned (.bool (validT t)) ∧ Below w.heap.size w w' := by
  by_cases h0 : 0 < t.text.size
  · have hrd := r_one t.text hs 0 h0
    have hne := empty_no t.text h0
    unfold oneOf at hrd
    rw [extract_all] at hrd
    unfold validT
    generalize readOf t.text = r at hrd ⊢
    obtain ⟨⟨kd, tx, nm, of0⟩, er⟩ := r
    obtain ⟨kd2, tx2, nm2, of2⟩ := t
    dsimp only at hrd hne ⊢
    obtain ⟨bv, hbv⟩ : ∃ b, b = ((er == 0) && ((kd == kd2) && ((tx.toList == tx2.toList) && (nm == nm2)))) := ⟨_, rfl⟩
    rw [← hbv]
    have Hb := Lib.hid hbv
    clear hbv
    by_cases her : er = 0
    · subst her
      rw [if_pos rfl] at hrd
      have Hrd := Lib.hid hrd
      clear hrd
      go_enter Try.func23, Try.ntmps23
      go_wp2_with (first | (go_at_call 20; refine (Hrd.out _).mono ?_; rintro e w1 ⟨rfl, hbl⟩; obtain ⟨⟨g0, g1, g2, g3⟩, ⟨f0, f1, f2, f3⟩, hsz⟩ := res4 hbl; simp only [Tok.val]))
      all_goals go_ret
      all_goals refine ⟨ret_bool (by rw [Hb.out]; simp [*]), ?_⟩
      all_goals exact (((Below.refl _ w).alloc (Nat.le_refl _) _).trans (hbl.mono (by simp))).alloc (by have := hbl.size; simp at this ⊢; omega) _
    · rw [if_neg her] at hrd
      have hb : (er == 0) = false := by rw [beq_eq_false_iff_ne]; exact her
      have Hrd := Lib.hid hrd
      clear hrd her
      go_enter Try.func23, Try.ntmps23
      go_wp2_with (first | (go_at_call 20; refine (Hrd.out _).mono ?_; rintro e w1 ⟨rfl, hbl⟩; simp only [Tok.val]))
      all_goals go_ret
      all_goals refine ⟨ret_bool (by rw [Hb.out]; simp [*]), ?_⟩
      all_goals exact (((Below.refl _ w).alloc (Nat.le_refl _) _).trans (hbl.mono (by simp))).alloc (by have := hbl.size; simp at this ⊢; omega) _
  · have hne := empty_yes t.text h0
    have hv : validT t = false := by
      have : bt t.text = [] := List.eq_nil_of_length_eq_zero (by rw [bt_len]; omega)
      unfold validT readOf
      rw [this]
      rfl
    obtain ⟨kd2, tx2, nm2, of2⟩ := t
    rw [hv]
    clear hv
    dsimp only at hne ⊢
    go_enter Try.func23, Try.ntmps23
    go_wp2
    go_ret
    exact ⟨rfl, (Below.refl _ w).alloc (Nat.le_refl _) _⟩
end Go.Proofs.Ytlfjhechploioaa
