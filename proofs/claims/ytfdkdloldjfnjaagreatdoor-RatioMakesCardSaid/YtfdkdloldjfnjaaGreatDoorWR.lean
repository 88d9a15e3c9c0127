/-
  DERIVED. Plain: what the reference reads.
-/
import Derived.Test.YtfdkdloldjfnjaaGreatDoorUX
import Derived.Test.YtfdkdloldjfnjaaGreatDoorUW
import Derived.Test.YtfdkdloldjfnjaaGreatDoorUP
set_option linter.unusedVariables false
set_option linter.unusedSimpArgs false
namespace Go.Proofs.YtfdkdloldjfnjaaGreatDoor
open Go.RowKit Go.Shelf
set_option maxRecDepth 100000

theorem foldl_ge : ∀ (q : List UInt8) (a : Nat), a ≤ q.foldl (fun n c => n * 10 + (c.toNat - 48)) a
  | [], a => Nat.le_refl a
  | c :: q, a => Nat.le_trans (by omega) (foldl_ge q (a * 10 + (c.toNat - 48)))
theorem nvl_take_le (l : List UInt8) (j : Nat) : nvl (l.take j) ≤ nvl l := by
  unfold nvl
  have h := foldl_ge (l.drop j) ((l.take j).foldl (fun n c => n * 10 + (c.toNat - 48)) 0)
  rw [← List.foldl_append, List.take_append_drop] at h
  exact h
theorem dg_dec {m : Nat} (h : (nat m).length ≤ 32) : dgOk (Lib.decDigits m) := by
  have h1 := numOk_dec (lim_pow h)
  unfold numOk at h1
  rw [Bool.and_eq_true] at h1
  refine ⟨fun c hc => List.all_eq_true.1 h1.2 c hc, fun j _ => ?_⟩
  have := nvl_take_le (Lib.decDigits m) j
  rw [nvl_dec] at this
  exact nat_len_le.2 (Nat.lt_of_le_of_lt this (nat_len_le.1 h))
/-- Where the slash is. -/
theorem slash_at {a b tl : List UInt8} (ht : tl = a ++ 47 :: b) (ha : ∀ c ∈ a, c ≠ 47) {k : Nat} (hk : k ≤ tl.length) (hb : ∀ j, j < k → tl.getD j 0 ≠ 47) (he : k = tl.length ∨ tl.getD k 0 = 47) : k = a.length := by
  subst ht
  rcases Nat.lt_trichotomy k a.length with h | h | h
  · exfalso
    rcases he with he | he
    · rw [List.length_append, List.length_cons] at he; omega
    · rw [List.getD_eq_getElem?_getD, List.getElem?_append_left h, List.getElem?_eq_getElem h] at he
      exact ha _ (List.getElem_mem h) he
  · exact h
  · exfalso
    have := hb a.length h
    rw [List.getD_eq_getElem?_getD, List.getElem?_append_right (Nat.le_refl _), Nat.sub_self] at this
    exact this rfl
/-- What Text gives. -/
def textB (s : Bool) (m n : Nat) : List UInt8 := if validB s (nat m) (nat n) = true then txt s m n else []
/-- The reference's way through a text that is not its sign. -/
theorem read_no {l tl : List UInt8} {neg : Bool} (hc : cutDash l = (tl, neg)) (h : ∀ j, j < tl.length → tl.getD j 0 ≠ 47) : readP l = none := by
  cases hr : readP l with
  | none => rfl
  | some r =>
    exfalso
    obtain ⟨s, m, n⟩ := r
    obtain ⟨h1, h2⟩ := txt_read hr
    rw [← h1, cutDash_txt] at hc
    injection hc with hc1 hc2
    have := h (Lib.decDigits m).length (by rw [← hc1, List.length_append, List.length_cons]; omega)
    rw [← hc1, List.getD_eq_getElem?_getD, List.getElem?_append_right (Nat.le_refl _), Nat.sub_self] at this
    exact this rfl
theorem read_parts {l tl : List UInt8} {neg : Bool} (hc : cutDash l = (tl, neg)) {k : Nat} (hk : k < tl.length) (hb : ∀ j, j < k → tl.getD j 0 ≠ 47) (he : tl.getD k 0 = 47) {s : Bool} {m n : Nat} (hr : readP l = some (s, m, n)) :
    s = neg ∧ tl.take k = Lib.decDigits m ∧ tl.drop (k + 1) = Lib.decDigits n ∧ l = txt s m n ∧ validB s (nat m) (nat n) = true := by
  obtain ⟨h1, h2⟩ := txt_read hr
  have hc' := hc
  rw [← h1, cutDash_txt] at hc'
  injection hc' with hc1 hc2
  have hk' := slash_at hc1.symm (dec_slash m) (Nat.le_of_lt hk) hb (.inr he)
  subst hk'
  refine ⟨hc2, ?_, ?_, h1.symm, h2⟩
  · rw [← hc1, List.take_left]
  · rw [← hc1, ← List.drop_drop, List.drop_left]; rfl
theorem read_bad {l tl : List UInt8} {neg : Bool} (hc : cutDash l = (tl, neg)) {k : Nat} (hk : k < tl.length) (hb : ∀ j, j < k → tl.getD j 0 ≠ 47) (he : tl.getD k 0 = 47) (h : ¬ dgOk (tl.take k) ∨ ¬ dgOk (tl.drop (k + 1))) : readP l = none := by
  cases hr : readP l with
  | none => rfl
  | some r =>
    exfalso
    obtain ⟨s, m, n⟩ := r
    obtain ⟨-, e1, e2, -, hv⟩ := read_parts hc hk hb he hr
    obtain ⟨l1, l2, -, -⟩ := valid_facts hv
    rw [e1, e2] at h
    exact h.elim (fun h => h (dg_dec l1)) (fun h => h (dg_dec l2))
theorem read_good {l tl : List UInt8} {neg : Bool} (hc : cutDash l = (tl, neg)) {k : Nat} (hk : k < tl.length) (hb : ∀ j, j < k → tl.getD j 0 ≠ 47) (he : tl.getD k 0 = 47) :
    (textB neg (nvl (tl.take k)) (nvl (tl.drop (k + 1))) = l → readP l = some (neg, nvl (tl.take k), nvl (tl.drop (k + 1)))) ∧ (textB neg (nvl (tl.take k)) (nvl (tl.drop (k + 1))) ≠ l → readP l = none) := by
  have hl : l ≠ [] := by
    rintro rfl
    unfold cutDash at hc
    rw [if_neg (by simp)] at hc
    injection hc with hc1 hc2
    rw [← hc1] at hk
    simp at hk
  constructor
  · intro h
    unfold textB at h
    split at h
    · rename_i hv
      rw [← h]
      exact read_txt hv
    · exact absurd h.symm hl
  · intro h
    cases hr : readP l with
    | none => rfl
    | some r =>
      exfalso
      obtain ⟨s, m, n⟩ := r
      obtain ⟨e0, e1, e2, e3, hv⟩ := read_parts hc hk hb he hr
      apply h
      rw [e1, e2, nvl_dec, nvl_dec, ← e0]
      unfold textB
      rw [if_pos hv, e3]
/-- Text of what was read. -/
theorem c_eTextV (s : Bool) (m n : Nat) (v1 v2 : Value) (w : World) (h1 : Ls w v1 (nat m)) (h2 : Ls w v2 (nat n)) : Calls Tryz.prog 21 #[.agg #[.bool s, v1, v2]] w (StrPost (textB s m n) w) := by
  unfold textB
  cases hv : validB s (nat m) (nat n)
  · exact c_eTextN s _ _ v1 v2 w h1 h2 hv
  · obtain ⟨l1, l2, -, -⟩ := valid_facts hv
    cases s
    · exact c_eTextP m n l1 l2 v1 v2 w h1 h2 hv
    · exact c_eTextM m n l1 l2 v1 v2 w h1 h2 hv
end Go.Proofs.YtfdkdloldjfnjaaGreatDoor
