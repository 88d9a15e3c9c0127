/-
  DERIVED. Plain facts on how a text is divided: parts, separators, printed tokens.
-/
import Derived.Test.YtlfjhechploioaaU
namespace Go.Proofs.Ytlfjhechploioaa
open Go.RowKit

theorem drop_lt (a : List UInt8) (h : a.drop (sk false a) ≠ []) : sk false a < a.length := by
  have := List.length_pos_iff.2 h
  rw [List.length_drop] at this
  omega

/-- Two texts with a line feed between them: an error of the first one is that of the whole; else the yields of both. -/
theorem al_apart (x : UInt8) (hx : x.toNat = 10) (b : List UInt8) : ∀ (n : Nat) (a : List UInt8) (k : Nat), a.length ≤ n →
    ((∀ y ∈ al a k, y.2 = 0) → al (a ++ x :: b) k = al a k ++ al b (k + a.length + 1)) ∧ ((∃ y ∈ al a k, y.2 ≠ 0) → al (a ++ x :: b) k = al a k) := by
  have hin : inNa x = false := by simp [inNa, isLe, isDi, hx]
  intro n
  induction n with
  | zero =>
    intro a k ha
    have : a = [] := List.eq_nil_of_length_eq_zero (by omega)
    subst this
    have h0 : al [] k = [] := al_nil _ _ rfl
    refine ⟨fun _ => ?_, fun ⟨y, hy, _⟩ => by rw [h0] at hy; cases hy⟩
    rw [h0, List.nil_append, List.nil_append]
    have h1 : sk false ([x] ++ b) = [x].length + sk false b := by
      have hb : isBl x = true := by simp [isBl, hx]
      simp [sk, hb]; omega
    exact al_gap [x] b k h1
  | succ n ih =>
    intro a k ha
    by_cases hr : a.drop (sk false a) = []
    · have h0 : al a k = [] := al_nil _ _ hr
      refine ⟨fun _ => ?_, fun ⟨y, hy, _⟩ => by rw [h0] at hy; cases hy⟩
      rw [h0, List.nil_append]
      have hlen : sk false a = a.length := by
        have h1 := congrArg List.length hr
        rw [List.length_drop, List.length_nil] at h1
        have := sk_le false a
        omega
      have h1 := sk_app_all a false x b hx hlen
      have h2 : sk false ((a ++ [x]) ++ b) = (a ++ [x]).length + sk false b := by
        rw [List.append_assoc, List.singleton_append, h1, List.length_append, List.length_singleton]; omega
      have h3 := al_gap (a ++ [x]) b k h2
      rw [List.append_assoc, List.singleton_append, List.length_append, List.length_singleton, ← Nat.add_assoc] at h3
      exact h3
    · have hlt := drop_lt a hr
      have hs := sk_app_part a false (x :: b) hlt
      have hd : (a ++ x :: b).drop (sk false (a ++ x :: b)) = a.drop (sk false a) ++ x :: b := by
        rw [hs, List.drop_append_of_le_length (by omega)]
      have hrd := read_app (a.drop (sk false a)) b x hr hin
      have hne : a.drop (sk false a) ++ x :: b ≠ [] := by simp
      by_cases h0 : (readOf (bs (a.drop (sk false a)))).2 = 0
      · have hp := read_pos _ h0
        rw [bs_size, List.length_drop] at hp
        have e1 := al_ok a _ k rfl hr h0
        have e2 := al_ok (a ++ x :: b) _ k hd hne (by rw [hrd]; exact h0)
        rw [hrd, hs, List.drop_append_of_le_length (by rw [List.length_drop]; omega)] at e2
        obtain ⟨i1, i2⟩ := ih ((a.drop (sk false a)).drop (readOf (bs (a.drop (sk false a)))).1.text.size) (k + sk false a + (readOf (bs (a.drop (sk false a)))).1.text.size) (by simp only [List.length_drop]; omega)
        rw [e1, e2]
        constructor
        · intro h
          rw [i1 (fun y hy => h y (List.mem_cons_of_mem _ hy)), List.cons_append]
          congr 3
          simp only [List.length_drop]
          omega
        · rintro ⟨y, hy, hy0⟩
          rcases List.mem_cons.1 hy with rfl | hy
          · exact absurd rfl hy0
          · rw [i2 ⟨y, hy, hy0⟩]
      · have e1 := al_err a _ k rfl hr h0
        have e2 := al_err (a ++ x :: b) _ k hd hne (by rw [hrd]; exact h0)
        rw [hrd, hs] at e2
        refine ⟨fun h => ?_, fun _ => by rw [e1, e2]⟩
        rw [e1] at h
        exact absurd (h _ (List.mem_singleton.2 rfl)) h0

def shiftT (d : Nat) (y : Tok × Int) : Tok × Int := ({ y.1 with off := y.1.off + (d : Int) }, y.2)
theorem al_shift (d : Nat) : ∀ (n : Nat) (l : List UInt8) (k : Nat), l.length ≤ n → al l (k + d) = (al l k).map (shiftT d) := by
  intro n
  induction n with
  | zero =>
    intro l k hl
    have : l = [] := List.eq_nil_of_length_eq_zero (by omega)
    subst this
    rw [al_nil _ _ rfl, al_nil _ _ rfl]; rfl
  | succ n ih =>
    intro l k hl
    by_cases hr : l.drop (sk false l) = []
    · rw [al_nil _ _ hr, al_nil _ _ hr]; rfl
    · by_cases h0 : (readOf (bs (l.drop (sk false l)))).2 = 0
      · have hp := read_pos _ h0
        rw [bs_size, List.length_drop] at hp
        rw [al_ok _ _ _ rfl hr h0, al_ok _ _ _ rfl hr h0, List.map_cons, ← ih _ _ (by simp only [List.length_drop]; omega)]
        congr 1
        · simp only [shiftT]; congr 2; omega
        · congr 1; omega
      · rw [al_err _ _ _ rfl hr h0, al_err _ _ _ rfl hr h0]
        simp only [List.map_cons, List.map_nil, shiftT]
        congr 3
        omega

/-- Offsets lie in the text. -/
theorem al_off : ∀ (n : Nat) (l : List UInt8) (k : Nat), l.length ≤ n → ∀ y ∈ al l k, (k : Int) ≤ y.1.off ∧ y.1.off ≤ k + l.length := by
  intro n
  induction n with
  | zero =>
    intro l k hl y hy
    have : l = [] := List.eq_nil_of_length_eq_zero (by omega)
    subst this
    rw [al_nil _ _ rfl] at hy; cases hy
  | succ n ih =>
    intro l k hl y hy
    by_cases hr : l.drop (sk false l) = []
    · rw [al_nil _ _ hr] at hy; cases hy
    · have hlt := drop_lt l hr
      by_cases h0 : (readOf (bs (l.drop (sk false l)))).2 = 0
      · have hp := read_pos _ h0
        rw [bs_size, List.length_drop] at hp
        rw [al_ok _ _ _ rfl hr h0] at hy
        rcases List.mem_cons.1 hy with rfl | hy
        · dsimp only; omega
        · have := ih _ _ (by simp only [List.length_drop]; omega) y hy
          simp only [List.length_drop] at this
          omega
      · rw [al_err _ _ _ rfl hr h0] at hy
        rw [List.mem_singleton.1 hy]
        dsimp only; omega

theorem fr_take (p : UInt8 → Bool) : ∀ l, fr p (l.take (fr p l)) = fr p l
  | [] => by simp [fr]
  | c :: r => by
    by_cases h : p c = true
    · simp only [fr, if_pos h, List.take_succ_cons, fr_take p r]
    · simp [fr, h]

theorem read_idem (s : ByteArray) (h : (readOf s).2 = 0) : readOf (readOf s).1.text = readOf s := by
  cases hh : (bt s).head? with
  | none => unfold readOf at h; rw [hh] at h; cases h
  | some c =>
    have hsz : 0 < s.size := by
      rw [← bt_len]
      cases hb : bt s with
      | nil => rw [hb] at hh; cases hh
      | cons d r => simp
    have hhead : ∀ n, 0 < n → (bt (s.extract 0 n)).head? = some c := fun n hn => by
      rw [bt_take]
      cases hb : bt s with
      | nil => rw [hb] at hh; cases hh
      | cons d r =>
        rw [hb] at hh
        cases n with
        | zero => omega
        | succ n => exact hh
    have hsame : ∀ p, (s.extract 0 (fr p (bt s))).extract 0 (fr p (bt (s.extract 0 (fr p (bt s))))) = s.extract 0 (fr p (bt s)) := fun p => by
      rw [bt_take, fr_take]
      apply bs_inj
      rw [bt_take, bt_take, List.take_take, Nat.min_self]
    by_cases hl : isLe c = true
    · have hp := fr_pos inNa s c hh (by simp [inNa, hl])
      have e : readOf s = nameOf (s.extract 0 (fr inNa (bt s))) := by unfold readOf; rw [hh]; simp [hl]
      rw [e] at h ⊢
      rw [name_ok _ h]
      unfold readOf
      rw [hhead _ hp]
      simp only [hl, if_true]
      rw [hsame]
    · by_cases hd : isDi c = true
      · have hp := fr_pos isDi s c hh hd
        have e : readOf s = numberOf (s.extract 0 (fr isDi (bt s))) := by unfold readOf; rw [hh]; simp [hl, hd]
        rw [e] at h ⊢
        rw [number_ok _ h]
        unfold readOf
        rw [hhead _ hp]
        simp only [hl, hd, if_true]
        rw [hsame]
        simp
      · by_cases hg : isSi c = true
        · have e : readOf s = (⟨3, s.extract 0 1, 0, 0⟩, 0) := by unfold readOf; rw [hh]; simp [hl, hd, hg]
          rw [e]
          unfold readOf
          rw [hhead 1 (by omega)]
          simp only [hl, hd, hg, if_true]
          have e2 : (s.extract 0 1).extract 0 1 = s.extract 0 1 := by apply bs_inj; rw [bt_take, bt_take, List.take_take, Nat.min_self]
          rw [e2]
          simp
        · unfold readOf at h; rw [hh] at h; simp [hl, hd, hg] at h

theorem valid_of_read (s : ByteArray) (h : (readOf s).2 = 0) (k : Int) : validT { (readOf s).1 with off := k } = true := by
  unfold validT
  dsimp only
  rw [read_idem s h, h]
  simp

theorem al_valid : ∀ (n : Nat) (l : List UInt8) (k : Nat), l.length ≤ n → ∀ y ∈ al l k, y.2 = 0 → validT y.1 = true := by
  intro n
  induction n with
  | zero =>
    intro l k hl y hy
    have : l = [] := List.eq_nil_of_length_eq_zero (by omega)
    subst this
    rw [al_nil _ _ rfl] at hy; cases hy
  | succ n ih =>
    intro l k hl y hy hy0
    by_cases hr : l.drop (sk false l) = []
    · rw [al_nil _ _ hr] at hy; cases hy
    · by_cases h0 : (readOf (bs (l.drop (sk false l)))).2 = 0
      · have hp := read_pos _ h0
        rw [bs_size, List.length_drop] at hp
        rw [al_ok _ _ _ rfl hr h0] at hy
        rcases List.mem_cons.1 hy with rfl | hy
        · exact valid_of_read _ h0 _
        · exact ih _ _ (by simp only [List.length_drop]; omega) y hy hy0
      · rw [al_err _ _ _ rfl hr h0] at hy
        rw [List.mem_singleton.1 hy] at hy0
        exact absurd hy0 h0

theorem valid_read (t : Tok) (h : validT t = true) : readOf t.text = ({ t with off := 0 }, 0) := by
  have ho := read_off t.text
  unfold validT at h
  simp only [Bool.and_eq_true, beq_iff_eq] at h
  obtain ⟨h0, h1, h2, h3⟩ := h
  rw [ByteArray.toList_eq, ByteArray.toList_eq] at h2
  have h2' := bs_inj h2
  generalize readOf t.text = r at *
  obtain ⟨⟨a, b, c, d⟩, e⟩ := r
  dsimp only at *
  subst h0 h1 h2' h3 ho
  rfl
end Go.Proofs.Ytlfjhechploioaa
