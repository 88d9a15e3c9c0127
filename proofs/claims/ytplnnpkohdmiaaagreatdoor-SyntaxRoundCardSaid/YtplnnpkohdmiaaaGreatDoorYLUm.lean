/-
  DERIVED. Several texts in one.
-/
import Derived.Test.YtplnnpkohdmiaaaGreatDoorYFm
import Derived.Test.YtplnnpkohdmiaaaGreatDoorYKm
set_option linter.unusedVariables false
set_option linter.unusedSimpArgs false

/- DERIVED. Plain facts on how a text is divided: over lists of bytes, without the program. -/
namespace Go.Proofs.YtplnnpkohdmiaaaGreatDoor
open Go.RowKit

def bs (l : List UInt8) : ByteArray := ⟨l.toArray⟩
theorem bt_bs (l : List UInt8) : bt (bs l) = l := by simp [bt, bs]
theorem bs_bt (s : ByteArray) : bs (bt s) = s := by apply ByteArray.ext; simp [bt, bs]
theorem bs_size (l : List UInt8) : (bs l).size = l.length := by rw [← bt_len, bt_bs]
theorem bs_inj {s t : ByteArray} (h : bt s = bt t) : s = t := by rw [← bs_bt s, h, bs_bt]
theorem extract_bs (s : ByteArray) (k : Nat) : s.extract k s.size = bs ((bt s).drop k) := bs_inj (by rw [bt_bs, bt_extract])

/-- What is yielded from a list on, its first byte at offset k; the list begins with no blank. -/
def sqL : Nat → List UInt8 → Nat → List (Tok × Int)
  | 0, _, _ => []
  | f + 1, l, k =>
    if l = [] then []
    else if (readOf (bs l)).2 = 0 then
      ({ (readOf (bs l)).1 with off := (k : Int) }, 0) :: sqL f (l.drop ((readOf (bs l)).1.text.size + sk false (l.drop (readOf (bs l)).1.text.size))) (k + (readOf (bs l)).1.text.size + sk false (l.drop (readOf (bs l)).1.text.size))
    else [({ (readOf (bs l)).1 with off := (k : Int) }, (readOf (bs l)).2)]

theorem seqF_sqL (s : ByteArray) : ∀ f k, seqF s f k = sqL f ((bt s).drop k) k
  | 0, _ => rfl
  | f + 1, k => by
    unfold seqF sqL
    rw [extract_bs]
    by_cases h : k < s.size
    · have hne : (bt s).drop k ≠ [] := by rw [bt_drop s k h]; simp
      rw [if_pos h, if_neg hne]
      simp only [List.drop_drop, seqF_sqL s f, Nat.add_assoc]
    · have hne : (bt s).drop k = [] := List.drop_of_length_le (by rw [bt_len]; omega)
      rw [if_neg h, if_pos hne]

theorem read_pos (s : ByteArray) (h : (readOf s).2 = 0) : 0 < (readOf s).1.text.size ∧ (readOf s).1.text.size ≤ s.size := by
  obtain ⟨n, h0, h1, h2⟩ := read_ok s h
  rw [h2]
  simp only [ByteArray.size_extract]
  omega

theorem sqL_fuel : ∀ (f g : Nat) (l : List UInt8) (k : Nat), l.length < f → l.length < g → sqL f l k = sqL g l k
  | 0, _, _, _, h, _ => absurd h (by omega)
  | _, 0, _, _, _, h => absurd h (by omega)
  | f + 1, g + 1, l, k, hf, hg => by
    unfold sqL
    by_cases hl : l = []
    · rw [if_pos hl, if_pos hl]
    · rw [if_neg hl, if_neg hl]
      by_cases h0 : (readOf (bs l)).2 = 0
      · rw [if_pos h0, if_pos h0]
        have hp := (read_pos (bs l) h0).1
        have hlen : 0 < l.length := List.length_pos_iff.2 hl
        rw [sqL_fuel f g _ _ (by rw [List.length_drop]; omega) (by rw [List.length_drop]; omega)]
      · rw [if_neg h0, if_neg h0]

/-- What is yielded from a list on, its first byte at offset k. -/
def al (l : List UInt8) (k : Nat) : List (Tok × Int) := sqL (l.length + 1) (l.drop (sk false l)) (k + sk false l)

theorem seqOf_al (s : ByteArray) : seqOf s = al (bt s) 0 := by
  unfold seqOf al
  rw [seqF_sqL, bt_len, Nat.zero_add]

theorem al_nil (l : List UInt8) (k : Nat) (h : l.drop (sk false l) = []) : al l k = [] := by
  unfold al; rw [h]; simp [sqL]
theorem al_ok (l r : List UInt8) (k : Nat) (h : l.drop (sk false l) = r) (hne : r ≠ []) (h0 : (readOf (bs r)).2 = 0) :
    al l k = ({ (readOf (bs r)).1 with off := ((k + sk false l : Nat) : Int) }, 0) :: al (r.drop (readOf (bs r)).1.text.size) (k + sk false l + (readOf (bs r)).1.text.size) := by
  have hp := (read_pos (bs r) h0).1
  have hl : r.length = l.length - sk false l := by rw [← h, List.length_drop]
  have hr : 0 < r.length := List.length_pos_iff.2 hne
  unfold al
  rw [h]
  conv => lhs; unfold sqL
  rw [if_neg hne, if_pos h0, ← List.drop_drop]
  rw [sqL_fuel l.length ((r.drop (readOf (bs r)).1.text.size).length + 1) _ _ (by simp only [List.length_drop]; omega) (by simp only [List.length_drop]; omega)]
theorem al_err (l r : List UInt8) (k : Nat) (h : l.drop (sk false l) = r) (hne : r ≠ []) (h0 : (readOf (bs r)).2 ≠ 0) :
    al l k = [({ (readOf (bs r)).1 with off := ((k + sk false l : Nat) : Int) }, (readOf (bs r)).2)] := by
  unfold al
  rw [h]
  unfold sqL
  rw [if_neg hne, if_neg h0]

theorem al_gap (g x : List UInt8) (k : Nat) (h : sk false (g ++ x) = g.length + sk false x) : al (g ++ x) k = al x (k + g.length) := by
  have hd : (g ++ x).drop (sk false (g ++ x)) = x.drop (sk false x) := by rw [h, ← List.drop_drop, List.drop_left]
  by_cases hn : x.drop (sk false x) = []
  · rw [al_nil _ _ (hd.trans hn), al_nil _ _ hn]
  · by_cases h0 : (readOf (bs (x.drop (sk false x)))).2 = 0
    · rw [al_ok _ _ _ hd hn h0, al_ok _ _ _ rfl hn h0, h]
      simp only [Nat.add_assoc]
    · rw [al_err _ _ _ hd hn h0, al_err _ _ _ rfl hn h0, h]
      simp only [Nat.add_assoc]

/-- What stands behind a byte that no token has does not matter. -/
theorem fr_app (p : UInt8 → Bool) (x : UInt8) (hx : p x = false) : ∀ a b : List UInt8, fr p (a ++ x :: b) = fr p a
  | [], b => by simp [fr, hx]
  | c :: a, b => by
    simp only [List.cons_append, fr, fr_app p x hx a b]

theorem take_app_bs (a b : List UInt8) (n : Nat) (h : n ≤ a.length) : (bs (a ++ b)).extract 0 n = (bs a).extract 0 n :=
  bs_inj (by rw [bt_take, bt_take, bt_bs, bt_bs, List.take_append_of_le_length h])

theorem read_app (a b : List UInt8) (x : UInt8) (ha : a ≠ []) (hx : inNa x = false) : readOf (bs (a ++ x :: b)) = readOf (bs a) := by
  have hd : isDi x = false := by unfold inNa at hx; cases h : isDi x <;> simp_all
  cases a with
  | nil => exact absurd rfl ha
  | cons c r =>
    unfold readOf
    rw [bt_bs, bt_bs]
    have h1 := fr_app inNa x hx (c :: r) b
    have h2 := fr_app isDi x hd (c :: r) b
    rw [h1, h2, take_app_bs _ _ _ (fr_le inNa _), take_app_bs _ _ _ (fr_le isDi _), take_app_bs _ _ 1 (by simp)]
    rfl

theorem sk_app_all : ∀ (a : List UInt8) (m : Bool) (x : UInt8) (b : List UInt8), x.toNat = 10 → sk m a = a.length → sk m (a ++ x :: b) = a.length + (1 + sk false b)
  | [], m, x, b, hx, _ => by
    have hb : isBl x = true := by simp [isBl, hx]
    cases m <;> simp [sk, hx, hb] <;> omega
  | c :: a, true, x, b, hx, h => by
    simp only [sk, List.length_cons, List.cons_append] at h ⊢
    by_cases hc : c.toNat = 10
    · rw [if_pos hc] at h ⊢; rw [sk_app_all a false x b hx (by omega)]; omega
    · rw [if_neg hc] at h ⊢; rw [sk_app_all a true x b hx (by omega)]; omega
  | c :: a, false, x, b, hx, h => by
    simp only [sk, List.length_cons, List.cons_append] at h ⊢
    by_cases hc : isBl c = true
    · rw [if_pos hc] at h ⊢; rw [sk_app_all a false x b hx (by omega)]; omega
    · rw [if_neg hc] at h ⊢
      by_cases hd : c.toNat = 35
      · rw [if_pos hd] at h ⊢; rw [sk_app_all a true x b hx (by omega)]; omega
      · rw [if_neg hd] at h; omega

theorem sk_app_part : ∀ (a : List UInt8) (m : Bool) (b : List UInt8), sk m a < a.length → sk m (a ++ b) = sk m a
  | [], m, b, h => by cases m <;> simp [sk] at h
  | c :: a, true, b, h => by
    simp only [sk, List.length_cons, List.cons_append] at h ⊢
    by_cases hc : c.toNat = 10
    · rw [if_pos hc] at h ⊢; rw [if_pos hc, sk_app_part a false b (by omega)]
    · rw [if_neg hc] at h ⊢; rw [if_neg hc, sk_app_part a true b (by omega)]
  | c :: a, false, b, h => by
    simp only [sk, List.length_cons, List.cons_append] at h ⊢
    by_cases hc : isBl c = true
    · rw [if_pos hc] at h ⊢; rw [if_pos hc, sk_app_part a false b (by omega)]
    · rw [if_neg hc] at h ⊢
      rw [if_neg hc]
      by_cases hd : c.toNat = 35
      · rw [if_pos hd] at h ⊢; rw [if_pos hd, sk_app_part a true b (by omega)]
      · rw [if_neg hd] at h ⊢; rw [if_neg hd]
end Go.Proofs.YtplnnpkohdmiaaaGreatDoor

/- DERIVED. Plain facts on how a text is divided: parts, separators, printed tokens. -/
namespace Go.Proofs.YtplnnpkohdmiaaaGreatDoor
open Go.RowKit

theorem drop_lt (a : List UInt8) (h : a.drop (sk false a) ≠ []) : sk false a < a.length := by
  have := List.length_pos_iff.2 h
  rw [List.length_drop] at this
  omega

/-- Two texts with a line feed between them: an error of the first one is that of the whole; else the yields of both. -/
theorem al_apart (x : UInt8) (hx : x.toNat = 10) (b : List UInt8) : ∀ (n : Nat) (a : List UInt8) (k : Nat), a.length ≤ n →
    ((∀ y ∈ al a k, y.2 = 0) → al (a ++ x :: b) k = al a k ++ al b (k + a.length + 1)) ∧ ((∃ y ∈ al a k, y.2 ≠ 0) → al (a ++ x :: b) k = al a k) := by
  have hin : inNa x = false := by simp [inNa, isLe, isDi, hx]
  intro n
  induction n with
  | zero =>
    intro a k ha
    have : a = [] := List.eq_nil_of_length_eq_zero (by omega)
    subst this
    have h0 : al [] k = [] := al_nil _ _ rfl
    refine ⟨fun _ => ?_, fun ⟨y, hy, _⟩ => by rw [h0] at hy; cases hy⟩
    rw [h0, List.nil_append, List.nil_append]
    have h1 : sk false ([x] ++ b) = [x].length + sk false b := by
      have hb : isBl x = true := by simp [isBl, hx]
      simp [sk, hb]; omega
    exact al_gap [x] b k h1
  | succ n ih =>
    intro a k ha
    by_cases hr : a.drop (sk false a) = []
    · have h0 : al a k = [] := al_nil _ _ hr
      refine ⟨fun _ => ?_, fun ⟨y, hy, _⟩ => by rw [h0] at hy; cases hy⟩
      rw [h0, List.nil_append]
      have hlen : sk false a = a.length := by
        have h1 := congrArg List.length hr
        rw [List.length_drop, List.length_nil] at h1
        have := sk_le false a
        omega
      have h1 := sk_app_all a false x b hx hlen
      have h2 : sk false ((a ++ [x]) ++ b) = (a ++ [x]).length + sk false b := by
        rw [List.append_assoc, List.singleton_append, h1, List.length_append, List.length_singleton]; omega
      have h3 := al_gap (a ++ [x]) b k h2
      rw [List.append_assoc, List.singleton_append, List.length_append, List.length_singleton, ← Nat.add_assoc] at h3
      exact h3
    · have hlt := drop_lt a hr
      have hs := sk_app_part a false (x :: b) hlt
      have hd : (a ++ x :: b).drop (sk false (a ++ x :: b)) = a.drop (sk false a) ++ x :: b := by
        rw [hs, List.drop_append_of_le_length (by omega)]
      have hrd := read_app (a.drop (sk false a)) b x hr hin
      have hne : a.drop (sk false a) ++ x :: b ≠ [] := by simp
      by_cases h0 : (readOf (bs (a.drop (sk false a)))).2 = 0
      · have hp := read_pos _ h0
        rw [bs_size, List.length_drop] at hp
        have e1 := al_ok a _ k rfl hr h0
        have e2 := al_ok (a ++ x :: b) _ k hd hne (by rw [hrd]; exact h0)
        rw [hrd, hs, List.drop_append_of_le_length (by rw [List.length_drop]; omega)] at e2
        obtain ⟨i1, i2⟩ := ih ((a.drop (sk false a)).drop (readOf (bs (a.drop (sk false a)))).1.text.size) (k + sk false a + (readOf (bs (a.drop (sk false a)))).1.text.size) (by simp only [List.length_drop]; omega)
        rw [e1, e2]
        constructor
        · intro h
          rw [i1 (fun y hy => h y (List.mem_cons_of_mem _ hy)), List.cons_append]
          congr 3
          simp only [List.length_drop]
          omega
        · rintro ⟨y, hy, hy0⟩
          rcases List.mem_cons.1 hy with rfl | hy
          · exact absurd rfl hy0
          · rw [i2 ⟨y, hy, hy0⟩]
      · have e1 := al_err a _ k rfl hr h0
        have e2 := al_err (a ++ x :: b) _ k hd hne (by rw [hrd]; exact h0)
        rw [hrd, hs] at e2
        refine ⟨fun h => ?_, fun _ => by rw [e1, e2]⟩
        rw [e1] at h
        exact absurd (h _ (List.mem_singleton.2 rfl)) h0

def shiftT (d : Nat) (y : Tok × Int) : Tok × Int := ({ y.1 with off := y.1.off + (d : Int) }, y.2)
theorem al_shift (d : Nat) : ∀ (n : Nat) (l : List UInt8) (k : Nat), l.length ≤ n → al l (k + d) = (al l k).map (shiftT d) := by
  intro n
  induction n with
  | zero =>
    intro l k hl
    have : l = [] := List.eq_nil_of_length_eq_zero (by omega)
    subst this
    rw [al_nil _ _ rfl, al_nil _ _ rfl]; rfl
  | succ n ih =>
    intro l k hl
    by_cases hr : l.drop (sk false l) = []
    · rw [al_nil _ _ hr, al_nil _ _ hr]; rfl
    · by_cases h0 : (readOf (bs (l.drop (sk false l)))).2 = 0
      · have hp := read_pos _ h0
        rw [bs_size, List.length_drop] at hp
        rw [al_ok _ _ _ rfl hr h0, al_ok _ _ _ rfl hr h0, List.map_cons, ← ih _ _ (by simp only [List.length_drop]; omega)]
        congr 1
        · simp only [shiftT]; congr 2; omega
        · congr 1; omega
      · rw [al_err _ _ _ rfl hr h0, al_err _ _ _ rfl hr h0]
        simp only [List.map_cons, List.map_nil, shiftT]
        congr 3
        omega

/-- Offsets lie in the text. -/
theorem al_off : ∀ (n : Nat) (l : List UInt8) (k : Nat), l.length ≤ n → ∀ y ∈ al l k, (k : Int) ≤ y.1.off ∧ y.1.off ≤ k + l.length := by
  intro n
  induction n with
  | zero =>
    intro l k hl y hy
    have : l = [] := List.eq_nil_of_length_eq_zero (by omega)
    subst this
    rw [al_nil _ _ rfl] at hy; cases hy
  | succ n ih =>
    intro l k hl y hy
    by_cases hr : l.drop (sk false l) = []
    · rw [al_nil _ _ hr] at hy; cases hy
    · have hlt := drop_lt l hr
      by_cases h0 : (readOf (bs (l.drop (sk false l)))).2 = 0
      · have hp := read_pos _ h0
        rw [bs_size, List.length_drop] at hp
        rw [al_ok _ _ _ rfl hr h0] at hy
        rcases List.mem_cons.1 hy with rfl | hy
        · dsimp only; omega
        · have := ih _ _ (by simp only [List.length_drop]; omega) y hy
          simp only [List.length_drop] at this
          omega
      · rw [al_err _ _ _ rfl hr h0] at hy
        rw [List.mem_singleton.1 hy]
        dsimp only; omega

theorem fr_take (p : UInt8 → Bool) : ∀ l, fr p (l.take (fr p l)) = fr p l
  | [] => by simp [fr]
  | c :: r => by
    by_cases h : p c = true
    · simp only [fr, if_pos h, List.take_succ_cons, fr_take p r]
    · simp [fr, h]

theorem read_idem (s : ByteArray) (h : (readOf s).2 = 0) : readOf (readOf s).1.text = readOf s := by
  cases hh : (bt s).head? with
  | none => unfold readOf at h; rw [hh] at h; cases h
  | some c =>
    have hsz : 0 < s.size := by
      rw [← bt_len]
      cases hb : bt s with
      | nil => rw [hb] at hh; cases hh
      | cons d r => simp
    have hhead : ∀ n, 0 < n → (bt (s.extract 0 n)).head? = some c := fun n hn => by
      rw [bt_take]
      cases hb : bt s with
      | nil => rw [hb] at hh; cases hh
      | cons d r =>
        rw [hb] at hh
        cases n with
        | zero => omega
        | succ n => exact hh
    have hsame : ∀ p, (s.extract 0 (fr p (bt s))).extract 0 (fr p (bt (s.extract 0 (fr p (bt s))))) = s.extract 0 (fr p (bt s)) := fun p => by
      rw [bt_take, fr_take]
      apply bs_inj
      rw [bt_take, bt_take, List.take_take, Nat.min_self]
    by_cases hl : isLe c = true
    · have hp := fr_pos inNa s c hh (by simp [inNa, hl])
      have e : readOf s = nameOf (s.extract 0 (fr inNa (bt s))) := by unfold readOf; rw [hh]; simp [hl]
      rw [e] at h ⊢
      rw [name_ok _ h]
      unfold readOf
      rw [hhead _ hp]
      simp only [hl, if_true]
      rw [hsame]
    · by_cases hd : isDi c = true
      · have hp := fr_pos isDi s c hh hd
        have e : readOf s = numberOf (s.extract 0 (fr isDi (bt s))) := by unfold readOf; rw [hh]; simp [hl, hd]
        rw [e] at h ⊢
        rw [number_ok _ h]
        unfold readOf
        rw [hhead _ hp]
        simp only [hl, hd, if_true]
        rw [hsame]
        simp
      · by_cases hg : isSi c = true
        · have e : readOf s = (⟨3, s.extract 0 1, 0, 0⟩, 0) := by unfold readOf; rw [hh]; simp [hl, hd, hg]
          rw [e]
          unfold readOf
          rw [hhead 1 (by omega)]
          simp only [hl, hd, hg, if_true]
          have e2 : (s.extract 0 1).extract 0 1 = s.extract 0 1 := by apply bs_inj; rw [bt_take, bt_take, List.take_take, Nat.min_self]
          rw [e2]
          simp
        · unfold readOf at h; rw [hh] at h; simp [hl, hd, hg] at h

theorem valid_of_read (s : ByteArray) (h : (readOf s).2 = 0) (k : Int) : validT { (readOf s).1 with off := k } = true := by
  unfold validT
  dsimp only
  rw [read_idem s h, h]
  simp

theorem al_valid : ∀ (n : Nat) (l : List UInt8) (k : Nat), l.length ≤ n → ∀ y ∈ al l k, y.2 = 0 → validT y.1 = true := by
  intro n
  induction n with
  | zero =>
    intro l k hl y hy
    have : l = [] := List.eq_nil_of_length_eq_zero (by omega)
    subst this
    rw [al_nil _ _ rfl] at hy; cases hy
  | succ n ih =>
    intro l k hl y hy hy0
    by_cases hr : l.drop (sk false l) = []
    · rw [al_nil _ _ hr] at hy; cases hy
    · by_cases h0 : (readOf (bs (l.drop (sk false l)))).2 = 0
      · have hp := read_pos _ h0
        rw [bs_size, List.length_drop] at hp
        rw [al_ok _ _ _ rfl hr h0] at hy
        rcases List.mem_cons.1 hy with rfl | hy
        · exact valid_of_read _ h0 _
        · exact ih _ _ (by simp only [List.length_drop]; omega) y hy hy0
      · rw [al_err _ _ _ rfl hr h0] at hy
        rw [List.mem_singleton.1 hy] at hy0
        exact absurd hy0 h0

theorem valid_read (t : Tok) (h : validT t = true) : readOf t.text = ({ t with off := 0 }, 0) := by
  have ho := read_off t.text
  unfold validT at h
  simp only [Bool.and_eq_true, beq_iff_eq] at h
  obtain ⟨h0, h1, h2, h3⟩ := h
  rw [ByteArray.toList_eq, ByteArray.toList_eq] at h2
  have h2' := bs_inj h2
  generalize readOf t.text = r at *
  obtain ⟨⟨a, b, c, d⟩, e⟩ := r
  dsimp only at *
  subst h0 h1 h2' h3 ho
  rfl
end Go.Proofs.YtplnnpkohdmiaaaGreatDoor

/- DERIVED. Printed tokens are read back; the walk of the law LexisRound. -/
namespace Go.Proofs.YtplnnpkohdmiaaaGreatDoor
open Go.RowKit

def sameT (a b : Tok) : Bool := a.kind == b.kind && (a.text.toList == b.text.toList && a.num == b.num)
def sameL : List Tok → List Tok → Bool
  | [], [] => true
  | a :: l, b :: m => sameT a b && sameL l m
  | _, _ => false

theorem read_head (s : ByteArray) (h : (readOf s).2 = 0) : ∃ c r, bt s = c :: r ∧ isBl c = false ∧ c.toNat ≠ 35 := by
  unfold readOf at h
  cases hb : bt s with
  | nil => rw [hb] at h; cases h
  | cons c r =>
    rw [hb] at h
    refine ⟨c, r, rfl, ?_⟩
    simp only [List.head?_cons] at h
    by_cases hl : isLe c = true
    · simp only [isLe, Bool.and_eq_true, decide_eq_true_eq] at hl
      exact ⟨by simp [isBl]; omega, by omega⟩
    · by_cases hd : isDi c = true
      · simp only [isDi, Bool.and_eq_true, decide_eq_true_eq] at hd
        exact ⟨by simp [isBl]; omega, by omega⟩
      · by_cases hg : isSi c = true
        · simp only [isSi, Bool.or_eq_true, decide_eq_true_eq] at hg
          exact ⟨by simp [isBl]; omega, by omega⟩
        · simp [hl, hd, hg] at h
theorem sk_head (c : UInt8) (r : List UInt8) (h1 : isBl c = false) (h2 : c.toNat ≠ 35) : sk false (c :: r) = 0 := by simp [sk, h1, h2]

theorem sameT_off (t : Tok) (k : Int) : sameT t { t with off := k } = true := by simp [sameT]

/-- A token that stands in front of a byte that no token has, or at the end. -/
theorem al_tok (t : Tok) (h : validT t = true) (e : List UInt8) (he : e = [] ∨ ∃ x b, e = x :: b ∧ inNa x = false) (k : Nat) :
    al (bt t.text ++ e) k = ({ t with off := (k : Int) }, 0) :: al e (k + t.text.size) := by
  have hr := valid_read t h
  obtain ⟨c, r, hc, hb, h35⟩ := read_head t.text (by rw [hr])
  have hne : bt t.text ≠ [] := by rw [hc]; simp
  have hrd : readOf (bs (bt t.text ++ e)) = ({ t with off := 0 }, 0) := by
    rcases he with rfl | ⟨x, b, rfl, hx⟩
    · rw [List.append_nil, bs_bt]; exact hr
    · rw [read_app _ _ _ hne hx, bs_bt]; exact hr
  have hs : sk false (bt t.text ++ e) = 0 := by rw [hc, List.cons_append]; exact sk_head c _ hb h35
  have h1 := al_ok (bt t.text ++ e) _ k (by rw [hs, List.drop_zero]) (by simp [hne]) (by rw [hrd])
  rw [hrd, hs] at h1
  dsimp only at h1
  rw [h1]
  have hd : (bt t.text ++ e).drop t.text.size = e := by rw [← bt_len, List.drop_left]
  rw [hd, Nat.add_zero]

theorem join_cons2 (x y : List UInt8) (r : List (List UInt8)) (sep : List UInt8) : Lib.join (x :: y :: r) sep = x ++ (sep ++ Lib.join (y :: r) sep) := by
  rw [Lib.join_cons, Lib.join_cons]
  simp [Lib.joinTail]

theorem join_al (sep e : List UInt8) (hs : ∀ y, sk false (sep ++ y) = sep.length + sk false y) (hx : ∃ x r, sep = x :: r ∧ inNa x = false) (he : e = [] ∨ ∃ x r, e = x :: r ∧ inNa x = false) (he2 : ∀ k, al e k = []) :
    ∀ (l : List Tok) (k : Nat), (∀ t ∈ l, validT t = true) → ∃ m, al (Lib.join (l.map fun t => bt t.text) sep ++ e) k = m.map (fun t => (t, 0)) ∧ sameL l m = true
  | [], k, _ => ⟨[], by rw [List.map_nil, Lib.join_nil, List.nil_append, he2]; rfl, rfl⟩
  | [t], k, h => by
    refine ⟨[{ t with off := (k : Int) }], ?_, by simp [sameL, sameT_off]⟩
    rw [List.map_cons, List.map_nil, Lib.join_one, al_tok t (h t (by simp)) e he, he2]
    rfl
  | t :: t2 :: r, k, h => by
    obtain ⟨x, sr, hsep, hxn⟩ := hx
    obtain ⟨m, hm, hsm⟩ := join_al sep e hs ⟨x, sr, hsep, hxn⟩ he he2 (t2 :: r) (k + t.text.size + sep.length) (fun u hu => h u (List.mem_cons_of_mem _ hu))
    refine ⟨{ t with off := (k : Int) } :: m, ?_, by rw [sameL, sameT_off, hsm]; rfl⟩
    rw [List.map_cons, List.map_cons, join_cons2, List.append_assoc, List.append_assoc, al_tok t (h t (by simp)) _ (.inr ⟨x, _, by rw [hsep, List.cons_append], hxn⟩), al_gap _ _ _ (hs _)]
    rw [List.map_cons] at hm
    rw [hm]
    rfl

theorem toks_of_al (s : ByteArray) (m : List Tok) (h4 : s.size ≤ 4096) (h : al (bt s) 0 = m.map (fun t => (t, 0))) : toksOf s = (m, 0, 0) := by
  have hq := seqOf_al s
  rw [h] at hq
  rw [toksOf_ok s (by omega) (by rw [hq]; intro y hy; obtain ⟨t, _, rfl⟩ := List.mem_map.1 hy; rfl), hq, List.map_map]
  have : ((fun x : Tok × Int => x.1) ∘ fun t : Tok => (t, (0 : Int))) = id := rfl
  rw [this, List.map_id]

theorem bt_joinB (l : List Tok) : bt (joinB l) = Lib.join (l.map fun t => bt t.text) [32] := by
  unfold joinB
  rw [List.map_map]
  exact bt_bs _

/-- What Tokens gives. -/
theorem toks_cases (s : ByteArray) : (∃ l, toksOf s = (l, 0, 0) ∧ s.size ≤ 4096 ∧ al (bt s) 0 = l.map (fun t => (t, 0)) ∧ (∀ t ∈ l, validT t = true) ∧ l.length ≤ 4097) ∨
    (∃ at_ er, toksOf s = ([], at_, er) ∧ er ≠ 0 ∧ 0 ≤ at_ ∧ at_ ≤ max (s.size : Int) 4096) := by
  by_cases h4 : 4096 < s.size
  · exact .inr ⟨4096, 3, by unfold toksOf; rw [if_pos h4], by decide, by decide, by omega⟩
  · have hq := seqOf_al s
    cases hf : (seqOf s).find? (fun x => x.2 != 0) with
    | none =>
      have hz : ∀ y ∈ seqOf s, y.2 = 0 := fun y hy => by
        have := List.find?_eq_none.1 hf y hy
        simpa using this
      refine .inl ⟨(seqOf s).map (·.1), toksOf_ok s h4 hz, by omega, ?_, ?_, ?_⟩
      · rw [← hq, List.map_map]
        have : ∀ l : List (Tok × Int), (∀ y ∈ l, y.2 = 0) → l = l.map ((fun t : Tok => (t, (0 : Int))) ∘ fun x => x.1) := by
          intro l
          induction l with
          | nil => intro _; rfl
          | cons a l ih =>
            intro h
            rw [List.map_cons, ← ih (fun y hy => h y (List.mem_cons_of_mem _ hy))]
            have := h a (by simp)
            obtain ⟨a1, a2⟩ := a
            dsimp only at this ⊢
            rw [this]; rfl
        exact this _ hz
      · intro t ht
        obtain ⟨y, hy, rfl⟩ := List.mem_map.1 ht
        rw [hq] at hy
        exact al_valid _ _ _ (Nat.le_refl _) y hy (hz y (by rw [hq]; exact hy))
      · rw [List.length_map]
        have := seqF_len s (s.size + 1) (sk false (bt s))
        unfold seqOf
        omega
    | some x =>
      have hx := List.find?_some hf
      have hm := List.mem_of_find?_eq_some hf
      rw [hq] at hm
      have ho := al_off _ _ _ (Nat.le_refl _) x hm
      rw [bt_len] at ho
      refine .inr ⟨x.1.off, x.2, by unfold toksOf; rw [if_neg h4, hf], by simpa using hx, by omega, by omega⟩

theorem sk_one (y : List UInt8) : sk false ([32] ++ y) = [(32 : UInt8)].length + sk false y := by
  have hb : isBl 32 = true := by decide
  simp [sk, hb]; omega

/-- Tokens that can be printed are read back. -/
theorem print_back (l : List Tok) (h : ∀ t ∈ l, validT t = true) (h4 : (joinB l).size ≤ 4096) : ∃ m, toksOf (joinB l) = (m, 0, 0) ∧ sameL l m = true := by
  obtain ⟨m, hm, hs⟩ := join_al [32] [] sk_one ⟨32, [], rfl, by decide⟩ (.inl rfl) (fun k => al_nil _ _ rfl) l 0 h
  rw [List.append_nil, ← bt_joinB] at hm
  exact ⟨m, toks_of_al _ m h4 hm, hs⟩

end Go.Proofs.YtplnnpkohdmiaaaGreatDoor
