/-
  DERIVED. Plain facts on how a text is divided: over lists of bytes, without the program.
-/
import Derived.Test.YtlfjhechploioaaQ
import Derived.Test.YtlfjhechploioaaP
namespace Go.Proofs.Ytlfjhechploioaa
open Go.RowKit

def bs (l : List UInt8) : ByteArray := ⟨l.toArray⟩
theorem bt_bs (l : List UInt8) : bt (bs l) = l := by simp [bt, bs]
theorem bs_bt (s : ByteArray) : bs (bt s) = s := by apply ByteArray.ext; simp [bt, bs]
theorem bs_size (l : List UInt8) : (bs l).size = l.length := by rw [← bt_len, bt_bs]
theorem bs_inj {s t : ByteArray} (h : bt s = bt t) : s = t := by rw [← bs_bt s, h, bs_bt]
theorem extract_bs (s : ByteArray) (k : Nat) : s.extract k s.size = bs ((bt s).drop k) := bs_inj (by rw [bt_bs, bt_extract])

/-- What is yielded from a list on, its first byte at offset k; the list begins with no blank. -/
def sqL : Nat → List UInt8 → Nat → List (Tok × Int)
  | 0, _, _ => []
  | f + 1, l, k =>
    if l = [] then []
    else if (readOf (bs l)).2 = 0 then
      ({ (readOf (bs l)).1 with off := (k : Int) }, 0) :: sqL f (l.drop ((readOf (bs l)).1.text.size + sk false (l.drop (readOf (bs l)).1.text.size))) (k + (readOf (bs l)).1.text.size + sk false (l.drop (readOf (bs l)).1.text.size))
    else [({ (readOf (bs l)).1 with off := (k : Int) }, (readOf (bs l)).2)]

theorem seqF_sqL (s : ByteArray) : ∀ f k, seqF s f k = sqL f ((bt s).drop k) k
  | 0, _ => rfl
  | f + 1, k => by
    unfold seqF sqL
    rw [extract_bs]
    by_cases h : k < s.size
    · have hne : (bt s).drop k ≠ [] := by rw [bt_drop s k h]; simp
      rw [if_pos h, if_neg hne]
      simp only [List.drop_drop, seqF_sqL s f, Nat.add_assoc]
    · have hne : (bt s).drop k = [] := List.drop_of_length_le (by rw [bt_len]; omega)
      rw [if_neg h, if_pos hne]

theorem read_pos (s : ByteArray) (h : (readOf s).2 = 0) : 0 < (readOf s).1.text.size ∧ (readOf s).1.text.size ≤ s.size := by
  obtain ⟨n, h0, h1, h2⟩ := read_ok s h
  rw [h2]
  simp only [ByteArray.size_extract]
  omega

theorem sqL_fuel : ∀ (f g : Nat) (l : List UInt8) (k : Nat), l.length < f → l.length < g → sqL f l k = sqL g l k
  | 0, _, _, _, h, _ => absurd h (by omega)
  | _, 0, _, _, _, h => absurd h (by omega)
  | f + 1, g + 1, l, k, hf, hg => by
    unfold sqL
    by_cases hl : l = []
    · rw [if_pos hl, if_pos hl]
    · rw [if_neg hl, if_neg hl]
      by_cases h0 : (readOf (bs l)).2 = 0
      · rw [if_pos h0, if_pos h0]
        have hp := (read_pos (bs l) h0).1
        have hlen : 0 < l.length := List.length_pos_iff.2 hl
        rw [sqL_fuel f g _ _ (by rw [List.length_drop]; omega) (by rw [List.length_drop]; omega)]
      · rw [if_neg h0, if_neg h0]

/-- What is yielded from a list on, its first byte at offset k. -/
def al (l : List UInt8) (k : Nat) : List (Tok × Int) := sqL (l.length + 1) (l.drop (sk false l)) (k + sk false l)

theorem seqOf_al (s : ByteArray) : seqOf s = al (bt s) 0 := by
  unfold seqOf al
  rw [seqF_sqL, bt_len, Nat.zero_add]

theorem al_nil (l : List UInt8) (k : Nat) (h : l.drop (sk false l) = []) : al l k = [] := by
  unfold al; rw [h]; simp [sqL]
theorem al_ok (l r : List UInt8) (k : Nat) (h : l.drop (sk false l) = r) (hne : r ≠ []) (h0 : (readOf (bs r)).2 = 0) :
    al l k = ({ (readOf (bs r)).1 with off := ((k + sk false l : Nat) : Int) }, 0) :: al (r.drop (readOf (bs r)).1.text.size) (k + sk false l + (readOf (bs r)).1.text.size) := by
  have hp := (read_pos (bs r) h0).1
  have hl : r.length = l.length - sk false l := by rw [← h, List.length_drop]
  have hr : 0 < r.length := List.length_pos_iff.2 hne
  unfold al
  rw [h]
  conv => lhs; unfold sqL
  rw [if_neg hne, if_pos h0, ← List.drop_drop]
  rw [sqL_fuel l.length ((r.drop (readOf (bs r)).1.text.size).length + 1) _ _ (by simp only [List.length_drop]; omega) (by simp only [List.length_drop]; omega)]
theorem al_err (l r : List UInt8) (k : Nat) (h : l.drop (sk false l) = r) (hne : r ≠ []) (h0 : (readOf (bs r)).2 ≠ 0) :
    al l k = [({ (readOf (bs r)).1 with off := ((k + sk false l : Nat) : Int) }, (readOf (bs r)).2)] := by
  unfold al
  rw [h]
  unfold sqL
  rw [if_neg hne, if_neg h0]

theorem al_gap (g x : List UInt8) (k : Nat) (h : sk false (g ++ x) = g.length + sk false x) : al (g ++ x) k = al x (k + g.length) := by
  have hd : (g ++ x).drop (sk false (g ++ x)) = x.drop (sk false x) := by rw [h, ← List.drop_drop, List.drop_left]
  by_cases hn : x.drop (sk false x) = []
  · rw [al_nil _ _ (hd.trans hn), al_nil _ _ hn]
  · by_cases h0 : (readOf (bs (x.drop (sk false x)))).2 = 0
    · rw [al_ok _ _ _ hd hn h0, al_ok _ _ _ rfl hn h0, h]
      simp only [Nat.add_assoc]
    · rw [al_err _ _ _ hd hn h0, al_err _ _ _ rfl hn h0, h]
      simp only [Nat.add_assoc]

/-- What stands behind a byte that no token has does not matter. -/
theorem fr_app (p : UInt8 → Bool) (x : UInt8) (hx : p x = false) : ∀ a b : List UInt8, fr p (a ++ x :: b) = fr p a
  | [], b => by simp [fr, hx]
  | c :: a, b => by
    simp only [List.cons_append, fr, fr_app p x hx a b]

theorem take_app_bs (a b : List UInt8) (n : Nat) (h : n ≤ a.length) : (bs (a ++ b)).extract 0 n = (bs a).extract 0 n :=
  bs_inj (by rw [bt_take, bt_take, bt_bs, bt_bs, List.take_append_of_le_length h])

theorem read_app (a b : List UInt8) (x : UInt8) (ha : a ≠ []) (hx : inNa x = false) : readOf (bs (a ++ x :: b)) = readOf (bs a) := by
  have hd : isDi x = false := by unfold inNa at hx; cases h : isDi x <;> simp_all
  cases a with
  | nil => exact absurd rfl ha
  | cons c r =>
    unfold readOf
    rw [bt_bs, bt_bs]
    have h1 := fr_app inNa x hx (c :: r) b
    have h2 := fr_app isDi x hd (c :: r) b
    rw [h1, h2, take_app_bs _ _ _ (fr_le inNa _), take_app_bs _ _ _ (fr_le isDi _), take_app_bs _ _ 1 (by simp)]
    rfl

theorem sk_app_all : ∀ (a : List UInt8) (m : Bool) (x : UInt8) (b : List UInt8), x.toNat = 10 → sk m a = a.length → sk m (a ++ x :: b) = a.length + (1 + sk false b)
  | [], m, x, b, hx, _ => by
    have hb : isBl x = true := by simp [isBl, hx]
    cases m <;> simp [sk, hx, hb] <;> omega
  | c :: a, true, x, b, hx, h => by
    simp only [sk, List.length_cons, List.cons_append] at h ⊢
    by_cases hc : c.toNat = 10
    · rw [if_pos hc] at h ⊢; rw [sk_app_all a false x b hx (by omega)]; omega
    · rw [if_neg hc] at h ⊢; rw [sk_app_all a true x b hx (by omega)]; omega
  | c :: a, false, x, b, hx, h => by
    simp only [sk, List.length_cons, List.cons_append] at h ⊢
    by_cases hc : isBl c = true
    · rw [if_pos hc] at h ⊢; rw [sk_app_all a false x b hx (by omega)]; omega
    · rw [if_neg hc] at h ⊢
      by_cases hd : c.toNat = 35
      · rw [if_pos hd] at h ⊢; rw [sk_app_all a true x b hx (by omega)]; omega
      · rw [if_neg hd] at h; omega

theorem sk_app_part : ∀ (a : List UInt8) (m : Bool) (b : List UInt8), sk m a < a.length → sk m (a ++ b) = sk m a
  | [], m, b, h => by cases m <;> simp [sk] at h
  | c :: a, true, b, h => by
    simp only [sk, List.length_cons, List.cons_append] at h ⊢
    by_cases hc : c.toNat = 10
    · rw [if_pos hc] at h ⊢; rw [if_pos hc, sk_app_part a false b (by omega)]
    · rw [if_neg hc] at h ⊢; rw [if_neg hc, sk_app_part a true b (by omega)]
  | c :: a, false, b, h => by
    simp only [sk, List.length_cons, List.cons_append] at h ⊢
    by_cases hc : isBl c = true
    · rw [if_pos hc] at h ⊢; rw [if_pos hc, sk_app_part a false b (by omega)]
    · rw [if_neg hc] at h ⊢
      rw [if_neg hc]
      by_cases hd : c.toNat = 35
      · rw [if_pos hd] at h ⊢; rw [if_pos hd, sk_app_part a true b (by omega)]
      · rw [if_neg hd] at h ⊢; rw [if_neg hd]
end Go.Proofs.Ytlfjhechploioaa
