/-
  DERIVED. Several texts in one.
-/
import Derived.Test.YtjheaeeeeggncaaProg
import Derived.WalkKit
import Derived.ProofKit
import Derived.Below
import Derived.IntWalk
import Derived.BigQuiet
import Derived.Laws.Rows
import Derived.Lib.Hide
import Derived.Laws.OwnMore
import Derived.Deep.QuietTactic
import Derived.Deep.DrawnRows
import Derived.Deep.AppendLies
import Derived.Deep.RegionHeld3
import Derived.RegionTactic
import Derived.StillTailTactics
set_option linter.unusedVariables false
set_option linter.unusedSimpArgs false

namespace Go.Proofs.Ytjheaeeeeggncaa
set_option linter.unusedSimpArgs false
set_option linter.unusedVariables false

theorem nodup_le : ∀ (N : Nat) (l : List Nat), l.Nodup → (∀ x ∈ l, x < N) → l.length ≤ N
  | 0, l, _, h => by
    cases l with
    | nil => exact Nat.le_refl _
    | cons a l => exact absurd (h a (by simp)) (Nat.not_lt_zero _)
  | N + 1, l, hn, h => by
    by_cases hm : N ∈ l
    · have h2 := nodup_le N (l.erase N) (hn.erase N) (fun x hx => by
        have h1 := h x (List.mem_of_mem_erase hx)
        have h3 : x ≠ N := fun e => by subst e; exact (List.Nodup.not_mem_erase hn) hx
        omega)
      rw [List.length_erase_of_mem hm] at h2
      omega
    · have h2 := nodup_le N l hn (fun x hx => by
        have h1 := h x hx
        have h3 : x ≠ N := fun e => by subst e; exact hm hx
        omega)
      omega
/-- k comes before i: some list leads from i to k. -/
inductive Cb (E : Nat → Nat → Prop) : Nat → Nat → Prop
  | one {i k : Nat} : E i k → Cb E i k
  | more {i j k : Nat} : E i j → Cb E j k → Cb E i k
section
variable {E : Nat → Nat → Prop}
theorem Cb.trans {i j k : Nat} (h : Cb E i j) (h2 : Cb E j k) : Cb E i k := by
  induction h with
  | one e => exact .more e h2
  | more e _ ih => exact .more e (ih h2)
theorem Cb.lt {n i k : Nat} (hE : ∀ i k, E i k → k < n) (h : Cb E i k) : k < n := by
  induction h with
  | one e => exact hE _ _ e
  | more _ _ ih => exact ih
theorem Cb.lt0 {n i k : Nat} (hE : ∀ i k, E i k → i < n) (h : Cb E i k) : i < n := by
  cases h with
  | one e => exact hE _ _ e
  | more e _ => exact hE _ _ e
/-- A way along a list of elements. -/
def Wy (E : Nat → Nat → Prop) : Nat → List Nat → Prop
  | _, [] => True
  | i, v :: l => E i v ∧ Wy E v l
theorem Wy.append : ∀ {l m : List Nat} {i x : Nat}, Wy E i (l ++ x :: m) ↔ Wy E i (l ++ [x]) ∧ Wy E x m
  | [], m, i, x => by simp [Wy]
  | v :: l, m, i, x => by
    show E i v ∧ Wy E v (l ++ x :: m) ↔ (E i v ∧ Wy E v (l ++ [x])) ∧ Wy E x m
    rw [Wy.append (l := l)]
    constructor
    · rintro ⟨a, b, c⟩; exact ⟨⟨a, b⟩, c⟩
    · rintro ⟨⟨a, b⟩, c⟩; exact ⟨a, b, c⟩
theorem Wy.cb : ∀ {l : List Nat} {i k : Nat}, Wy E i (l ++ [k]) → Cb E i k
  | [], i, k, h => .one h.1
  | v :: l, i, k, h => .more h.1 (Wy.cb h.2)
end
/-- Bits. -/
theorem tb_or (a b i : Nat) : (a ||| b).testBit i = (a.testBit i || b.testBit i) := Nat.testBit_or a b i
theorem tb_one (k i : Nat) : (1 <<< k).testBit i = decide (k = i) := by rw [Nat.one_shiftLeft]; exact Nat.testBit_two_pow
/-- The closure by middle elements: one inner loop, up to an element. -/
def wIn (f : Nat → Nat) (m : Nat) : Nat → Nat → Nat
  | 0 => f
  | p + 1 => fun j => if j = p then (if (wIn f m p p).testBit m then wIn f m p p ||| wIn f m p m else wIn f m p p) else wIn f m p j
theorem wIn_eq (f : Nat → Nat) (m : Nat) : ∀ p j, wIn f m p j = if j < p ∧ (f j).testBit m = true then f j ||| f m else f j
  | 0, j => by simp [wIn]
  | p + 1, j => by
    have hm : wIn f m p m = f m := by
      rw [wIn_eq f m p m]
      split
      · exact Nat.or_self _
      · rfl
    have hp : wIn f m p p = f p := by rw [wIn_eq f m p p, if_neg (by omega)]
    show (if j = p then (if (wIn f m p p).testBit m then wIn f m p p ||| wIn f m p m else wIn f m p p) else wIn f m p j) = _
    rw [hm, hp, wIn_eq f m p j]
    by_cases e : j = p
    · subst e
      rw [if_pos rfl]
      by_cases hb : (f j).testBit m = true
      · rw [if_pos hb, if_pos ⟨by omega, hb⟩]
      · rw [if_neg hb, if_neg (fun h => hb h.2)]
    · rw [if_neg e]
      by_cases hb : j < p ∧ (f j).testBit m = true
      · rw [if_pos hb, if_pos ⟨by omega, hb.2⟩]
      · rw [if_neg hb, if_neg (fun h => hb ⟨by omega, h.2⟩)]
def wAll (f : Nat → Nat) (n : Nat) : Nat → Nat → Nat
  | 0 => f
  | m + 1 => wIn (wAll f n m) m n
section
variable {E : Nat → Nat → Prop} {f : Nat → Nat} {n : Nat}
theorem wAll_tb (f : Nat → Nat) (n m : Nat) {i : Nat} (hi : i < n) (k : Nat) : (wAll f n (m + 1) i).testBit k = ((wAll f n m i).testBit k || ((wAll f n m i).testBit m && (wAll f n m m).testBit k)) := by
  show (wIn (wAll f n m) m n i).testBit k = _
  rw [wIn_eq]
  by_cases hb : (wAll f n m i).testBit m = true
  · rw [if_pos ⟨hi, hb⟩, tb_or, hb, Bool.true_and]
  · rw [if_neg (fun h => hb h.2)]
    rw [Bool.not_eq_true] at hb
    rw [hb, Bool.false_and, Bool.or_false]
/-- What the closure by middle elements holds. -/
theorem wAll_iff (hE : ∀ i k, E i k → i < n ∧ k < n) (hf : ∀ i, i < n → ∀ k, (f i).testBit k = true ↔ E i k) {i : Nat} (hi : i < n) (k : Nat) : (wAll f n n i).testBit k = true ↔ Cb E i k := by
  have hsound : ∀ m, m ≤ n → ∀ i, i < n → ∀ k, (wAll f n m i).testBit k = true → Cb E i k := by
    intro m
    induction m with
    | zero => intro _ i hi k h; exact .one ((hf i hi k).1 h)
    | succ m ih =>
      intro hm i hi k h
      rw [wAll_tb f n m hi, Bool.or_eq_true, Bool.and_eq_true] at h
      rcases h with h | ⟨h1, h2⟩
      · exact ih (by omega) i hi k h
      · exact (ih (by omega) i hi m h1).trans (ih (by omega) m (by omega) k h2)
  have hmono : ∀ m, m ≤ n → ∀ i, i < n → ∀ k, E i k → (wAll f n m i).testBit k = true := by
    intro m
    induction m with
    | zero => intro _ i hi k h; exact (hf i hi k).2 h
    | succ m ih => intro hm i hi k h; rw [wAll_tb f n m hi, ih (by omega) i hi k h]; rfl
  have hcl : ∀ m, m ≤ n → ∀ i j k, i < n → j < m → (wAll f n m i).testBit j = true → (wAll f n m j).testBit k = true → (wAll f n m i).testBit k = true := by
    intro m
    induction m with
    | zero => intro _ i j k _ hj; exact absurd hj (Nat.not_lt_zero _)
    | succ m ih =>
      intro hm i j k hi hj h1 h2
      have ih := ih (by omega)
      rw [wAll_tb f n m hi] at h1 ⊢
      rw [wAll_tb f n m (by omega : j < n)] at h2
      simp only [Bool.or_eq_true, Bool.and_eq_true] at h1 h2 ⊢
      by_cases e : j = m
      · subst e
        have h1' : (wAll f n j i).testBit j = true := by rcases h1 with h | h; exact h; exact h.1
        rcases h2 with h2 | ⟨h2, h3⟩
        · exact .inr ⟨h1', h2⟩
        · exact .inr ⟨h1', h3⟩
      · have hj' : j < m := by omega
        rcases h1 with h1 | ⟨h1, h1'⟩
        · rcases h2 with h2 | ⟨h2, h3⟩
          · exact .inl (ih i j k hi hj' h1 h2)
          · exact .inr ⟨ih i j m hi hj' h1 h2, h3⟩
        · rcases h2 with h2 | ⟨h2, h3⟩
          · exact .inr ⟨h1, ih m j k (by omega) hj' h1' h2⟩
          · exact .inr ⟨h1, h3⟩
  refine ⟨hsound n (Nat.le_refl _) i hi k, fun h => ?_⟩
  induction h with
  | one e => exact hmono n (Nat.le_refl _) _ hi _ e
  | @more i j k e _ ih =>
    have hj := (hE i j e).2
    exact hcl n (Nat.le_refl _) i j k hi hj (hmono n (Nat.le_refl _) i hi j e) (ih hj)
end
section
variable {E : Nat → Nat → Prop} {a : Nat → List Nat} {n : Nat}
end
end Go.Proofs.Ytjheaeeeeggncaa

namespace Go.Proofs.Ytjheaeeeeggncaa
set_option linter.unusedSimpArgs false
set_option linter.unusedVariables false

/-- An order of n elements: of each, the bits of all that come before it. -/
structure Po (n : Nat) (b : Nat → Nat) : Prop where
  lt : ∀ i k, i < n → (b i).testBit k = true → k < n
  irr : ∀ i, i < n → (b i).testBit i = false
  tr : ∀ i j k, i < n → (b i).testBit j = true → (b j).testBit k = true → (b i).testBit k = true
theorem Po.of {n : Nat} {b : Nat → Nat} {E : Nat → Nat → Prop} (hE : ∀ i k, E i k → i < n ∧ k < n) (h : ∀ i, i < n → ∀ k, (b i).testBit k = true ↔ Cb E i k) (ha : ∀ i, i < n → (b i).testBit i = false) : Po n b :=
  ⟨fun i k hi hk => ((h i hi k).1 hk).lt (fun i k e => (hE i k e).2), ha, fun i j k hi h1 h2 => (h i hi k).2 (((h i hi j).1 h1).trans ((h j (((h i hi j).1 h1).lt (fun i k e => (hE i k e).2)) k).1 h2))⟩
/-- An ideal. -/
def Idl (n : Nat) (b : Nat → Nat) (s : Nat) : Prop := ∀ i, i < n → s.testBit i = true → ∀ k, (b i).testBit k = true → s.testBit k = true
/-- Inside: all bits of one are bits of the other. -/
theorem inside_iff {s t : Nat} : t &&& s = t ↔ ∀ k, t.testBit k = true → s.testBit k = true := by
  constructor
  · intro h k hk
    rw [← h, Nat.testBit_and, Bool.and_eq_true] at hk
    exact hk.2
  · intro h
    apply Nat.eq_of_testBit_eq
    intro k
    rw [Nat.testBit_and]
    cases hk : t.testBit k
    · rfl
    · rw [h k hk]; rfl
/-- What an ideal enables. -/
def enB (b : Nat → Nat) (s i : Nat) : Bool := !s.testBit i && decide (b i &&& s = b i)
theorem enB_iff {b : Nat → Nat} {s i : Nat} : enB b s i = true ↔ s.testBit i = false ∧ ∀ k, (b i).testBit k = true → s.testBit k = true := by
  unfold enB
  rw [Bool.and_eq_true, decide_eq_true_iff, inside_iff, Bool.not_eq_true']
theorem or_bit (s i k : Nat) : (s ||| 1 <<< i).testBit k = (s.testBit k || decide (i = k)) := by rw [tb_or, tb_one]
/-- The elements of a set, ascending. -/
def lst (n s : Nat) : List Nat := (List.range n).filter fun i => s.testBit i
def enL (n : Nat) (b : Nat → Nat) (s : Nat) : List Nat := (List.range n).filter (enB b s)
/-- An antichain. -/
def Anti (n : Nat) (b : Nat → Nat) (s : Nat) : Prop := ∀ i j, i < n → s.testBit i = true → s.testBit j = true → (b i).testBit j = false
theorem filter_le {p q : Nat → Bool} : ∀ (l : List Nat), (∀ i ∈ l, p i = true → q i = true) → (l.filter p).length ≤ (l.filter q).length
  | [], _ => Nat.le_refl _
  | v :: l, h => by
    have ih := filter_le l (fun i hi => h i (List.mem_cons_of_mem _ hi))
    rw [List.filter_cons, List.filter_cons]
    cases hp : p v
    · cases hq : q v
      · simpa using ih
      · simp only [Bool.false_eq_true, if_false, if_true, List.length_cons]; omega
    · rw [h v (by simp) hp]
      simp only [if_true, List.length_cons]; omega
/-- A set from a test. -/
def setB (p : Nat → Bool) : Nat → Nat
  | 0 => 0
  | n + 1 => if p n = true then setB p n ||| 1 <<< n else setB p n
theorem setB_tb (p : Nat → Bool) : ∀ n k, (setB p n).testBit k = (decide (k < n) && p k)
  | 0, k => by simp [setB]
  | n + 1, k => by
    unfold setB
    by_cases hp : p n = true
    · rw [if_pos hp, or_bit, setB_tb p n k]
      by_cases e : n = k
      · subst e; simp [hp]
      · have : decide (k < n + 1) = decide (k < n) := by rw [decide_eq_decide]; omega
        rw [this]; simp [e]
    · rw [if_neg hp, setB_tb p n k]
      by_cases e : n = k
      · subst e; rw [Bool.not_eq_true] at hp; simp [hp]
      · have : decide (k < n + 1) = decide (k < n) := by rw [decide_eq_decide]; omega
        rw [this]
theorem setB_lt (p : Nat → Bool) (n : Nat) : setB p n < 2 ^ n := by
  apply Nat.lt_pow_two_of_testBit
  intro k hk
  rw [setB_tb]
  simp; omega
/-- What an ideal enables is an antichain. -/
theorem en_anti {n : Nat} {b : Nat → Nat} {s : Nat} : Anti n b (setB (enB b s) n) := fun i j hi h1 h2 => by
  rw [setB_tb, Bool.and_eq_true] at h1 h2
  cases h : (b i).testBit j
  · rfl
  · have := (enB_iff.1 h1.2).2 j h
    rw [(enB_iff.1 h2.2).1] at this
    cases this
theorem lst_setB (p : Nat → Bool) (n : Nat) : lst n (setB p n) = (List.range n).filter p := by
  unfold lst
  refine List.filter_congr fun i hi => ?_
  rw [setB_tb, decide_eq_true (List.mem_range.1 hi), Bool.true_and]
/-- Each antichain is among what an ideal enables. -/
theorem anti_en {n : Nat} {b : Nat → Nat} {s : Nat} (hp : Po n b) (h : Anti n b s) : ∃ t, t < 2 ^ n ∧ Idl n b t ∧ (lst n s).length ≤ (enL n b t).length := by
  refine ⟨setB (fun k => (List.range n).any fun i => s.testBit i && (b i).testBit k) n, setB_lt _ _, fun i hi hs k hk => ?_, filter_le _ fun i hi hs => ?_⟩
  · rw [setB_tb, Bool.and_eq_true, List.any_eq_true] at hs ⊢
    obtain ⟨-, j, hj, hjs⟩ := hs
    rw [Bool.and_eq_true] at hjs
    have hjn := List.mem_range.1 hj
    exact ⟨decide_eq_true (hp.lt i k hi hk), j, hj, by rw [Bool.and_eq_true]; exact ⟨hjs.1, hp.tr j i k hjn hjs.2 hk⟩⟩
  · have hin := List.mem_range.1 hi
    rw [enB_iff]
    constructor
    · rw [setB_tb, Bool.and_eq_false_iff]
      right
      rw [List.any_eq_false]
      intro j hj
      rw [Bool.and_eq_true]
      rintro ⟨h1, h2⟩
      rw [h j i (List.mem_range.1 hj) h1 hs] at h2
      cases h2
    · intro k hk
      rw [setB_tb, Bool.and_eq_true, List.any_eq_true]
      exact ⟨decide_eq_true (hp.lt i k hin hk), i, hi, by rw [hs, hk]; rfl⟩
/-- How many elements the largest antichain has. -/
def Wide (n : Nat) (b : Nat → Nat) (w : Nat) : Prop := (∃ s, Anti n b s ∧ (lst n s).length = w) ∧ ∀ s, Anti n b s → (lst n s).length ≤ w
theorem Wide.uniq {n : Nat} {b : Nat → Nat} {v w : Nat} (h : Wide n b v) (k : Wide n b w) : v = w := by
  obtain ⟨s, h1, h2⟩ := h.1
  obtain ⟨t, k1, k2⟩ := k.1
  have := h.2 t k1
  have := k.2 s h1
  omega
/-- Among all sets, and among what the ideals enable. -/
theorem wide_ideals {n : Nat} {b : Nat → Nat} {w : Nat} (hp : Po n b) (h1 : ∃ t, Idl n b t ∧ (enL n b t).length = w) (h2 : ∀ t, t < 2 ^ n → Idl n b t → (enL n b t).length ≤ w) : Wide n b w := by
  constructor
  · obtain ⟨t, -, ht⟩ := h1
    exact ⟨setB (enB b t) n, en_anti, by rw [lst_setB]; exact ht⟩
  · intro s hs
    obtain ⟨t, g1, g2, g3⟩ := anti_en hp hs
    exact Nat.le_trans g3 (h2 t g1 g2)
/-- There is a chain of r + 1 elements that ends with i. -/
def Chn (b : Nat → Nat) : Nat → Nat → Prop
  | 0, _ => True
  | r + 1, i => ∃ k, (b i).testBit k = true ∧ Chn b r k
theorem Chn.less {b : Nat → Nat} : ∀ {r i : Nat}, Chn b (r + 1) i → Chn b r i
  | 0, _, _ => trivial
  | r + 1, i, ⟨k, h1, h2⟩ => ⟨k, h1, Chn.less h2⟩
theorem Chn.mono {b : Nat → Nat} {r i : Nat} : ∀ {q : Nat}, r ≤ q → Chn b q i → Chn b r i
  | 0, h, hc => by obtain rfl : r = 0 := by omega
                   exact hc
  | q + 1, h, hc => by
    by_cases e : r = q + 1
    · subst e; exact hc
    · exact Chn.mono (q := q) (by omega) hc.less
/-- How many elements the longest chain has. -/
def High (n : Nat) (b : Nat → Nat) (h : Nat) : Prop := (∀ i, i < n → ¬ Chn b h i) ∧ (h = 0 ∨ ∃ i, i < n ∧ Chn b (h - 1) i)
theorem High.le {n : Nat} {b : Nat → Nat} {v w : Nat} (h : High n b v) (k : High n b w) : v ≤ w := by
  rcases h.2 with h0 | ⟨i, hi, hc⟩
  · omega
  · have : ¬ w ≤ v - 1 := fun hw => k.1 i hi (hc.mono hw)
    omega
theorem High.uniq {n : Nat} {b : Nat → Nat} {v w : Nat} (h : High n b v) (k : High n b w) : v = w := Nat.le_antisymm (h.le k) (k.le h)
/-- All that come at once, again and again. -/
def come (n : Nat) (b : Nat → Nat) : Nat → Nat
  | 0 => 0
  | r + 1 => come n b r ||| setB (enB b (come n b r)) n
theorem come_iff {n : Nat} {b : Nat → Nat} (hp : Po n b) : ∀ r i, i < n → ((come n b r).testBit i = true ↔ ¬ Chn b r i)
  | 0, i, _ => by simp [come, Chn]
  | r + 1, i, hi => by
    have ih := come_iff hp r
    show (come n b r ||| setB (enB b (come n b r)) n).testBit i = true ↔ ¬ ∃ k, _ ∧ _
    rw [tb_or, setB_tb, decide_eq_true hi, Bool.true_and, Bool.or_eq_true, enB_iff]
    constructor
    · rintro (h | ⟨-, h⟩) ⟨k, hk, hc⟩
      · exact (ih i hi).1 h (show Chn b r i from Chn.less (r := r) ⟨k, hk, hc⟩)
      · exact (ih k (hp.lt i k hi hk)).1 (h k hk) hc
    · intro h
      cases h0 : (come n b r).testBit i
      · refine .inr ⟨rfl, fun k hk => (ih k (hp.lt i k hi hk)).2 fun hc => h ⟨k, hk, hc⟩⟩
      · exact .inl rfl
theorem come_lt {n : Nat} {b : Nat → Nat} : ∀ r, come n b r < 2 ^ n
  | 0 => Nat.two_pow_pos n
  | r + 1 => Nat.or_lt_two_pow (come_lt r) (setB_lt _ _)
theorem high_of {n : Nat} {b : Nat → Nat} {h : Nat} (hp : Po n b) (h1 : ∀ i, i < n → (come n b h).testBit i = true) (h2 : h = 0 ∨ ∃ i, i < n ∧ (come n b (h - 1)).testBit i = false) : High n b h := by
  refine ⟨fun i hi => (come_iff hp h i hi).1 (h1 i hi), h2.imp id fun ⟨i, hi, hc⟩ => ⟨i, hi, ?_⟩⟩
  rcases Classical.em (Chn b (h - 1) i) with h | h
  · exact h
  · rw [(come_iff hp _ i hi).2 h] at hc; cases hc
end Go.Proofs.Ytjheaeeeeggncaa

namespace Go.Proofs.Ytjheaeeeeggncaa
set_option linter.unusedSimpArgs false
set_option linter.unusedVariables false

/-- A chain has no element twice. -/
theorem Chn.list {n : Nat} {b : Nat → Nat} (hp : Po n b) : ∀ (r i : Nat), i < n → Chn b r i → ∃ l : List Nat, l.length = r + 1 ∧ l.Nodup ∧ (∀ x ∈ l, x < n) ∧ ∀ x ∈ l, x = i ∨ (b i).testBit x = true
  | 0, i, hi, _ => ⟨[i], rfl, by simp, by simpa using hi, by simp⟩
  | r + 1, i, hi, ⟨k, hk, hc⟩ => by
    have hkn := hp.lt i k hi hk
    obtain ⟨l, h1, h2, h3, h4⟩ := Chn.list hp r k hkn hc
    have h5 : ∀ x ∈ l, (b i).testBit x = true := fun x hx => by
      rcases h4 x hx with rfl | h
      · exact hk
      · exact hp.tr i k x hi hk h
    refine ⟨i :: l, by simp [h1], List.nodup_cons.2 ⟨fun hm => ?_, h2⟩, fun x hx => ?_, fun x hx => ?_⟩
    · have := h5 i hm
      rw [hp.irr i hi] at this; cases this
    · rcases List.mem_cons.1 hx with rfl | hx
      · exact hi
      · exact h3 x hx
    · rcases List.mem_cons.1 hx with rfl | hx
      · exact .inl rfl
      · exact .inr (h5 x hx)
theorem Chn.lt {n : Nat} {b : Nat → Nat} (hp : Po n b) {r i : Nat} (hi : i < n) (h : Chn b r i) : r < n := by
  obtain ⟨l, h1, h2, h3, -⟩ := Chn.list hp r i hi h
  have := nodup_le n l h2 h3
  omega
section
variable {n : Nat} {b : Nat → Nat} {a : Nat → List Nat}
end
end Go.Proofs.Ytjheaeeeeggncaa

namespace Go.Proofs.Ytjheaeeeeggncaa
set_option linter.unusedSimpArgs false
set_option linter.unusedVariables false

theorem inj_len (R : Nat → Nat → Prop) (hR : ∀ x x' y, R x y → R x' y → x = x') : ∀ (l m : List Nat), l.Nodup → (∀ x ∈ l, ∃ y ∈ m, R x y) → l.length ≤ m.length
  | [], m, _, _ => Nat.zero_le _
  | x :: l, m, hn, h => by
    rw [List.nodup_cons] at hn
    obtain ⟨y, hy, hxy⟩ := h x (by simp)
    have ih := inj_len R hR l (m.erase y) hn.2 (fun z hz => by
      obtain ⟨w, hw, hzw⟩ := h z (List.mem_cons_of_mem _ hz)
      have hne : w ≠ y := fun e => by
        subst e
        have := hR z x w hzw hxy
        subst this
        exact hn.1 hz
      exact ⟨w, (List.mem_erase_of_ne hne).2 hw, hzw⟩)
    rw [List.length_erase_of_mem hy] at ih
    have : 0 < m.length := List.length_pos_of_mem hy
    rw [List.length_cons]; omega
/-- How many elements pass a test. -/
def cnt (n : Nat) (p : Nat → Bool) : Nat := ((List.range n).filter p).length
theorem filter_split (p q : Nat → Bool) : ∀ (l : List Nat), (l.filter p).length = (l.filter fun x => p x && q x).length + (l.filter fun x => p x && !q x).length
  | [] => rfl
  | x :: l => by
    have ih := filter_split p q l
    rw [List.filter_cons, List.filter_cons, List.filter_cons]
    cases hp : p x <;> cases hq : q x <;> simp [hp, hq] <;> omega
theorem cnt_split (n : Nat) (p q : Nat → Bool) : cnt n p = cnt n (fun x => p x && q x) + cnt n (fun x => p x && !q x) := filter_split p q _
theorem cnt_not (n : Nat) (p : Nat → Bool) : cnt n p + cnt n (fun x => !p x) = n := by
  have h := cnt_split n (fun _ => true) p
  have e : cnt n (fun _ => true) = n := by unfold cnt; rw [List.filter_eq_self.2 (fun _ _ => rfl), List.length_range]
  rw [e] at h
  simp only [Bool.true_and] at h
  exact h.symm
theorem cnt_le {n : Nat} {p q : Nat → Bool} (h : ∀ i, i < n → p i = true → q i = true) : cnt n p ≤ cnt n q := filter_le _ fun i hi => h i (List.mem_range.1 hi)
theorem cnt_or (n : Nat) (p q : Nat → Bool) : cnt n (fun x => p x || q x) ≤ cnt n p + cnt n q := by
  rw [cnt_split n (fun x => p x || q x) p]
  have h1 : cnt n (fun x => (p x || q x) && p x) ≤ cnt n p := cnt_le fun i _ h => by rw [Bool.and_eq_true] at h; exact h.2
  have h2 : cnt n (fun x => (p x || q x) && !p x) ≤ cnt n q := cnt_le fun i _ h => by
    rw [Bool.and_eq_true, Bool.or_eq_true, Bool.not_eq_true'] at h
    rcases h.1 with h1 | h1
    · rw [h1] at h; cases h.2
    · exact h1
  omega
theorem cnt_inj {n : Nat} {p q : Nat → Bool} (R : Nat → Nat → Prop) (hR : ∀ x x' y, R x y → R x' y → x = x') (h : ∀ i, i < n → p i = true → ∃ j, j < n ∧ q j = true ∧ R i j) : cnt n p ≤ cnt n q :=
  inj_len R hR _ _ (List.nodup_range.filter _) fun x hx => by
    obtain ⟨h1, h2⟩ := List.mem_filter.1 hx
    obtain ⟨j, g1, g2, g3⟩ := h x (List.mem_range.1 h1) h2
    exact ⟨j, List.mem_filter.2 ⟨List.mem_range.2 g1, g2⟩, g3⟩
/-- A matching: of each element, the next one of its chain, or -1. -/
structure Mt (n : Nat) (b : Nat → Nat) (nx : Nat → Int) : Prop where
  ok : ∀ f, f < n → nx f = -1 ∨ ∃ i, i < n ∧ nx f = (i : Int) ∧ (b i).testBit f = true
  inj : ∀ f g, f < n → g < n → nx f = nx g → nx f ≠ -1 → f = g
/-- An element is the next one of another. -/
def isNx (n : Nat) (nx : Nat → Int) (i : Nat) : Bool := (List.range n).any fun f => nx f == (i : Int)
theorem isNx_iff {n : Nat} {nx : Nat → Int} {i : Nat} : isNx n nx i = true ↔ ∃ f, f < n ∧ nx f = (i : Int) := by
  unfold isNx
  rw [List.any_eq_true]
  constructor
  · rintro ⟨f, hf, h⟩; exact ⟨f, List.mem_range.1 hf, by simpa using h⟩
  · rintro ⟨f, hf, h⟩; exact ⟨f, List.mem_range.2 hf, by simpa using h⟩
section
variable {n : Nat} {b : Nat → Nat} {nx : Nat → Int}
/-- No antichain has more elements than there are chains. -/
theorem anti_chains (hp : Po n b) (hm : Mt n b nx) {s : Nat} (h : Anti n b s) : (lst n s).length ≤ cnt n fun i => !isNx n nx i := by
  let up : Nat → Bool := fun x => (List.range n).any fun a => s.testBit a && (b x).testBit a
  have hup : ∀ x, up x = true ↔ ∃ a, a < n ∧ s.testBit a = true ∧ (b x).testBit a = true := fun x => by
    show ((List.range n).any fun a => s.testBit a && (b x).testBit a) = true ↔ _
    rw [List.any_eq_true]
    constructor
    · rintro ⟨a, ha, h⟩; rw [Bool.and_eq_true] at h; exact ⟨a, List.mem_range.1 ha, h⟩
    · rintro ⟨a, ha, h⟩; exact ⟨a, List.mem_range.2 ha, by rw [Bool.and_eq_true]; exact h⟩
  have c1 := cnt_not n (isNx n nx)
  have c2 := cnt_not n (fun x => s.testBit x || up x)
  have c3 := cnt_split n (fun x => s.testBit x || up x) (fun x => s.testBit x)
  have c4 : cnt n (fun x => s.testBit x) ≤ cnt n (fun x => (s.testBit x || up x) && s.testBit x) := cnt_le fun i _ h => by rw [h]; rfl
  have c5 : cnt n up ≤ cnt n (fun x => (s.testBit x || up x) && !s.testBit x) := cnt_le fun i hi hu => by
    have : s.testBit i = false := by
      cases e : s.testBit i
      · rfl
      · obtain ⟨a, ha, h1, h2⟩ := (hup i).1 hu
        rw [h i a hi e h1] at h2; cases h2
    rw [hu, this]; rfl
  have c6 := cnt_split n (isNx n nx) up
  have c7 : cnt n (fun x => isNx n nx x && up x) ≤ cnt n up := cnt_le fun i _ h => by rw [Bool.and_eq_true] at h; exact h.2
  have c8 : cnt n (fun x => isNx n nx x && !up x) ≤ cnt n (fun x => !(s.testBit x || up x)) := by
    refine cnt_inj (fun i f => nx f = (i : Int)) (fun x x' y h1 h2 => by rw [h1] at h2; exact Int.ofNat.inj h2) fun i hi h0 => ?_
    rw [Bool.and_eq_true, Bool.not_eq_true'] at h0
    obtain ⟨f, hf, hfi⟩ := isNx_iff.1 h0.1
    have hbf : (b i).testBit f = true := by
      rcases hm.ok f hf with h1 | ⟨j, hj, h1, h2⟩
      · rw [h1] at hfi; omega
      · rw [hfi] at h1
        have : i = j := Int.ofNat.inj h1
        subst this
        exact h2
    refine ⟨f, hf, ?_, hfi⟩
    rw [Bool.not_eq_true', Bool.or_eq_false_iff]
    constructor
    · cases e : s.testBit f
      · rfl
      · rw [(hup i).2 ⟨f, hf, e, hbf⟩] at h0; cases h0.2
    · cases e : up f
      · rfl
      · obtain ⟨a, ha, h1, h2⟩ := (hup f).1 e
        rw [(hup i).2 ⟨a, ha, h1, hp.tr i f a hi hbf h2⟩] at h0; cases h0.2
  show cnt n (fun x => s.testBit x) ≤ _
  omega
/-- What failed searches leave: an antichain with an element of each chain. -/
theorem chains_anti (hm : Mt n b nx) (T : Nat → Bool) (hT : ∀ f, f < n → T f = true → nx f ≠ -1) (hc : ∀ i, i < n → (isNx n nx i = false ∨ ∃ f, f < n ∧ T f = true ∧ nx f = (i : Int)) → ∀ k, (b i).testBit k = true → T k = true) :
    ∃ s, Anti n b s ∧ cnt n (fun i => !isNx n nx i) ≤ (lst n s).length := by
  let q : Nat → Bool := fun x => (List.range n).any fun f => T f && nx f == (x : Int)
  have hq : ∀ x, q x = true ↔ ∃ f, f < n ∧ T f = true ∧ nx f = (x : Int) := fun x => by
    show ((List.range n).any fun f => T f && nx f == (x : Int)) = true ↔ _
    rw [List.any_eq_true]
    constructor
    · rintro ⟨f, hf, h⟩; rw [Bool.and_eq_true] at h; exact ⟨f, List.mem_range.1 hf, h.1, by simpa using h.2⟩
    · rintro ⟨f, hf, h1, h2⟩; exact ⟨f, List.mem_range.2 hf, by rw [h1, h2]; simp⟩
  let p : Nat → Bool := fun x => !T x && (!isNx n nx x || q x)
  refine ⟨setB p n, fun i j hi h1 h2 => ?_, ?_⟩
  · rw [setB_tb, Bool.and_eq_true] at h1 h2
    have g1 : (!T i && (!isNx n nx i || q i)) = true := h1.2
    have g2 : (!T j && (!isNx n nx j || q j)) = true := h2.2
    rw [Bool.and_eq_true, Bool.or_eq_true, Bool.not_eq_true', Bool.not_eq_true'] at g1 g2
    cases e : (b i).testBit j
    · rfl
    · have := hc i hi (g1.2.imp id fun h => (hq i).1 h) j e
      rw [g2.1] at this; cases this
  · rw [lst_setB]
    show _ ≤ cnt n p
    have c1 := cnt_not n (isNx n nx)
    have c2 := cnt_not n p
    have c3 : cnt n (fun x => !p x) ≤ cnt n T + cnt n (fun x => isNx n nx x && !q x) := by
      refine Nat.le_trans (cnt_le fun i _ h => ?_) (cnt_or n T fun x => isNx n nx x && !q x)
      have h : (!(!T i && (!isNx n nx i || q i))) = true := h
      cases hT : T i <;> cases hx : isNx n nx i <;> cases hqi : q i <;> simp [hT, hx, hqi] at h ⊢
    have c4 := cnt_split n (isNx n nx) q
    have c5 : cnt n T ≤ cnt n (fun x => isNx n nx x && q x) := by
      refine cnt_inj (fun f i => f < n ∧ nx f = (i : Int)) (fun x x' y h1 h2 => hm.inj x x' h1.1 h2.1 (h1.2.trans h2.2.symm) (by rw [h1.2]; omega)) fun f hf hTf => ?_
      rcases hm.ok f hf with h1 | ⟨i, hi, h1, h2⟩
      · exact absurd h1 (hT f hf hTf)
      · exact ⟨i, hi, by rw [Bool.and_eq_true]; exact ⟨isNx_iff.2 ⟨f, hf, h1⟩, (hq i).2 ⟨f, hf, hTf, h1⟩⟩, hf, h1⟩
    omega
/-- Dilworth: so many chains as the widest antichain has elements. -/
theorem wide_chains (hp : Po n b) (hm : Mt n b nx) (T : Nat → Bool) (hT : ∀ f, f < n → T f = true → nx f ≠ -1) (hc : ∀ i, i < n → (isNx n nx i = false ∨ ∃ f, f < n ∧ T f = true ∧ nx f = (i : Int)) → ∀ k, (b i).testBit k = true → T k = true) : Wide n b (cnt n fun i => !isNx n nx i) := by
  obtain ⟨s, h1, h2⟩ := chains_anti hm T hT hc
  exact ⟨⟨s, h1, Nat.le_antisymm (anti_chains hp hm h1) h2⟩, fun t ht => anti_chains hp hm ht⟩
end
end Go.Proofs.Ytjheaeeeeggncaa

namespace Go.Proofs.Ytjheaeeeeggncaa
set_option linter.unusedSimpArgs false
set_option linter.unusedVariables false

abbrev JSt := Nat × (Nat → Int)
def putN (nx : Nat → Int) (f i : Nat) : Nat → Int := fun g => if g = f then (i : Int) else nx g
/-- The loop over what comes before i. -/
def jLoop (rec : Nat → Nat → (Nat → Int) → Bool × JSt) (i : Nat) : List Nat → Nat → (Nat → Int) → Bool × JSt
  | [], tr, nx => (false, tr, nx)
  | f :: L, tr, nx =>
    if tr.testBit f = true then jLoop rec i L tr nx
    else if nx f = -1 then (true, tr ||| 1 <<< f, putN nx f i)
    else
      let r := rec (nx f).toNat (tr ||| 1 <<< f) nx
      if r.1 = true then (true, r.2.1, putN r.2.2 f i) else jLoop rec i L r.2.1 r.2.2
def jn (n : Nat) (b : Nat → Nat) : Nat → Nat → Nat → (Nat → Int) → Bool × JSt
  | 0, _, tr, nx => (false, tr, nx)
  | fuel + 1, i, tr, nx => jLoop (jn n b fuel) i (lst n (b i)) tr nx
/-- A search that failed. -/
structure JNo (n : Nat) (b : Nat → Nat) (tr : Nat) (nx : Nat → Int) (tr' : Nat) (nx' : Nat → Int) : Prop where
  same : nx' = nx
  sub : ∀ f, tr.testBit f = true → tr'.testBit f = true
  new : ∀ f, tr'.testBit f = true → tr.testBit f = true ∨ (f < n ∧ nx f ≠ -1 ∧ ∀ k, (b (nx f).toNat).testBit k = true → tr'.testBit k = true)
/-- A set of elements from which no search succeeds. -/
structure Cls (n : Nat) (b : Nat → Nat) (nx : Nat → Int) (T : Nat → Bool) : Prop where
  full : ∀ f, f < n → T f = true → nx f ≠ -1
  in_ : ∀ f, f < n → T f = true → ∀ k, (b (nx f).toNat).testBit k = true → T k = true
/-- A search that succeeded. -/
structure JYes (n : Nat) (b : Nat → Nat) (i tr : Nat) (nx : Nat → Int) (nx' : Nat → Int) : Prop where
  keep : ∀ f, tr.testBit f = true → nx' f = nx f
  ok : ∀ f, f < n → nx' f = -1 ∨ ∃ i, i < n ∧ nx' f = (i : Int) ∧ (b i).testBit f = true
  new : ∃ f, f < n ∧ tr.testBit f = false ∧ nx' f = (i : Int)
  inj : ∀ g h, g < n → h < n → nx' g = nx' h → nx' g ≠ -1 → g = h ∨ (nx' g = (i : Int) ∧ (tr.testBit g = true ∨ tr.testBit h = true))
  rest : ∀ v : Nat, v ≠ i → (∀ g, g < n → nx g = (v : Int) → tr.testBit g = true) → ∀ h, h < n → (nx' h = (v : Int) ↔ nx h = (v : Int))
  img : ∀ v : Nat, (∃ f, f < n ∧ nx' f = (v : Int)) ↔ (∃ f, f < n ∧ nx f = (v : Int)) ∨ v = i
  cls : ∀ T, Cls n b nx T → ∀ f, f < n → T f = true → nx' f = nx f
section
variable {n : Nat} {b : Nat → Nat}
theorem lst_mem {n s f : Nat} : f ∈ lst n s ↔ f < n ∧ s.testBit f = true := by unfold lst; rw [List.mem_filter, List.mem_range]
def free (n tr : Nat) : Nat := cnt n fun f => !tr.testBit f
theorem free_less {tr f : Nat} (hf : f < n) (h : tr.testBit f = false) : free n (tr ||| 1 <<< f) < free n tr := by
  have h1 := cnt_split n (fun x => !tr.testBit x) (fun x => x == f)
  have h2 : cnt n (fun x => !(tr ||| 1 <<< f).testBit x) ≤ cnt n (fun x => !tr.testBit x && !(x == f)) := cnt_le fun x _ hx => by
    rw [Bool.not_eq_true', or_bit, Bool.or_eq_false_iff, decide_eq_false_iff_not] at hx
    rw [hx.1]
    simp
    exact fun e => hx.2 e.symm
  have h3 : 0 < cnt n (fun x => !tr.testBit x && x == f) := List.length_pos_of_mem (List.mem_filter.2 ⟨List.mem_range.2 hf, by rw [h]; simp⟩)
  unfold free
  omega
theorem free_sub {tr tr' : Nat} (h : ∀ f, tr.testBit f = true → tr'.testBit f = true) : free n tr' ≤ free n tr := cnt_le fun x _ hx => by
  rw [Bool.not_eq_true'] at hx ⊢
  cases e : tr.testBit x
  · rfl
  · rw [h x e] at hx; cases hx
theorem sub_put (tr f : Nat) : ∀ g, tr.testBit g = true → (tr ||| 1 <<< f).testBit g = true := fun g h => by rw [or_bit, h]; rfl
/-- What the search does. -/
theorem jn_spec (hp : Po n b) : ∀ (fuel i tr : Nat) (nx : Nat → Int), i < n → free n tr < fuel → Mt n b nx → (∀ g, g < n → nx g = (i : Int) → tr.testBit g = true) →
    ((jn n b fuel i tr nx).1 = false → JNo n b tr nx (jn n b fuel i tr nx).2.1 (jn n b fuel i tr nx).2.2 ∧ ∀ k, (b i).testBit k = true → (jn n b fuel i tr nx).2.1.testBit k = true) ∧
    ((jn n b fuel i tr nx).1 = true → JYes n b i tr nx (jn n b fuel i tr nx).2.2) ∧
    (∀ T, Cls n b nx T → (∀ k, (b i).testBit k = true → T k = true) → (jn n b fuel i tr nx).1 = false)
  | 0, i, tr, nx, _, h, _, _ => absurd h (Nat.not_lt_zero _)
  | fuel + 1, i, tr, nx, hi, hfr, hm, hpre => by
    have key : ∀ (L : List Nat) (t : Nat), (∀ f ∈ L, f < n ∧ (b i).testBit f = true) → (∀ f, tr.testBit f = true → t.testBit f = true) → free n t < fuel + 1 →
        ((jLoop (jn n b fuel) i L t nx).1 = false → JNo n b t nx (jLoop (jn n b fuel) i L t nx).2.1 (jLoop (jn n b fuel) i L t nx).2.2 ∧ ∀ k ∈ L, (jLoop (jn n b fuel) i L t nx).2.1.testBit k = true) ∧
        ((jLoop (jn n b fuel) i L t nx).1 = true → JYes n b i tr nx (jLoop (jn n b fuel) i L t nx).2.2) ∧
        (∀ T, Cls n b nx T → (∀ k ∈ L, T k = true) → (jLoop (jn n b fuel) i L t nx).1 = false) := by
      intro L
      induction L with
      | nil => intro t _ _ _; exact ⟨fun _ => ⟨⟨rfl, fun _ h => h, fun _ h => .inl h⟩, fun k hk => (by cases hk)⟩, fun h => (by cases h), fun _ _ _ => rfl⟩
      | cons f L ih =>
        intro t hL htr hft
        obtain ⟨hfn, hbf⟩ := hL f (by simp)
        have hL2 : ∀ f ∈ L, f < n ∧ (b i).testBit f = true := fun g hg => hL g (List.mem_cons_of_mem _ hg)
        unfold jLoop
        by_cases hf : t.testBit f = true
        · rw [if_pos hf]
          obtain ⟨h1, h2, h3⟩ := ih t hL2 htr hft
          refine ⟨fun h => ?_, h2, fun T hc hT => h3 T hc (fun k hk => hT k (List.mem_cons_of_mem _ hk))⟩
          obtain ⟨g1, g2⟩ := h1 h
          refine ⟨g1, fun k hk => ?_⟩
          rcases List.mem_cons.1 hk with rfl | hk
          · exact g1.sub k hf
          · exact g2 k hk
        · rw [if_neg hf]
          have hf0 : t.testBit f = false := by rw [Bool.not_eq_true] at hf; exact hf
          have htf : tr.testBit f = false := by
            cases e : tr.testBit f
            · rfl
            · rw [htr f e] at hf0; cases hf0
          have hni : nx f ≠ (i : Int) := fun e => by rw [hpre f hfn e] at htf; cases htf
          by_cases hn : nx f = -1
          · rw [if_pos hn]
            refine ⟨fun h => (by cases h), fun _ => ?_, fun T hc hT => absurd hn (hc.full f hfn (hT f (by simp)))⟩
            show JYes n b i tr nx (putN nx f i)
            refine ⟨fun g hg => ?_, fun g hg => ?_, ⟨f, hfn, htf, by simp [putN]⟩, fun g h hg hh e hne => ?_, fun v hv hg h hh => ?_, fun v => ?_, fun T hc g hg hT => ?_⟩
            · unfold putN; rw [if_neg (fun e => by subst e; rw [htf] at hg; cases hg)]
            · unfold putN
              by_cases e : g = f
              · subst e; rw [if_pos rfl]; exact .inr ⟨i, hi, rfl, hbf⟩
              · rw [if_neg e]; exact hm.ok g hg
            · unfold putN at e hne ⊢
              by_cases e1 : g = f
              · subst e1
                rw [if_pos rfl] at e hne ⊢
                by_cases e2 : h = g
                · exact .inl e2.symm
                · rw [if_neg e2] at e
                  exact .inr ⟨rfl, .inr (hpre h hh e.symm)⟩
              · rw [if_neg e1] at e hne ⊢
                by_cases e2 : h = f
                · subst e2
                  rw [if_pos rfl] at e
                  exact .inr ⟨e, .inl (hpre g hg e)⟩
                · rw [if_neg e2] at e
                  exact .inl (hm.inj g h hg hh e hne)
            · unfold putN
              by_cases e : h = f
              · subst e
                rw [if_pos rfl, hn]
                exact ⟨fun e => absurd (Int.ofNat.inj e).symm hv, fun e => by omega⟩
              · rw [if_neg e]
            · unfold putN
              constructor
              · rintro ⟨g, hg, e⟩
                by_cases e1 : g = f
                · subst e1; rw [if_pos rfl] at e; exact .inr (Int.ofNat.inj e).symm
                · rw [if_neg e1] at e; exact .inl ⟨g, hg, e⟩
              · rintro (⟨g, hg, e⟩ | rfl)
                · refine ⟨g, hg, ?_⟩
                  rw [if_neg (fun e1 => by subst e1; rw [hn] at e; omega)]; exact e
                · exact ⟨f, hfn, by rw [if_pos rfl]⟩
            · unfold putN
              rw [if_neg (fun e => by subst e; exact hc.full g hg hT hn)]
          · rw [if_neg hn]
            obtain ⟨j, hj, hnj, hbj⟩ : ∃ j, j < n ∧ nx f = (j : Int) ∧ (b j).testBit f = true := (hm.ok f hfn).resolve_left hn
            have hjt : (nx f).toNat = j := by rw [hnj]; rfl
            have hij : i ≠ j := fun e => hni (by rw [hnj, e])
            have hpj : ∀ g, g < n → nx g = (j : Int) → (t ||| 1 <<< f).testBit g = true := fun g hg e => by
              have := hm.inj g f hg hfn (by rw [e, hnj]) (by rw [e]; omega)
              subst this
              rw [or_bit]; simp
            obtain ⟨r1, r2, r3⟩ := jn_spec hp fuel j (t ||| 1 <<< f) nx hj (by have := free_less hfn hf0; omega) hm hpj
            rw [hjt]
            simp only
            cases hr : (jn n b fuel j (t ||| 1 <<< f) nx).1
            · rw [if_neg (by decide)]
              obtain ⟨q1, q2⟩ := r1 hr
              have hsub : ∀ g, t.testBit g = true → (jn n b fuel j (t ||| 1 <<< f) nx).2.1.testBit g = true := fun g hg => q1.sub g (sub_put t f g hg)
              have hsm := q1.same
              obtain ⟨t2, ht2⟩ : ∃ x, x = (jn n b fuel j (t ||| 1 <<< f) nx).2.1 := ⟨_, rfl⟩
              rw [hsm, ← ht2]
              rw [← ht2] at q1 q2 hsub
              obtain ⟨h1, h2, h3⟩ := ih t2 hL2 (fun g hg => hsub g (htr g hg)) (by have := free_sub (n := n) hsub; omega)
              refine ⟨fun h => ?_, h2, fun T hc hT => h3 T hc (fun k hk => hT k (List.mem_cons_of_mem _ hk))⟩
              obtain ⟨g1, g2⟩ := h1 h
              have hft2 : t2.testBit f = true := q1.sub f (by rw [or_bit]; simp)
              refine ⟨⟨g1.same, fun g hg => g1.sub g (hsub g hg), fun g hg => ?_⟩, fun k hk => ?_⟩
              · rcases g1.new g hg with h5 | h5
                · rcases q1.new g h5 with h6 | h6
                  · rw [or_bit, Bool.or_eq_true, decide_eq_true_iff] at h6
                    rcases h6 with h6 | rfl
                    · exact .inl h6
                    · refine .inr ⟨hfn, hn, fun k hk => ?_⟩
                      rw [hjt] at hk
                      exact g1.sub k (q2 k hk)
                  · exact .inr ⟨h6.1, h6.2.1, fun k hk => g1.sub k (h6.2.2 k hk)⟩
                · exact .inr h5
              · rcases List.mem_cons.1 hk with rfl | hk
                · exact g1.sub k hft2
                · exact g2 k hk
            · rw [if_pos rfl]
              have q := r2 hr
              obtain ⟨nx2, hx2⟩ : ∃ x, x = (jn n b fuel j (t ||| 1 <<< f) nx).2.2 := ⟨_, rfl⟩
              rw [← hx2] at q ⊢
              have hno : ∀ T, Cls n b nx T → T f = true → False := fun T hc hT => by
                have := r3 T hc (fun k hk => hc.in_ f hfn hT k (by rw [hjt]; exact hk))
                rw [hr] at this; cases this
              have htf1 : (t ||| 1 <<< f).testBit f = true := by rw [or_bit]; simp
              have hft1 : ∀ g, tr.testBit g = true → (t ||| 1 <<< f).testBit g = true := fun g hg => sub_put t f g (htr g hg)
              refine ⟨fun h => (by cases h), fun _ => ?_, fun T hc hT => (hno T hc (hT f (by simp))).elim⟩
              show JYes n b i tr nx (putN nx2 f i)
              refine ⟨fun g hg => ?_, fun g hg => ?_, ⟨f, hfn, htf, by simp [putN]⟩, fun g h hg hh e hne => ?_, fun v hv hg h hh => ?_, fun v => ?_, fun T hc g hg hT => ?_⟩
              · unfold putN
                rw [if_neg (fun e => by subst e; rw [htf] at hg; cases hg)]
                exact q.keep g (hft1 g hg)
              · unfold putN
                by_cases e : g = f
                · subst e; rw [if_pos rfl]; exact .inr ⟨i, hi, rfl, hbf⟩
                · rw [if_neg e]; exact q.ok g hg
              · have hiv : ∀ h, h < n → nx2 h = (i : Int) → tr.testBit h = true := fun h hh e => hpre h hh ((q.rest i hij (fun g hg e => hft1 g (hpre g hg e)) h hh).1 e)
                unfold putN at e hne ⊢
                by_cases e1 : g = f
                · subst e1
                  rw [if_pos rfl] at e hne ⊢
                  by_cases e2 : h = g
                  · exact .inl e2.symm
                  · rw [if_neg e2] at e
                    exact .inr ⟨rfl, .inr (hiv h hh e.symm)⟩
                · rw [if_neg e1] at e hne ⊢
                  by_cases e2 : h = f
                  · subst e2
                    rw [if_pos rfl] at e
                    exact .inr ⟨e, .inl (hiv g hg e)⟩
                  · rw [if_neg e2] at e
                    rcases q.inj g h hg hh e hne with h1 | ⟨h1, h2 | h2⟩
                    · exact .inl h1
                    · rw [q.keep g h2] at h1
                      exact absurd (hm.inj g f hg hfn (by rw [h1, hnj]) (by rw [h1]; omega)) e1
                    · rw [e, q.keep h h2] at h1
                      exact absurd (hm.inj h f hh hfn (by rw [h1, hnj]) (by rw [h1]; omega)) e2
              · have hvj : v ≠ j := fun e => by
                  subst e
                  rw [hg f hfn hnj] at htf; cases htf
                unfold putN
                by_cases e : h = f
                · subst e
                  rw [if_pos rfl, hnj]
                  exact ⟨fun e => absurd (Int.ofNat.inj e).symm hv, fun e => absurd (Int.ofNat.inj e).symm hvj⟩
                · rw [if_neg e]
                  exact q.rest v hvj (fun g hg2 e => hft1 g (hg g hg2 e)) h hh
              · unfold putN
                constructor
                · rintro ⟨g, hg, e⟩
                  by_cases e1 : g = f
                  · subst e1; rw [if_pos rfl] at e; exact .inr (Int.ofNat.inj e).symm
                  · rw [if_neg e1] at e
                    rcases (q.img v).1 ⟨g, hg, e⟩ with h1 | rfl
                    · exact .inl h1
                    · exact .inl ⟨f, hfn, hnj⟩
                · intro h0
                  by_cases hv : v = i
                  · subst hv; exact ⟨f, hfn, by rw [if_pos rfl]⟩
                  · obtain ⟨g, hg, e⟩ := (q.img v).2 (.inl (h0.resolve_right hv))
                    by_cases e1 : g = f
                    · subst e1
                      rw [q.keep g htf1, hnj] at e
                      have : j = v := Int.ofNat.inj e
                      subst this
                      obtain ⟨f2, h1, h2, h3⟩ := q.new
                      refine ⟨f2, h1, ?_⟩
                      rw [if_neg (fun e => by subst e; rw [htf1] at h2; cases h2)]; exact h3
                    · exact ⟨g, hg, by rw [if_neg e1]; exact e⟩
              · unfold putN
                rw [if_neg (fun e => by subst e; exact hno T hc hT)]
                exact q.cls T hc g hg hT
    obtain ⟨k1, k2, k3⟩ := key (lst n (b i)) tr (fun f hf => lst_mem.1 hf) (fun _ h => h) hfr
    exact ⟨fun h => ⟨(k1 h).1, fun k hk => (k1 h).2 k (lst_mem.2 ⟨hp.lt i k hi hk, hk⟩)⟩, k2, fun T hc hT => k3 T hc (fun k hk => hT k (lst_mem.1 hk).2)⟩
/-- The elements joined one after another. -/
def joinB (n : Nat) (b : Nat → Nat) : Nat → Nat → Int
  | 0 => fun _ => -1
  | p + 1 => (jn n b (n + 1) p 0 (joinB n b p)).2.2
theorem join_inv (hp : Po n b) : ∀ p, p ≤ n → Mt n b (joinB n b p) ∧ (∀ i, p ≤ i → isNx n (joinB n b p) i = false) ∧ ∃ T, Cls n b (joinB n b p) T ∧ ∀ i, i < p → isNx n (joinB n b p) i = true ∨ ∀ k, (b i).testBit k = true → T k = true
  | 0, _ => ⟨⟨fun f _ => .inl rfl, fun f g _ _ _ h => absurd rfl h⟩, fun i _ => by
      rw [Bool.eq_false_iff]
      intro h
      obtain ⟨f, hf, e⟩ := isNx_iff.1 h
      have e : (-1 : Int) = (i : Int) := e
      omega, fun _ => false, ⟨fun f _ h => (by cases h), fun f _ h => (by cases h)⟩, fun i hi => absurd hi (Nat.not_lt_zero _)⟩
  | p + 1, hpn => by
    obtain ⟨hm, hun, T, hc, hd⟩ := join_inv hp p (by omega)
    have hfree : free n 0 < n + 1 := by
      have := cnt_not n (fun f => !(0 : Nat).testBit f)
      unfold free; omega
    have hnp : ∀ g, g < n → joinB n b p g = (p : Int) → (0 : Nat).testBit g = true := fun g hg e => by
      have := hun p (Nat.le_refl _)
      rw [isNx_iff.2 ⟨g, hg, e⟩] at this; cases this
    obtain ⟨h1, h2, -⟩ := jn_spec hp (n + 1) p 0 (joinB n b p) (by omega) hfree hm hnp
    show Mt n b (jn n b (n + 1) p 0 (joinB n b p)).2.2 ∧ _
    cases hr : (jn n b (n + 1) p 0 (joinB n b p)).1
    · obtain ⟨g1, g2⟩ := h1 hr
      have hs : joinB n b (p + 1) = joinB n b p := g1.same
      rw [g1.same, hs]
      obtain ⟨t2, ht2⟩ : ∃ x, x = (jn n b (n + 1) p 0 (joinB n b p)).2.1 := ⟨_, rfl⟩
      rw [← ht2] at g1 g2
      refine ⟨hm, fun i hi => hun i (by omega), fun f => T f || t2.testBit f, ⟨fun f hf h => ?_, fun f hf h k hk => ?_⟩, fun i hi => ?_⟩
      · have h : (T f || t2.testBit f) = true := h
        rw [Bool.or_eq_true] at h
        rcases h with h | h
        · exact hc.full f hf h
        · rcases g1.new f h with h5 | h5
          · simp at h5
          · exact h5.2.1
      · have h : (T f || t2.testBit f) = true := h
        show (T k || t2.testBit k) = true
        rw [Bool.or_eq_true] at h ⊢
        rcases h with h | h
        · exact .inl (hc.in_ f hf h k hk)
        · rcases g1.new f h with h5 | h5
          · simp at h5
          · exact .inr (h5.2.2 k hk)
      · by_cases e : i = p
        · subst e
          exact .inr fun k hk => by show (T k || t2.testBit k) = true; rw [g2 k hk]; simp
        · rcases hd i (by omega) with h | h
          · exact .inl h
          · exact .inr fun k hk => by show (T k || t2.testBit k) = true; rw [h k hk]; rfl
    · have q := h2 hr
      have hs : joinB n b (p + 1) = (jn n b (n + 1) p 0 (joinB n b p)).2.2 := rfl
      obtain ⟨nx2, hx2⟩ : ∃ x, x = (jn n b (n + 1) p 0 (joinB n b p)).2.2 := ⟨_, rfl⟩
      rw [hs, ← hx2]
      rw [← hx2] at q
      refine ⟨⟨q.ok, fun f g hf hg e hne => ?_⟩, fun i hi => ?_, T, ⟨fun f hf h => ?_, fun f hf h k hk => ?_⟩, fun i hi => ?_⟩
      · rcases q.inj f g hf hg e hne with h | ⟨-, h | h⟩
        · exact h
        · simp at h
        · simp at h
      · rw [Bool.eq_false_iff]
        intro h
        rcases (q.img i).1 (isNx_iff.1 h) with h | h
        · have := hun i (by omega)
          rw [isNx_iff.2 h] at this; cases this
        · omega
      · rw [q.cls T hc f hf h]; exact hc.full f hf h
      · rw [q.cls T hc f hf h] at hk; exact hc.in_ f hf h k hk
      · by_cases e : i = p
        · exact .inl (isNx_iff.2 ((q.img i).2 (.inr e)))
        · rcases hd i (by omega) with h | h
          · exact .inl (isNx_iff.2 ((q.img i).2 (.inl (isNx_iff.1 h))))
          · exact .inr h
/-- The chains are as many as the widest antichain has elements. -/
theorem wide_join (hp : Po n b) : Mt n b (joinB n b n) ∧ Wide n b (cnt n fun i => !isNx n (joinB n b n) i) := by
  obtain ⟨hm, -, T, hc, hd⟩ := join_inv hp n (Nat.le_refl _)
  refine ⟨hm, wide_chains hp hm T hc.full fun i hi h k hk => ?_⟩
  rcases h with h | ⟨f, hf, hT, e⟩
  · rcases hd i hi with h2 | h2
    · rw [h] at h2; cases h2
    · exact h2 k hk
  · exact hc.in_ f hf hT k (by rw [e]; exact hk)
end
end Go.Proofs.Ytjheaeeeeggncaa

namespace Go.Proofs.Ytjheaeeeeggncaa
set_option linter.unusedSimpArgs false
set_option linter.unusedVariables false

def wyF (n : Nat) (b : Nat → Nat) : Nat → Nat → Nat
  | 0, _ => 1
  | r + 1, s => ((enL n b s).map fun i => wyF n b r (s ||| 1 <<< i)).sum
/-- In how many ways the elements of a set can be followed by all others. -/
def wys (n : Nat) (b : Nat → Nat) (s : Nat) : Nat := wyF n b (free n s) s
section
variable {n : Nat} {b : Nat → Nat}
theorem enL_mem {s i : Nat} : i ∈ enL n b s ↔ i < n ∧ enB b s i = true := by unfold enL; rw [List.mem_filter, List.mem_range]
theorem one_of (i : Nat) : ∀ n, i < n → ((List.range n).filter fun x => x == i).length = 1
  | 0, h => absurd h (Nat.not_lt_zero _)
  | n + 1, h => by
    rw [List.range_succ, List.filter_append, List.length_append]
    by_cases e : i = n
    · subst e
      have h0 : (List.range i).filter (fun x => x == i) = [] := by
        rw [List.filter_eq_nil_iff]
        intro x hx
        have := List.mem_range.1 hx
        simp; omega
      rw [h0]; simp
    · rw [one_of i n (by omega)]
      have : (n == i) = false := by rw [beq_eq_false_iff_ne]; omega
      simp [this]
theorem free_put {s i : Nat} (hi : i < n) (h : s.testBit i = false) : free n (s ||| 1 <<< i) + 1 = free n s := by
  have h1 := cnt_split n (fun x => !s.testBit x) (fun x => x == i)
  have h2 : cnt n (fun x => !s.testBit x && !(x == i)) = free n (s ||| 1 <<< i) := by
    unfold free cnt
    congr 1
    refine List.filter_congr fun x _ => ?_
    rw [or_bit]
    cases e : s.testBit x
    · by_cases e2 : x = i
      · subst e2; simp
      · have : ¬ i = x := fun h => e2 h.symm
        simp [e2, this]
    · simp
  have h3 : cnt n (fun x => !s.testBit x && x == i) = 1 := by
    unfold cnt
    have e : (List.range n).filter (fun x => !s.testBit x && x == i) = (List.range n).filter (fun x => x == i) := List.filter_congr fun x _ => by
      by_cases e : x = i
      · subst e; rw [h]; rfl
      · simp [e]
    rw [e]
    exact one_of i n hi
  unfold free at h2 ⊢
  omega
theorem free_all : free n (2 ^ n - 1) = 0 := by
  unfold free cnt
  rw [List.length_eq_zero_iff, List.filter_eq_nil_iff]
  intro i hi
  rw [Nat.testBit_two_pow_sub_one]
  simp [List.mem_range.1 hi]
theorem wys_all : wys n b (2 ^ n - 1) = 1 := by unfold wys; rw [free_all]; rfl
theorem free_pos {s : Nat} (hs : s < 2 ^ n) (h : s ≠ 2 ^ n - 1) : 0 < free n s := by
  rcases Nat.eq_zero_or_pos (free n s) with h0 | h0
  · exfalso
    apply h
    apply Nat.eq_of_testBit_eq
    intro k
    rw [Nat.testBit_two_pow_sub_one]
    by_cases hk : k < n
    · unfold free cnt at h0
      rw [List.length_eq_zero_iff, List.filter_eq_nil_iff] at h0
      have := h0 k (List.mem_range.2 hk)
      rw [decide_eq_true hk]
      cases e : s.testBit k
      · rw [e] at this; simp at this
      · rfl
    · rw [decide_eq_false hk]
      exact Nat.testBit_lt_two_pow (Nat.lt_of_lt_of_le hs (Nat.pow_le_pow_right (by omega) (by omega)))
  · exact h0
theorem wys_step {s : Nat} (hs : s < 2 ^ n) (h : s ≠ 2 ^ n - 1) : wys n b s = ((enL n b s).map fun i => wys n b (s ||| 1 <<< i)).sum := by
  have h0 := free_pos hs h
  unfold wys
  obtain ⟨r, hr⟩ : ∃ r, free n s = r + 1 := ⟨free n s - 1, by omega⟩
  rw [hr]
  show ((enL n b s).map fun i => wyF n b r (s ||| 1 <<< i)).sum = _
  congr 1
  refine List.map_congr_left fun i hi => ?_
  obtain ⟨h1, h2⟩ := enL_mem.1 hi
  have := free_put h1 (enB_iff.1 h2).1
  rw [show free n (s ||| 1 <<< i) = r by omega]
def fac : Nat → Nat
  | 0 => 1
  | r + 1 => (r + 1) * fac r
theorem sum_le {f : Nat → Nat} {M : Nat} : ∀ (l : List Nat), (∀ i ∈ l, f i ≤ M) → (l.map f).sum ≤ l.length * M
  | [], _ => by simp
  | i :: l, h => by
    have h1 := h i (by simp)
    have h2 := sum_le l (fun j hj => h j (List.mem_cons_of_mem _ hj))
    rw [List.map_cons, List.sum_cons, List.length_cons, Nat.succ_mul]
    omega
theorem wyF_le : ∀ (r s : Nat), free n s = r → wyF n b r s ≤ fac r
  | 0, _, _ => Nat.le_refl _
  | r + 1, s, h => by
    have h1 : ((enL n b s).map fun i => wyF n b r (s ||| 1 <<< i)).sum ≤ (enL n b s).length * fac r := sum_le _ fun i hi => by
      obtain ⟨g1, g2⟩ := enL_mem.1 hi
      have := free_put g1 (enB_iff.1 g2).1
      exact wyF_le r _ (by omega)
    have h2 : (enL n b s).length ≤ r + 1 := by
      rw [← h]
      exact cnt_le fun i _ hi => by rw [(enB_iff.1 hi).1]; rfl
    exact Nat.le_trans h1 (Nat.mul_le_mul_right _ h2)
theorem wys_le (s : Nat) : wys n b s ≤ fac (free n s) := wyF_le _ _ rfl
theorem free_le (s : Nat) : free n s ≤ n := by have := cnt_not n (fun x => !s.testBit x); unfold free; omega
theorem fac_mono : ∀ {m k : Nat}, m ≤ k → fac m ≤ fac k
  | m, 0, h => by obtain rfl : m = 0 := by omega
                  exact Nat.le_refl _
  | m, k + 1, h => by
    by_cases e : m = k + 1
    · subst e; exact Nat.le_refl _
    · exact Nat.le_trans (fac_mono (by omega : m ≤ k)) (by show fac k ≤ (k + 1) * fac k; exact Nat.le_mul_of_pos_left _ (by omega))
theorem wys_12 (h : n ≤ 12) (s : Nat) : wys n b s ≤ 479001600 := Nat.le_trans (wys_le s) (Nat.le_trans (fac_mono (Nat.le_trans (free_le s) h)) (by decide))
end
/-- The first one that a number does not pass, and what is left of the number. -/
def pickN (f : Nat → Nat) : List Nat → Nat → Option (Nat × Nat)
  | [], _ => none
  | i :: l, k => if k < f i then some (i, k) else pickN f l (k - f i)
theorem pickN_some {f : Nat → Nat} : ∀ {l : List Nat} {k : Nat}, k < (l.map f).sum → ∃ i k', pickN f l k = some (i, k') ∧ i ∈ l ∧ k' < f i
  | [], k, h => by simp at h
  | i :: l, k, h => by
    rw [List.map_cons, List.sum_cons] at h
    unfold pickN
    by_cases hk : k < f i
    · rw [if_pos hk]; exact ⟨i, k, rfl, by simp, hk⟩
    · rw [if_neg hk]
      obtain ⟨j, k', h1, h2, h3⟩ := pickN_some (f := f) (l := l) (k := k - f i) (by omega)
      exact ⟨j, k', h1, List.mem_cons_of_mem _ h2, h3⟩
/-- The line with a number, from a set on. -/
def nthL (n : Nat) (b : Nat → Nat) : Nat → Nat → Nat → List Nat
  | 0, _, _ => []
  | r + 1, s, k => match pickN (fun i => wys n b (s ||| 1 <<< i)) (enL n b s) k with
    | some (i, k') => i :: nthL n b r (s ||| 1 <<< i) k'
    | none => []
/-- The number of a line, from a set on; none, if it is no line. -/
def rkL (n : Nat) (b : Nat → Nat) : List Int → Nat → Nat → Option Nat
  | [], _, k => some k
  | x :: l, s, k => if (enL n b s).any (fun (i : Nat) => (i : Int) == x) = true
      then rkL n b l (s ||| 1 <<< x.toNat) (k + (((enL n b s).filter fun (i : Nat) => decide ((i : Int) < x)).map fun i => wys n b (s ||| 1 <<< i)).sum)
      else none
section
variable {n : Nat} {b : Nat → Nat}
theorem put_lt {s i : Nat} (hs : s < 2 ^ n) (hi : i < n) : s ||| 1 <<< i < 2 ^ n := Nat.or_lt_two_pow hs (by rw [Nat.one_shiftLeft]; exact Nat.pow_lt_pow_right (by omega) hi)
/-- As long as the number is less than the ways, there is a next element. -/
theorem nth_next {s k : Nat} (hs : s < 2 ^ n) (h : s ≠ 2 ^ n - 1) (hk : k < wys n b s) : ∃ i k', pickN (fun i => wys n b (s ||| 1 <<< i)) (enL n b s) k = some (i, k') ∧ i ∈ enL n b s ∧ k' < wys n b (s ||| 1 <<< i) := by
  rw [wys_step hs h] at hk
  exact pickN_some hk
end
end Go.Proofs.Ytjheaeeeeggncaa

namespace Go.Proofs.Ytjheaeeeeggncaa
set_option linter.unusedSimpArgs false
set_option linter.unusedVariables false

section
variable {n : Nat} {b : Nat → Nat}
theorem cnt_lt {p q : Nat → Bool} {x : Nat} (hx : x < n) (h : ∀ i, i < n → p i = true → q i = true) (h1 : p x = false) (h2 : q x = true) : cnt n p < cnt n q := by
  have c1 := cnt_split n q p
  have c2 : cnt n p ≤ cnt n (fun i => q i && p i) := cnt_le fun i hi hp => by rw [h i hi hp, hp]; rfl
  have c3 : 0 < cnt n (fun i => q i && !p i) := List.length_pos_of_mem (List.mem_filter.2 ⟨List.mem_range.2 hx, by rw [h1, h2]; rfl⟩)
  omega
/-- A list in which each element comes before the next one has at most as many as the longest chain. -/
def Asc (b : Nat → Nat) : List Nat → Prop
  | [] => True
  | [_] => True
  | x :: y :: l => (b y).testBit x = true ∧ Asc b (y :: l)
end
end Go.Proofs.Ytjheaeeeeggncaa

namespace Go.Proofs.Ytjheaeeeeggncaa
set_option linter.unusedSimpArgs false
set_option linter.unusedVariables false

/-- The chain from an element on. -/
def chF (nx : Nat → Int) : Nat → Nat → List Nat
  | 0, _ => []
  | k + 1, i => i :: (if nx i = -1 then [] else chF nx k (nx i).toNat)
section
variable {n : Nat} {b : Nat → Nat} {nx : Nat → Int}
theorem chF_lt (hm : Mt n b nx) : ∀ (k i : Nat), i < n → ∀ x ∈ chF nx k i, x < n
  | 0, _, _, x, h => by cases h
  | k + 1, i, hi, x, h => by
    unfold chF at h
    rcases List.mem_cons.1 h with rfl | h
    · exact hi
    · split at h
      · cases h
      · rename_i hn
        obtain ⟨j, hj, e, -⟩ := (hm.ok i hi).resolve_left hn
        rw [e] at h
        exact chF_lt hm k j hj x h
theorem chF_asc (hm : Mt n b nx) : ∀ (k i : Nat), i < n → Asc b (chF nx k i)
  | 0, _, _ => trivial
  | 1, i, _ => by unfold chF chF; split <;> exact trivial
  | k + 2, i, hi => by
    unfold chF
    split
    · exact trivial
    · rename_i hn
      obtain ⟨j, hj, e, hb⟩ := (hm.ok i hi).resolve_left hn
      have ih := chF_asc hm (k + 1) j hj
      rw [e]
      show Asc b (i :: chF nx (k + 1) j)
      unfold chF at ih ⊢
      exact ⟨hb, ih⟩
/-- Each element of an ascending list comes before each later one. -/
theorem asc_nodup (hp : Po n b) : ∀ (l : List Nat), (∀ x ∈ l, x < n) → Asc b l → l.Nodup ∧ ∀ x, l.head? = some x → ∀ y ∈ l.tail, (b y).testBit x = true
  | [], _, _ => ⟨List.nodup_nil, fun x h => by cases h⟩
  | [x], _, _ => ⟨by simp, fun z h y hy => by cases hy⟩
  | x :: y :: l, hl, ha => by
    obtain ⟨h1, h2⟩ := asc_nodup hp (y :: l) (fun z hz => hl z (List.mem_cons_of_mem _ hz)) ha.2
    have h3 : ∀ z ∈ y :: l, (b z).testBit x = true := fun z hz => by
      rcases List.mem_cons.1 hz with rfl | hz
      · exact ha.1
      · exact hp.tr z y x (hl z (by simp [hz])) (h2 y rfl z hz) ha.1
    refine ⟨List.nodup_cons.2 ⟨fun hx => ?_, h1⟩, fun z hz w hw => ?_⟩
    · have := h3 x hx
      rw [hp.irr x (hl x (by simp))] at this; cases this
    · injection hz with hz
      subst hz
      exact h3 w hw
theorem chF_len (hp : Po n b) (hm : Mt n b nx) {k i : Nat} (hi : i < n) : (chF nx k i).length ≤ n := nodup_le n _ (asc_nodup hp _ (chF_lt hm k i hi) (chF_asc hm k i hi)).1 (chF_lt hm k i hi)
/-- More steps than elements change nothing. -/
theorem chF_more : ∀ (k i : Nat), (chF nx k i).length < k → chF nx (k + 1) i = chF nx k i
  | 0, i, h => absurd h (Nat.not_lt_zero _)
  | k + 1, i, h => by
    unfold chF at h ⊢
    by_cases hn : nx i = -1
    · rw [if_pos hn, if_pos hn]
    · rw [if_neg hn] at h ⊢
      rw [if_neg hn]
      rw [List.length_cons] at h
      rw [chF_more k _ (by omega)]
/-- A chain, whole. -/
def chN (n : Nat) (nx : Nat → Int) (i : Nat) : List Nat := chF nx (n + 1) i
theorem chN_eq (hp : Po n b) (hm : Mt n b nx) {i : Nat} (hi : i < n) : chN n nx i = i :: (if nx i = -1 then [] else chN n nx (nx i).toNat) := by
  have h := chF_more (nx := nx) (n + 1) i (by have := chF_len hp hm (k := n + 1) hi; omega)
  unfold chN
  rw [← h]
  rfl
theorem chN_next (hp : Po n b) (hm : Mt n b nx) : ∀ (k i : Nat), i < n → (chN n nx i).length ≤ k → ∀ f ∈ chN n nx i, ∀ x : Nat, nx f = (x : Int) → x ∈ chN n nx i
  | 0, i, hi, hk, f, hf, x, hx => by
    rw [List.eq_nil_of_length_eq_zero (by omega : (chN n nx i).length = 0)] at hf; cases hf
  | k + 1, i, hi, hk, f, hf, x, hx => by
    rw [chN_eq hp hm hi] at hf hk ⊢
    rcases List.mem_cons.1 hf with rfl | hf
    · obtain ⟨j, hj, e, -⟩ := (hm.ok f hi).resolve_left (by rw [hx]; omega)
      rw [if_neg (by rw [hx]; omega), hx]
      have hxn : x < n := by rw [hx] at e; have := Int.ofNat.inj e; omega
      show x ∈ f :: chN n nx x
      rw [chN_eq hp hm hxn]
      simp
    · by_cases hn : nx i = -1
      · rw [if_pos hn] at hf; cases hf
      · rw [if_neg hn] at hf hk ⊢
        obtain ⟨j, hj, e, -⟩ := (hm.ok i hi).resolve_left hn
        rw [e] at hf hk ⊢
        exact List.mem_cons_of_mem _ (chN_next hp hm k j hj (by rw [List.length_cons] at hk; have : (chN n nx ((j : Int)).toNat) = chN n nx j := rfl; rw [this] at hk; omega) f hf x hx)
theorem chN_prev (hp : Po n b) (hm : Mt n b nx) : ∀ (k i : Nat), i < n → (chN n nx i).length ≤ k → ∀ x ∈ chN n nx i, x = i ∨ ∃ f ∈ chN n nx i, nx f = (x : Int)
  | 0, i, hi, hk, x, hx => by
    rw [List.eq_nil_of_length_eq_zero (by omega : (chN n nx i).length = 0)] at hx; cases hx
  | k + 1, i, hi, hk, x, hx => by
    rw [chN_eq hp hm hi] at hx hk ⊢
    rcases List.mem_cons.1 hx with h | hx
    · exact .inl h
    · by_cases hn : nx i = -1
      · rw [if_pos hn] at hx; cases hx
      · rw [if_neg hn] at hx hk ⊢
        obtain ⟨j, hj, e, -⟩ := (hm.ok i hi).resolve_left hn
        rw [e] at hx hk ⊢
        have hk2 : (chN n nx j).length ≤ k := by rw [List.length_cons] at hk; have : (chN n nx ((j : Int)).toNat) = chN n nx j := rfl; rw [this] at hk; omega
        rcases chN_prev hp hm k j hj hk2 x hx with rfl | ⟨f, hf, hfx⟩
        · exact .inr ⟨i, by simp, e⟩
        · exact .inr ⟨f, List.mem_cons_of_mem _ hf, hfx⟩
/-- Each element is in the chain of one that is nobody's next. -/
theorem chain_in (hp : Po n b) (hm : Mt n b nx) : ∀ (m x : Nat), x < n → cnt n (fun y => (b x).testBit y) ≤ m → ∃ i, i < n ∧ isNx n nx i = false ∧ x ∈ chN n nx i := by
  intro m
  induction m with
  | zero =>
    intro x hx hc
    refine ⟨x, hx, ?_, by rw [chN_eq hp hm hx]; simp⟩
    rw [Bool.eq_false_iff]
    intro h
    obtain ⟨f, hf, e⟩ := isNx_iff.1 h
    obtain ⟨j, hj, e2, hb⟩ := (hm.ok f hf).resolve_left (by rw [e]; omega)
    rw [e] at e2
    have : x = j := Int.ofNat.inj e2
    subst this
    have : 0 < cnt n (fun y => (b x).testBit y) := List.length_pos_of_mem (List.mem_filter.2 ⟨List.mem_range.2 hf, hb⟩)
    omega
  | succ m ih =>
    intro x hx hc
    cases h : isNx n nx x
    · exact ⟨x, hx, h, by rw [chN_eq hp hm hx]; simp⟩
    · obtain ⟨f, hf, e⟩ := isNx_iff.1 h
      obtain ⟨j, hj, e2, hb⟩ := (hm.ok f hf).resolve_left (by rw [e]; omega)
      rw [e] at e2
      have : x = j := Int.ofNat.inj e2
      subst this
      have : cnt n (fun y => (b f).testBit y) < cnt n (fun y => (b x).testBit y) := cnt_lt hf (fun y hy h => hp.tr x f y hx hb h) (hp.irr f hf) hb
      obtain ⟨i, hi, h1, h2⟩ := ih f hf (by omega)
      exact ⟨i, hi, h1, chN_next hp hm _ i hi (Nat.le_refl _) f h2 x e⟩
/-- And in that one alone. -/
theorem chain_one (hp : Po n b) (hm : Mt n b nx) : ∀ (m x i j : Nat), x < n → cnt n (fun y => (b x).testBit y) ≤ m → i < n → j < n → isNx n nx i = false → isNx n nx j = false → x ∈ chN n nx i → x ∈ chN n nx j → i = j := by
  intro m
  induction m with
  | zero =>
    intro x i j hx hc hi hj h1 h2 h3 h4
    have key : ∀ i, i < n → x ∈ chN n nx i → x = i := fun i hi h => by
      rcases chN_prev hp hm _ i hi (Nat.le_refl _) x h with h | ⟨f, hf, e⟩
      · exact h
      · have hfn := chF_lt hm _ i hi f hf
        obtain ⟨j, hj, e2, hb⟩ := (hm.ok f hfn).resolve_left (by rw [e]; omega)
        rw [e] at e2
        have : x = j := Int.ofNat.inj e2
        subst this
        have : 0 < cnt n (fun y => (b x).testBit y) := List.length_pos_of_mem (List.mem_filter.2 ⟨List.mem_range.2 hfn, hb⟩)
        omega
    rw [← key i hi h3, ← key j hj h4]
  | succ m ih =>
    intro x i j hx hc hi hj h1 h2 h3 h4
    rcases chN_prev hp hm _ i hi (Nat.le_refl _) x h3 with rfl | ⟨f, hf, e⟩
    · rcases chN_prev hp hm _ j hj (Nat.le_refl _) x h4 with h | ⟨g, hg, e⟩
      · exact h
      · rw [isNx_iff.2 ⟨g, chF_lt hm _ j hj g hg, e⟩] at h1; cases h1
    · rcases chN_prev hp hm _ j hj (Nat.le_refl _) x h4 with rfl | ⟨g, hg, e'⟩
      · rw [isNx_iff.2 ⟨f, chF_lt hm _ i hi f hf, e⟩] at h2; cases h2
      · have hfn := chF_lt hm _ i hi f hf
        have hgn := chF_lt hm _ j hj g hg
        have : f = g := hm.inj f g hfn hgn (by rw [e, e']) (by rw [e]; omega)
        subst this
        obtain ⟨z, hz, e2, hb⟩ := (hm.ok f hfn).resolve_left (by rw [e]; omega)
        rw [e] at e2
        have : x = z := Int.ofNat.inj e2
        subst this
        have hc2 : cnt n (fun y => (b f).testBit y) < cnt n (fun y => (b x).testBit y) := cnt_lt hfn (fun y hy h => hp.tr x f y hx hb h) (hp.irr f hfn) hb
        exact ih f i j hfn (by omega) hi hj h1 h2 hf hg
end
end Go.Proofs.Ytjheaeeeeggncaa

namespace Go.Proofs.Ytjheaeeeeggncaa
open Go.RowKit
set_option maxRecDepth 100000
set_option linter.unusedSimpArgs false
set_option linter.unusedVariables false

theorem wrap16 (k : Nat) (h : k < 65536) : IntKind.u16.wrap (k : Int) = (k : Int) := by
  simp [IntKind.wrap, IntKind.bits, IntKind.signed]
  omega
theorem bits_and16 (a b : Nat) (ha : a < 65536) (hb : b < 65536) : bits .and .u16 (a : Int) (b : Int) = ((a &&& b : Nat) : Int) := by
  have hx : a &&& b < 2 ^ 16 := Nat.and_lt_two_pow _ (by omega)
  have h1 : (BitVec.ofInt 16 (a : Int)).toNat = a := by rw [BitVec.ofInt_natCast, BitVec.toNat_ofNat]; exact Nat.mod_eq_of_lt (by omega)
  have h2 : (BitVec.ofInt 16 (b : Int)).toNat = b := by rw [BitVec.ofInt_natCast, BitVec.toNat_ofNat]; exact Nat.mod_eq_of_lt (by omega)
  show IntKind.u16.wrap ((BitVec.ofInt 16 (a : Int) &&& BitVec.ofInt 16 (b : Int)).toNat : Int) = _
  rw [BitVec.toNat_and, h1, h2]
  simp [IntKind.wrap, IntKind.bits, IntKind.signed]
  omega
theorem bits_or16 (a b : Nat) (ha : a < 65536) (hb : b < 65536) : bits .or .u16 (a : Int) (b : Int) = ((a ||| b : Nat) : Int) := by
  have hx : a ||| b < 2 ^ 16 := Nat.or_lt_two_pow (by omega) (by omega)
  have h1 : (BitVec.ofInt 16 (a : Int)).toNat = a := by rw [BitVec.ofInt_natCast, BitVec.toNat_ofNat]; exact Nat.mod_eq_of_lt (by omega)
  have h2 : (BitVec.ofInt 16 (b : Int)).toNat = b := by rw [BitVec.ofInt_natCast, BitVec.toNat_ofNat]; exact Nat.mod_eq_of_lt (by omega)
  show IntKind.u16.wrap ((BitVec.ofInt 16 (a : Int) ||| BitVec.ofInt 16 (b : Int)).toNat : Int) = _
  rw [BitVec.toNat_or, h1, h2]
  simp [IntKind.wrap, IntKind.bits, IntKind.signed]
  omega
theorem bit_one (s k : Nat) : (s / 2 ^ k &&& 1 = 1) ↔ s.testBit k = true := by
  rw [Nat.and_one_is_mod, Nat.testBit_eq_decide_div_mod_eq]
  simp
theorem has_bit (s k : Nat) (hs : s < 65536) : (bits BinOp.and IntKind.u16 ((s : Int) / 2 ^ min k 16) 1 == 1) = s.testBit k := by
  have e1 : ((s : Int) / 2 ^ min k 16) = ((s / 2 ^ min k 16 : Nat) : Int) := by simp
  have hlt : s / 2 ^ min k 16 < 65536 := Nat.lt_of_le_of_lt (Nat.div_le_self _ _) hs
  rw [e1, show (1 : Int) = ((1 : Nat) : Int) from rfl, bits_and16 _ 1 hlt (by decide), Bool.eq_iff_iff, beq_iff_eq, Int.ofNat_inj, bit_one]
  by_cases h : k ≤ 16
  · rw [Nat.min_eq_left h]
  · have h0 : s.testBit k = false := Nat.testBit_lt_two_pow (Nat.lt_of_lt_of_le hs (Nat.pow_le_pow_right (n := 2) (by omega) (show 16 ≤ k by omega)))
    have h1 : s.testBit 16 = false := Nat.testBit_lt_two_pow hs
    rw [Nat.min_eq_right (by omega), h0, h1]
set_option maxHeartbeats 2000000 in
theorem c_has (s : Nat) (hs : s < 65536) (i : Int) (r : Bool) (hr : (decide (0 ≤ i) && s.testBit i.toNat) = r) (w : World) :
    Calls Try.prog 76 #[.int .u16 (s : Int), .int .i64 i] w fun e w' => e = .returned (.bool r) ∧ w' = w := by
  by_cases h0 : 0 ≤ i
  · have hb := has_bit s i.toNat hs
    have hd : decide (0 ≤ i) = true := decide_eq_true h0
    rw [hd, Bool.true_and] at hr
    rw [hr] at hb
    clear hr hs
    go_enter Try.func76, Try.ntmps76
    go_wp2_with (fail)
    go_ret
    exact ⟨rfl, rfl⟩
  · have hd : decide (0 ≤ i) = false := decide_eq_false h0
    rw [hd, Bool.false_and] at hr
    subst hr
    go_enter Try.func76, Try.ntmps76
    go_wp2_with (fail)
    go_ret
    exact ⟨rfl, rfl⟩
theorem put16 (s i : Nat) (hs : s < 65536) (hi : i < 12) : bits BinOp.or IntKind.u16 (s : Int) (IntKind.u16.wrap (2 ^ i)) = ((s ||| 1 <<< i : Nat) : Int) := by
  have h1 : (2 : Nat) ^ i < 65536 := Nat.lt_of_lt_of_le (Nat.pow_lt_pow_right (by omega) hi) (by decide)
  have h2 : IntKind.u16.wrap ((2 : Int) ^ i) = ((2 ^ i : Nat) : Int) := by
    have e : ((2 : Int) ^ i) = ((2 ^ i : Nat) : Int) := by simp
    rw [e]
    exact wrap16 _ h1
  rw [h2, bits_or16 s _ hs h1, Nat.one_shiftLeft]
theorem not16 (s t : Nat) (hs : s < 65536) (ht : t < 65536) : (bits BinOp.andNot IntKind.u16 (t : Int) (s : Int) == 0) = decide (t &&& s = t) := by
  have h1 : (BitVec.ofInt 16 (t : Int)) = BitVec.ofNat 16 t := BitVec.ofInt_natCast _ _
  have h2 : (BitVec.ofInt 16 (s : Int)) = BitVec.ofNat 16 s := BitVec.ofInt_natCast _ _
  have h3 : bits BinOp.andNot IntKind.u16 (t : Int) (s : Int) = ((BitVec.ofNat 16 t &&& ~~~BitVec.ofNat 16 s).toNat : Int) := by
    show IntKind.u16.wrap ((BitVec.ofInt 16 (t : Int) &&& ~~~BitVec.ofInt 16 (s : Int)).toNat : Int) = _
    rw [h1, h2]
    exact wrap16 _ (BitVec.ofNat 16 t &&& ~~~BitVec.ofNat 16 s).isLt
  have hbit : ∀ i, i < 16 → (BitVec.ofNat 16 t &&& ~~~BitVec.ofNat 16 s).getLsbD i = (t.testBit i && !s.testBit i) := fun i hi => by
    rw [BitVec.getLsbD_and, BitVec.getLsbD_not, BitVec.getLsbD_ofNat, BitVec.getLsbD_ofNat]
    simp [hi]
  rw [h3, Bool.eq_iff_iff, beq_iff_eq, decide_eq_true_iff, inside_iff]
  constructor
  · intro h k hk
    have h0 : BitVec.ofNat 16 t &&& ~~~BitVec.ofNat 16 s = 0#16 := BitVec.eq_of_toNat_eq (by simp only [BitVec.toNat_ofNat]; omega)
    have hk16 : k < 16 := by
      rcases Nat.lt_or_ge k 16 with h | h
      · exact h
      · rw [Nat.testBit_lt_two_pow (Nat.lt_of_lt_of_le ht (Nat.pow_le_pow_right (n := 2) (by omega) h))] at hk; cases hk
    have := hbit k hk16
    rw [h0, hk] at this
    cases e : s.testBit k
    · rw [e] at this; simp at this
    · rfl
  · intro h
    have h0 : BitVec.ofNat 16 t &&& ~~~BitVec.ofNat 16 s = 0#16 := BitVec.eq_of_getLsbD_eq fun i hi => by
      rw [hbit i hi]
      cases e : t.testBit i
      · simp
      · rw [h i e]; simp
    rw [h0]; rfl
set_option maxHeartbeats 2000000 in
theorem c_with (s i : Nat) (hs : s < 65536) (hi : i < 12) (w : World) :
    Calls Try.prog 80 #[.int .u16 (s : Int), .int .i64 (i : Int)] w fun e w' => e = .returned (.int .u16 ((s ||| 1 <<< i : Nat) : Int)) ∧ w' = w := by
  have hb := put16 s i hs hi
  obtain ⟨r, hr⟩ : ∃ r, r = s ||| 1 <<< i := ⟨_, rfl⟩
  rw [← hr] at hb ⊢
  clear hr
  go_enter Try.func80, Try.ntmps80
  go_wp2_with (fail)
  go_ret
  exact ⟨rfl, rfl⟩
set_option maxHeartbeats 2000000 in
theorem c_contains (s t : Nat) (hs : s < 65536) (ht : t < 65536) (r : Bool) (hr : decide (t &&& s = t) = r) (w : World) :
    Calls Try.prog 79 #[.int .u16 (s : Int), .int .u16 (t : Int)] w fun e w' => e = .returned (.bool r) ∧ w' = w := by
  have hb := not16 s t hs ht
  rw [hr] at hb
  clear hr
  go_enter Try.func79, Try.ntmps79
  go_wp2_with (fail)
  go_ret
  exact ⟨rfl, rfl⟩
end Go.Proofs.Ytjheaeeeeggncaa

namespace Go.Proofs.Ytjheaeeeeggncaa
open Go.RowKit
attribute [local go_sem] Oper.semAt_some
set_option maxRecDepth 100000
set_option linter.unusedVariables false
set_option linter.unusedSimpArgs false

theorem below_join {B C : Nat} {a w w' : World} (h : Below B a w) (k : Below C w w') (hc : B ≤ C) : Below B a w' := h.trans (k.mono hc)
theorem below_drewN {B n : Nat} {a w : World} (h : Below B a w) : Below B a (w.drewN n) := ⟨h.os, h.tape, h.output, h.size, h.block⟩
theorem at_lt {X : World} {b : Nat} {o : Obj} (h : X.heap[b]? = some o) : b < X.heap.size := (Array.getElem?_eq_some_iff.1 h).1
theorem heap_alloc_new (w : World) (o : Obj) : (w.alloc o).heap[w.heap.size]? = some o := by unfold World.alloc; simp
theorem cell_of {w : World} {b : Nat} {cs : Array Value} {t : TypeId} {o : Nat} {v : Value} (h : w.heap[b]? = some (.cells cs t (0, 0))) (hv : cs[o]? = some v) : w.cell? ⟨b, o, none⟩ = some v := by
  unfold World.cell?
  simp [h, hv]
theorem wrap_in {x : Int} (h : -9223372036854775808 ≤ x) (h2 : x ≤ 9223372036854775807) : IntKind.i64.wrap x = x := by
  unfold IntKind.wrap
  simp [IntKind.signed, IntKind.bits]
  omega
/-- Rows of k cells, as a slice's address and capacity. -/
def Rv {α : Type} (k : Nat) (F : α → Nat → Value) (w : World) (A : Option Addr) (c : Nat) (l : List α) : Prop :=
  l.length ≤ c ∧ c ≤ maxLen ∧ (A = none → c = 0) ∧ (0 < l.length → ∃ b o, A = some ⟨b, o, none⟩ ∧ b < w.heap.size ∧ ∀ (j : Nat) (x : α), l[j]? = some x → ∀ i, i < k → w.cell? ⟨b, o + j * k + i, none⟩ = some (F x i))
section
variable {α : Type} {k : Nat} {F : α → Nat → Value} {w w' : World} {A : Option Addr} {c : Nat} {l : List α}
theorem Rv.on {B : Nat} (h : Rv k F w A c l) (hb : Below B w w') (hB : w.heap.size ≤ B) : Rv k F w' A c l := by
  obtain ⟨h1, h2, h3, h4⟩ := h
  refine ⟨h1, h2, h3, fun h0 => ?_⟩
  obtain ⟨b, o, e, hlt, hc⟩ := h4 h0
  exact ⟨b, o, e, Nat.lt_of_lt_of_le hlt hb.size, fun j x hj i hi => (hb.cell (p := ⟨b, o + j * k + i, none⟩) (by show b < B; omega)).trans (hc j x hj i hi)⟩
theorem Rv.at_ (h : Rv k F w A c l) {j : Nat} {x : α} (hj : l[j]? = some x) : ∃ b o, A = some ⟨b, o, none⟩ ∧ b < w.heap.size ∧ ∀ i, i < k → w.cell? ⟨b, o + j * k + i, none⟩ = some (F x i) := by
  obtain ⟨h1, h2, -, h4⟩ := h
  obtain ⟨b, o, e, hlt, hc⟩ := h4 (by have := (List.getElem?_eq_some_iff.1 hj).1; omega)
  exact ⟨b, o, e, hlt, fun i hi => hc j x hj i hi⟩
theorem Rv.nil (w : World) : Rv k F w none 0 ([] : List α) := ⟨Nat.le_refl _, Nat.zero_le _, fun _ => rfl, fun h => absurd h (Nat.lt_irrefl _)⟩
theorem Rv.take (h : Rv k F w A c l) (m : Nat) (hm : m ≤ l.length) : Rv k F w A c (l.take m) := by
  obtain ⟨h1, h2, h3, h4⟩ := h
  have hl : (l.take m).length = m := by rw [List.length_take]; omega
  refine ⟨by omega, h2, h3, fun h0 => ?_⟩
  obtain ⟨b, o, e, hlt, hc⟩ := h4 (by omega)
  refine ⟨b, o, e, hlt, fun j x hj => hc j x ?_⟩
  rw [List.getElem?_take] at hj
  split at hj
  · exact hj
  · cases hj
theorem Rv.drop {b o : Nat} (h : Rv k F w (some ⟨b, o, none⟩) c l) (m : Nat) (hm : m ≤ l.length) : Rv k F w (some ⟨b, o + m * k, none⟩) (c - m) (l.drop m) := by
  obtain ⟨h1, h2, h3, h4⟩ := h
  refine ⟨by simp; omega, by omega, (by intro h; cases h), fun h0 => ?_⟩
  obtain ⟨b', o', e, hlt, hc⟩ := h4 (by simp at h0; omega)
  injection e with e
  injection e with e1 e2
  subst e1 e2
  refine ⟨b, o + m * k, rfl, hlt, fun j x hj i hi => ?_⟩
  rw [List.getElem?_drop] at hj
  have := hc (m + j) x hj i hi
  rwa [show o + (m + j) * k + i = o + m * k + j * k + i by rw [Nat.add_mul]; omega] at this
end
/-- Rows as cells. -/
def cellsV {α : Type} (k : Nat) (F : α → Nat → Value) (l : List α) : List Value := l.flatMap fun x => (List.range k).map fun i => F x i
section
variable {α : Type} {k : Nat} {F : α → Nat → Value}
theorem cellsV_at : ∀ {l : List α} {j : Nat} {x : α}, l[j]? = some x → ∀ i, i < k → (cellsV k F l)[j * k + i]? = some (F x i) := by
  intro l
  induction l with
  | nil => intro j x h; simp at h
  | cons y l ih =>
    intro j x h i hi
    have e : cellsV k F (y :: l) = ((List.range k).map fun i => F y i) ++ cellsV k F l := rfl
    rw [e]
    cases j with
    | zero =>
      simp at h
      subst h
      rw [Nat.zero_mul, Nat.zero_add, List.getElem?_append_left (by simp; omega)]
      simp [hi]
    | succ j =>
      rw [List.getElem?_append_right (by simp; rw [Nat.succ_mul]; omega)]
      have := ih (j := j) (x := x) (by simpa using h) i hi
      rw [show (j + 1) * k + i - (List.map (fun i => F y i) (List.range k)).length = j * k + i by simp [Nat.succ_mul]; omega]
      exact this
theorem cellsV_len (l : List α) : (cellsV k F l).length = l.length * k := by
  induction l with
  | nil => simp [cellsV]
  | cons y l ih =>
    have e : cellsV k F (y :: l) = ((List.range k).map fun i => F y i) ++ cellsV k F l := rfl
    rw [e, List.length_append, ih, List.length_cons, Nat.succ_mul]
    simp; omega
theorem cellsV_append (l m : List α) : cellsV k F (l ++ m) = cellsV k F l ++ cellsV k F m := by simp [cellsV]
/-- What lies in the cells behind a slice's address. -/
theorem Rv.cells {w : World} {A : Option Addr} {c : Nat} {l : List α} (h : Rv k F w A c l) (hk : 0 < k) : ∀ ad, A = some ad → ∀ j u, (cellsV k F l)[j]? = some u → w.cell? (ad.add j) = some u := by
  intro ad hA j u hj
  have hjl := (List.getElem?_eq_some_iff.1 hj).1
  rw [cellsV_len] at hjl
  have hq : j / k < l.length := Nat.div_lt_of_lt_mul (by rw [Nat.mul_comm]; exact hjl)
  obtain ⟨x, hx⟩ : ∃ x, l[j / k]? = some x := ⟨_, List.getElem?_eq_getElem hq⟩
  obtain ⟨b, o, e, -, hc⟩ := h.at_ hx
  rw [hA] at e
  injection e with e
  subst e
  have hr : j % k < k := Nat.mod_lt _ hk
  have hd : j / k * k + j % k = j := by rw [Nat.mul_comm]; exact Nat.div_add_mod j k
  have h1 := cellsV_at (F := F) hx (j % k) hr
  rw [hd, hj] at h1
  injection h1 with h1
  have h2 := hc (j % k) hr
  rw [show o + j / k * k + j % k = o + j by omega] at h2
  rw [h1]
  have e : (⟨b, o, none⟩ : Addr).add j = ⟨b, o + j, none⟩ := by unfold Addr.add; split <;> simp_all
  rw [e]; exact h2
/-- A block of rows is a list in memory. -/
theorem rv_block {l : List α} {w : World} {b : Nat} {T : TypeId} (h : w.heap[b]? = some (.cells (cellsV k F l).toArray T (0, 0))) (hl : l.length ≤ maxLen) : Rv k F w (some ⟨b, 0, none⟩) l.length l := by
  refine ⟨Nat.le_refl _, hl, (by intro h; cases h), fun _ => ⟨b, 0, rfl, at_lt h, fun j x hj i hi => ?_⟩⟩
  rw [Nat.zero_add]
  refine cell_of h ?_
  have := cellsV_at (F := F) hj i hi
  simpa using this
/-- A list that a walk has made is a list in memory. -/
theorem own_rv {w : World} {base : Nat} {T : TypeId} {v : Value} {l : List α} (h : w.ownsRow base T k v l.length (cellsV k F l)) : ∃ A c, v = .slice A l.length c ∧ Rv k F w A c l := by
  have hc := h
  obtain ⟨k1, ⟨e, e2⟩ | ⟨g, cap, cur, e, k3, k4, k5, k6, k7, k8⟩⟩ := h
  · subst e
    obtain rfl : l = [] := List.eq_nil_of_length_eq_zero e2
    exact ⟨none, 0, rfl, Rv.nil _⟩
  · subst e
    refine ⟨some ⟨g, 0, none⟩, cap, rfl, k5, k6, (by intro h; cases h), fun _ => ⟨g, 0, rfl, at_lt k4, fun j x hj i hi => ?_⟩⟩
    have h1 := cellsV_at (F := F) hj i hi
    have h2 := (List.getElem?_eq_some_iff.1 h1).1
    have := hc.cellAt (j * k + i) (by rwa [cellsV_len] at h2)
    rw [show 0 + j * k + i = j * k + i by omega, this, h1]
end
theorem set_field {W : World} {b o : Nat} {cs : Array Value} {T : TypeId} (h : W.heap[b]? = some (.cells cs T (0, 0))) (v : Value) : (W.setCell ⟨b, o, none⟩ v).heap[b]? = some (.cells (cs.setIfInBounds o v) T (0, 0)) := by
  simp only [World.setCell, Array.getElem?_modify, if_pos trivial, h]
  simp
theorem frz {X : World} {b : Nat} {cs : Array Value} {T : TypeId} (h : X.heap[b]? = some (.cells cs T (0, 0))) (o : Nat) : X.frozen? ⟨b, o, none⟩ = false := by
  simp [World.frozen?, h]
theorem box_new (w : World) (cs : Array Value) (T : TypeId) : (w.alloc (.cells cs T)).heap[w.heap.size]? = some (.cells cs T (0, 0)) := heap_alloc_new _ _
theorem box_on {w w' : World} {b : Nat} {o : Obj} {B : Nat} (h : w.heap[b]? = some o) (hb : Below B w w') (hB : w.heap.size ≤ B) : w'.heap[b]? = some o := (hb.block _ (Nat.lt_of_lt_of_le (at_lt h) hB)).trans h
theorem old_heap {X : World} {b : Nat} {o : Obj} (o' : Obj) (h : X.heap[b]? = some o) : (X.alloc o').heap[b]? = some o := (Below.heap_alloc _ _ _ (at_lt h)).trans h
theorem set_else {W : World} {b k o : Nat} {v : Value} {ob : Obj} (h : W.heap[k]? = some ob) (hne : k ≠ b) : (W.setCell ⟨b, o, none⟩ v).heap[k]? = some ob := by
  rw [Below.heap_setCell _ ⟨b, o, none⟩ v k hne]; exact h
theorem two_boxes {w : World} {c1 c2 : Array Value} {T1 T2 : TypeId} {W1 W : World} (h1 : W1 = w.alloc (.cells c1 T1)) (h2 : W = W1.alloc (.cells c2 T2)) :
    Below w.heap.size w W ∧ W.heap[w.heap.size]? = some (.cells c1 T1 (0, 0)) ∧ W.heap[w.heap.size + 1]? = some (.cells c2 T2 (0, 0)) ∧ W.heap.size = w.heap.size + 1 + 1 := by
  have s1 : W1.heap.size = w.heap.size + 1 := by rw [h1, World.size_alloc]
  have e1 : Below w.heap.size w W1 := by rw [h1]; exact (Below.refl _ _).alloc (Nat.le_refl _) _
  have b1 : W1.heap[w.heap.size]? = some (.cells c1 T1 (0, 0)) := by rw [h1]; exact box_new _ _ _
  refine ⟨by rw [h2]; exact e1.alloc (by omega) _, by rw [h2]; exact old_heap _ b1, by rw [h2, ← s1]; exact box_new _ _ _, by rw [h2, World.size_alloc, s1]⟩
theorem int_info : (Try.prog.info? 3).map (fun i => (i.zero, i.size, i.bytes)) = some (some (.int .i64 0), 1, 8) := by kernel_rfl
theorem info_parts {P : Program} {T : TypeId} {z : Value} {s b : Nat} (h : (P.info? T).map (fun i => (i.zero, i.size, i.bytes)) = some (some z, s, b)) : ∃ i, P.info? T = some i ∧ i.zero = some z ∧ i.size = s ∧ i.bytes = b := by
  cases hi : P.info? T with
  | none => rw [hi] at h; cases h
  | some i => rw [hi] at h; simp at h; exact ⟨i, rfl, h.1, h.2.1, h.2.2⟩
theorem ownsRow_lt {X : World} {base : Nat} {e : TypeId} {size n : Nat} {v : Value} {xs : List Value} (h : X.ownsRow base e size v n xs) {g : Nat} (hg : v.ownBlock = some g) : base ≤ g ∧ g < X.heap.size := by
  obtain ⟨k1, ⟨rfl, -⟩ | ⟨g', cap, cur, rfl, k3, k4, k⟩⟩ := h
  · cases hg
  · have hg2 : some g' = some g := hg
    injection hg2 with hg2
    subst hg2
    exact ⟨k3, at_lt k4⟩
theorem own_shape {X : World} {base : Nat} {e : TypeId} {size n : Nat} {v : Value} {xs : List Value} (h : X.ownsRow base e size v n xs) : ∃ A c, v = .slice A n c := by
  obtain ⟨k1, ⟨rfl, h0⟩ | ⟨g, cap, cur, rfl, k⟩⟩ := h
  · subst h0; exact ⟨_, _, rfl⟩
  · exact ⟨_, _, rfl⟩
theorem own_mono {w : World} {base base' : Nat} {e : TypeId} {size : Nat} {v : Value} {n : Nat} {xs : List Value} (h : w.ownsRow base e size v n xs) (hb : base' ≤ base) : w.ownsRow base' e size v n xs := by
  obtain ⟨k1, h | ⟨g, cap, cur, rfl, k3, k4, k⟩⟩ := h
  · exact ⟨k1, .inl h⟩
  · exact ⟨k1, .inr ⟨g, cap, cur, rfl, Nat.le_trans hb k3, k4, k⟩⟩
theorem own_on {X Y : World} {base : Nat} {e : TypeId} {size n B : Nat} {v : Value} {xs : List Value} (h : X.ownsRow base e size v n xs) (hb : Below B X Y) (hB : X.heap.size ≤ B) : Y.ownsRow base e size v n xs := by
  obtain ⟨k1, h | ⟨g, cap, cur, rfl, k3, k4, k⟩⟩ := h
  · exact ⟨k1, .inl h⟩
  · exact ⟨k1, .inr ⟨g, cap, cur, rfl, k3, (hb.block _ (Nat.lt_of_lt_of_le (at_lt k4) hB)).trans k4, k⟩⟩
def inV (x : Int) (_ : Nat) : Value := .int .i64 x
theorem inV_at {w : World} {b o c : Nat} {l : List Int} (h : Rv 1 inV w (some ⟨b, o, none⟩) c l) {j : Nat} {x : Int} (hj : l[j]? = some x) : w.cell? ⟨b, o + j, none⟩ = some (.int .i64 x) := by
  obtain ⟨b', o', e, -, h0⟩ := h.at_ hj
  injection e with e
  injection e with e1 e2
  subst e1 e2
  have := h0 0 (by omega)
  simpa [inV] using this
/-- A list in memory, and a list of lists. -/
structure LsV where
  A : Option Addr
  c : Nat
  l : List Int
def lsV (x : LsV) (_ : Nat) : Value := .slice x.A x.l.length x.c
def LsAt (w : World) (A : Option Addr) (c : Nat) (xs : List LsV) : Prop := Rv 1 lsV w A c xs ∧ ∀ x ∈ xs, Rv 1 inV w x.A x.c x.l
theorem LsAt.on {w w' : World} {A : Option Addr} {c B : Nat} {xs : List LsV} (h : LsAt w A c xs) (hb : Below B w w') (hB : w.heap.size ≤ B) : LsAt w' A c xs := ⟨h.1.on hb hB, fun x hx => (h.2 x hx).on hb hB⟩
theorem ls_at {w : World} {b o c : Nat} {l : List LsV} (h : Rv 1 lsV w (some ⟨b, o, none⟩) c l) {j : Nat} {x : LsV} (hj : l[j]? = some x) : w.cell? ⟨b, o + j, none⟩ = some (.slice x.A x.l.length x.c) := by
  obtain ⟨b', o', e, -, h0⟩ := h.at_ hj
  injection e with e
  injection e with e1 e2
  subst e1 e2
  have := h0 0 (by omega)
  simpa [lsV] using this
end Go.Proofs.Ytjheaeeeeggncaa

namespace Go.Proofs.Ytjheaeeeeggncaa
open Go.RowKit
set_option maxRecDepth 100000
set_option linter.unusedVariables false
set_option linter.unusedSimpArgs false

/-- The first place at which something holds, or -1. -/
def fidx {α : Type} (p : α → Bool) : List α → Int
  | [] => -1
  | x :: l => if p x = true then 0 else if fidx p l = -1 then -1 else fidx p l + 1
theorem fidx_range {α : Type} (p : α → Bool) (l : List α) : fidx p l = -1 ∨ 0 ≤ fidx p l := by
  induction l with
  | nil => exact .inl rfl
  | cons x l ih =>
    unfold fidx
    split
    · right; omega
    · split
      · exact .inl rfl
      · right; omega
theorem fidx_at {α : Type} (p : α → Bool) : ∀ (l : List α) (k : Nat) (x : α), (∀ i y, i < k → l[i]? = some y → p y = false) → l[k]? = some x → p x = true → fidx p l = k := by
  intro l
  induction l with
  | nil => intro k x _ h; simp at h
  | cons y l ih =>
    intro k x h1 h2 h3
    unfold fidx
    cases k with
    | zero => simp at h2; subst h2; rw [if_pos h3]; rfl
    | succ k =>
      have h0 := h1 0 y (by omega) rfl
      rw [if_neg (by simp [h0]), ih k x (fun i z hi hz => h1 (i + 1) z (by omega) (by simpa using hz)) (by simpa using h2) h3, if_neg (by omega)]
      omega
theorem fidx_none {α : Type} (p : α → Bool) : ∀ (l : List α), (∀ (i : Nat) (y : α), l[i]? = some y → p y = false) → fidx p l = -1 := by
  intro l
  induction l with
  | nil => intro _; rfl
  | cons y l ih =>
    intro h1
    have h0 := h1 0 y rfl
    unfold fidx
    rw [if_neg (by simp [h0]), ih (fun i z hz => h1 (i + 1) z (by simpa using hz)), if_pos rfl]
theorem fidx_any {α : Type} (p : α → Bool) (l : List α) : decide (0 ≤ fidx p l) = l.any p := by
  induction l with
  | nil => rfl
  | cons x l ih =>
    unfold fidx
    rw [List.any_cons]
    split
    · rename_i h; rw [h]; rfl
    · rename_i h
      rw [Bool.not_eq_true] at h
      rw [h, Bool.false_or, ← ih]
      rcases fidx_range p l with h2 | h2
      · rw [if_pos h2, h2]
      · rw [if_neg (by omega), decide_eq_true h2, decide_eq_true (by omega)]
/-- A list is not strictly ascending. -/
def disB : List Int → Bool
  | x :: y :: l => decide (y ≤ x) || disB (y :: l)
  | _ => false
theorem disB_iff : ∀ {l : List Int}, disB l = true ↔ ∃ (k : Nat) (x y : Int), l[k]? = some x ∧ l[k + 1]? = some y ∧ y ≤ x := by
  intro l
  induction l with
  | nil => constructor; · intro h; cases h
           · rintro ⟨k, x, y, h, -⟩; simp at h
  | cons a l ih =>
    cases l with
    | nil => constructor; · intro h; cases h
             · rintro ⟨k, x, y, -, h, -⟩; simp at h
    | cons b l =>
      rw [disB, Bool.or_eq_true, decide_eq_true_iff, ih]
      constructor
      · rintro (h | ⟨k, x, y, h1, h2, h3⟩)
        · exact ⟨0, a, b, rfl, rfl, h⟩
        · exact ⟨k + 1, x, y, by simpa using h1, by simpa using h2, h3⟩
      · rintro ⟨k, x, y, h1, h2, h3⟩
        cases k with
        | zero => simp at h1 h2; subst h1 h2; exact .inl h3
        | succ k => exact .inr ⟨k, x, y, by simpa using h1, by simpa using h2, h3⟩
set_option maxHeartbeats 4000000 in
theorem c_isDisordered (A : Option Addr) (c : Nat) (l : List Int) (r : Bool) (hr : disB l = r) (w : World) (h : Rv 1 inV w A c l) :
    Calls Try.prog 73 #[.slice A l.length c] w fun e w' => e = .returned (.bool r) ∧ Below w.heap.size w w' := by
  have H := Lib.hid h
  have HR := Lib.hid hr
  have k1 := h.1; have k2 := h.2.1
  unfold maxLen at k2
  clear h hr
  go_enter Try.func73, Try.ntmps73
  go_wp2_with (fail)
  go_loopw [3] (fun i wr => ∃ k : Nat, (k ≤ l.length ∨ k = 1) ∧ 1 ≤ k ∧ i = .int .i64 (k : Int) ∧ Hid (Below w.heap.size w wr) ∧ Hid (∀ j a b, j + 1 < k → l[j]? = some a → l[j + 1]? = some b → a < b)) (fun i _ => l.length - (intOf i).toNat)
  case atStart => exact ⟨1, .inr rfl, by omega, rfl, Lib.hid (Below.refl _ _), Lib.hid (fun j a b hj => absurd hj (by omega))⟩
  case round =>
    obtain ⟨k, hk, hk1, rfl, hB, hasc⟩ := hrel
    by_cases hlt : k < l.length
    · obtain ⟨m, hm⟩ : ∃ m, k = m + 1 := ⟨k - 1, by omega⟩
      obtain ⟨x, hx⟩ : ∃ x, l[m]? = some x := ⟨_, List.getElem?_eq_getElem (by omega)⟩
      obtain ⟨y, hy⟩ : ∃ y, l[k]? = some y := ⟨_, List.getElem?_eq_getElem hlt⟩
      obtain ⟨b, o, rfl, -, -⟩ := H.out.at_ hx
      have f0 := inV_at (H.out.on hB.out (Nat.le_refl _)) hx
      have f1 := inV_at (H.out.on hB.out (Nat.le_refl _)) hy
      have hk2 : ((k : Nat) : Int) < (l.length : Int) := by omega
      have hk3 : IntKind.i64.wrap (((k : Nat) : Int) - 1) = (m : Int) := by rw [show ((k : Nat) : Int) - 1 = (m : Int) by omega]; exact wrap_in (by omega) (by omega)
      have hk0 : (0 : Int) ≤ (m : Int) := by omega
      have hk4 : ((m : Nat) : Int) < (l.length : Int) := by omega
      have hi1 : ((m : Nat) : Int).toNat = m := by omega
      have hi2 : ((k : Nat) : Int).toNat = k := by omega
      have HM := Lib.hid hm
      have HXX := Lib.hid hx
      have HYY := Lib.hid hy
      clear hm hx hy
      rcases hL : decide (y ≤ x) with _ | _
      · have HL := Lib.hid (of_decide_eq_false hL)
        have HN := Lib.hid (show ∀ j a b, j + 1 < k + 1 → l[j]? = some a → l[j + 1]? = some b → a < b from fun j a b hj ha hb => by
          have hM := HM.out
          by_cases e : j + 1 < k
          · exact hasc.out j a b e ha hb
          · obtain rfl : j = m := by omega
            rw [HXX.out] at ha
            rw [← hM, HYY.out] at hb
            injection ha with ha
            injection hb with hb
            have := HL.out
            omega)
        go_wp2_with (fail)
        go_quiet (fail)
        go_wp2_with (fail)
        go_roundw
        case rel => exact ⟨k + 1, .inl (by omega), by omega, by go_num, Lib.hid (below_drewN hB.out), HN⟩
        case measure => simp only [intOf]; omega
      · obtain rfl : true = r := by
          rw [← HR.out]
          exact (disB_iff.2 ⟨m, x, y, HXX.out, by rw [← HM.out]; exact HYY.out, of_decide_eq_true hL⟩).symm
        go_wp2_with (fail)
        go_quiet (fail)
        go_wp2_with (fail)
        go_ret
        exact ⟨rfl, below_drewN hB.out⟩
    · obtain rfl : false = r := by
        rw [← HR.out]
        refine ((Bool.eq_false_iff).2 fun h => ?_).symm
        obtain ⟨j, x, y, h1, h2, h3⟩ := disB_iff.1 h
        have := hasc.out j x y (by have := (List.getElem?_eq_some_iff.1 h2).1; omega) h1 h2
        omega
      have hk2 : ¬ ((k : Nat) : Int) < (l.length : Int) := by omega
      go_wp2_with (fail)
      go_ret
      exact ⟨rfl, hB.out⟩
set_option maxHeartbeats 4000000 in
theorem c_IF_list (A : Option Addr) (c : Nat) (l : List LsV) (w : World) (h : LsAt w A c l) (y : Int) (hy : fidx (fun x => disB x.l) l = y) :
    Calls Try.prog 87 #[.slice A l.length c, .func (.func 73) #[] #[]] w fun e w' => e = .returned (.int .i64 y) ∧ Below w.heap.size w w' := by
  have H := Lib.hid h
  have HY := Lib.hid hy
  have hc1 := h.1.1
  have hc2 := h.1.2.1
  unfold maxLen at hc2
  clear h hy
  go_enter Try.func87, Try.ntmps87
  go_wp2_with (fail)
  go_loopw [8] (fun i wr => ∃ k : Nat, k ≤ l.length ∧ i = .int .i64 (k : Int) ∧ Hid (∀ i y, i < k → l[i]? = some y → disB y.l = false) ∧ Hid (Below w.heap.size w wr)) (fun i _ => l.length - (intOf i).toNat)
  case atStart => exact ⟨0, Nat.zero_le _, rfl, Lib.hid (fun i y hi => absurd hi (by omega)), Lib.hid (Below.refl _ _)⟩
  case round =>
    obtain ⟨k, hk, rfl, hun, hB⟩ := hrel
    by_cases hlt : k < l.length
    · obtain ⟨x, hx⟩ : ∃ x, l[k]? = some x := ⟨_, List.getElem?_eq_getElem hlt⟩
      have HK := H.out.on hB.out (Nat.le_refl _)
      obtain ⟨pb, o, rfl, -, -⟩ := HK.1.at_ hx
      have y0 := ls_at HK.1 hx
      have HXX := Lib.hid hx
      have hki : ((k : Nat) : Int).toNat = k := by omega
      have hlt' : (k : Int) < ((l.length : Nat) : Int) := by omega
      have HC := Lib.hid (fun (r : Bool) (hr : disB x.l = r) => c_isDisordered x.A x.c x.l r hr wr (HK.2 x (List.mem_of_getElem? hx)))
      clear hx HK
      rcases hp : disB x.l with _ | _
      · have HP := Lib.hid hp
        clear hp
        go_wp2_with (go_at_call 73; refine (HC.out _ HP.out).mono ?_; rintro e w1 ⟨rfl, b1⟩; have HB1 := Lib.hid (below_join hB.out b1 hB.out.size); clear b1 y0)
        go_roundw
        case rel => exact ⟨k + 1, by omega, by go_num, Lib.hid (fun i y hi hy => by
          rcases Nat.lt_or_ge i k with h | h
          · exact hun.out i y h hy
          · obtain rfl : i = k := by omega
            have := HXX.out
            rw [hy] at this
            injection this with this
            subst this
            exact HP.out), HB1⟩
        case measure => simp only [intOf]; omega
      · have HKY := Lib.hid (show (k : Int) = y by rw [← HY.out]; exact (fidx_at _ l k _ hun.out HXX.out hp).symm)
        have HP := Lib.hid hp
        clear hp
        go_wp2_with (go_at_call 73; refine (HC.out _ HP.out).mono ?_; rintro e w1 ⟨rfl, b1⟩; have HB1 := Lib.hid (below_join hB.out b1 hB.out.size); clear b1 y0)
        go_ret
        exact ⟨(show Ending.returned (.int .i64 (k : Int)) = .returned (.int .i64 y) by rw [HKY.out]), HB1.out⟩
    · obtain rfl : k = l.length := by omega
      have HKY := Lib.hid (show (-1 : Int) = y by rw [← HY.out, fidx_none _ l (fun i y hy => hun.out i y (List.getElem?_eq_some_iff.1 hy).1 hy)])
      go_wp2_with (fail)
      go_ret
      exact ⟨(show Ending.returned (.int .i64 (-1)) = .returned (.int .i64 y) by rw [HKY.out]), hB.out⟩
set_option maxHeartbeats 4000000 in
theorem c_CF_list (A : Option Addr) (c : Nat) (l : List LsV) (w : World) (h : LsAt w A c l) (r : Bool) (hr : l.any (fun x => disB x.l) = r) :
    Calls Try.prog 72 #[.slice A l.length c, .func (.func 73) #[] #[]] w fun e w' => e = .returned (.bool r) ∧ Below w.heap.size w w' := by
  obtain ⟨y, hy⟩ : ∃ y, fidx (fun x : LsV => disB x.l) l = y := ⟨_, rfl⟩
  have HC := Lib.hid (c_IF_list A c l w h y hy)
  have HR := Lib.hid (show decide (0 ≤ y) = r by rw [← hy, fidx_any, hr])
  clear hy hr h
  go_enter Try.func72, Try.ntmps72
  go_wp2_with (go_at_call 87; refine HC.out.mono ?_; rintro e w1 ⟨rfl, b1⟩; have HB1 := Lib.hid b1; clear b1)
  go_ret
  exact ⟨(show Ending.returned (.bool (decide (0 ≤ y))) = .returned (.bool r) by rw [HR.out]), HB1.out⟩
/-- Each list names others. -/
def NmOk (xs : List LsV) : Prop := ∀ (o : Nat) (x : LsV), xs[o]? = some x → ∀ i ∈ x.l, 0 ≤ i ∧ i < xs.length ∧ i ≠ o
set_option maxHeartbeats 4000000 in
theorem c_nameOthers (A : Option Addr) (c : Nat) (xs : List LsV) (r : Bool) (hr : r = true ↔ NmOk xs) (w : World) (h : LsAt w A c xs) :
    Calls Try.prog 74 #[.slice A xs.length c] w fun e w' => e = .returned (.bool r) ∧ Below w.heap.size w w' := by
  have H := Lib.hid h
  have HR := Lib.hid hr
  have k1 := h.1.1; have k2 := h.1.2.1
  unfold maxLen at k2
  clear h hr
  go_enter Try.func74, Try.ntmps74
  go_wp2_with (fail)
  go_loopw [9] (fun i wr => ∃ k : Nat, k ≤ xs.length ∧ i = .int .i64 (k : Int) ∧ Hid (Below w.heap.size w wr) ∧ Hid (∀ (o : Nat) (x : LsV), o < k → xs[o]? = some x → ∀ i ∈ x.l, 0 ≤ i ∧ i < xs.length ∧ i ≠ o)) (fun i _ => xs.length - (intOf i).toNat)
  case atStart => exact ⟨0, Nat.zero_le _, rfl, Lib.hid (Below.refl _ _), Lib.hid (fun o x ho => absurd ho (by omega))⟩
  case round =>
    obtain ⟨k, hk, rfl, hB, hok⟩ := hrel
    have hki : ((k : Nat) : Int).toNat = k := by omega
    by_cases hlt : k < xs.length
    · obtain ⟨x, hx⟩ : ∃ x, xs[k]? = some x := ⟨_, List.getElem?_eq_getElem hlt⟩
      have HK := H.out.on hB.out (Nat.le_refl _)
      obtain ⟨pb, o, rfl, -, -⟩ := HK.1.at_ hx
      have y0 := ls_at HK.1 hx
      have HXX := Lib.hid hx
      have HXL := Lib.hid (H.out.2 x (List.mem_of_getElem? hx))
      have j1 := HXL.out.1; have j2 := HXL.out.2.1
      unfold maxLen at j2
      have hlt' : (k : Int) < ((xs.length : Nat) : Int) := by omega
      clear hx HK
      go_wp2_with (fail)
      clear y0
      go_loopw [16] (fun i wr => ∃ t : Nat, t ≤ x.l.length ∧ i = .int .i64 (t : Int) ∧ Hid (Below w.heap.size w wr) ∧ Hid (∀ j z, j < t → x.l[j]? = some z → 0 ≤ z ∧ z < xs.length ∧ z ≠ k)) (fun i _ => x.l.length - (intOf i).toNat)
      case atStart => exact ⟨0, Nat.zero_le _, rfl, hB, Lib.hid (fun j z hj => absurd hj (by omega))⟩
      case round =>
        obtain ⟨t, ht, rfl, hC, hot⟩ := hrel
        have hti : ((t : Nat) : Int).toNat = t := by omega
        by_cases hlt2 : t < x.l.length
        · obtain ⟨z, hz⟩ : ∃ z, x.l[t]? = some z := ⟨_, List.getElem?_eq_getElem hlt2⟩
          have HL := HXL.out.on hC.out (Nat.le_refl _)
          obtain ⟨b2, o2, e2, -, -⟩ := HL.at_ hz
          rw [e2] at HL
          have y1 := inV_at HL hz
          have htl : (t : Int) < ((x.l.length : Nat) : Int) := by omega
          have HZ := Lib.hid hz
          clear hz HL
          rw [e2]
          have hno : ¬ (0 ≤ z ∧ z < (xs.length : Int) ∧ z ≠ (k : Int)) → r = false := fun hn => by
            rw [Bool.eq_false_iff]
            intro hr
            exact hn (HR.out.1 hr k x HXX.out z (List.mem_of_getElem? HZ.out))
          have HNO := Lib.hid hno
          clear hno
          rcases d1 : decide (z < 0) with _ | _
          · rcases d2 : decide ((xs.length : Int) ≤ z) with _ | _
            · rcases d3 : (z == (k : Int)) with _ | _
              · have HOT := Lib.hid (show ∀ j z, j < t + 1 → x.l[j]? = some z → 0 ≤ z ∧ z < (xs.length : Int) ∧ z ≠ (k : Int) from fun j u hj hu => by
                  rcases Nat.lt_or_ge j t with h | h
                  · exact hot.out j u h hu
                  · obtain rfl : j = t := by omega
                    rw [HZ.out] at hu
                    injection hu with hu
                    subst hu
                    have e1 := of_decide_eq_false d1
                    have e2 := of_decide_eq_false d2
                    have e3 : z ≠ (k : Int) := by simpa using d3
                    exact ⟨by omega, by omega, e3⟩)
                go_wp2_with (fail)
                go_roundw
                case rel => exact ⟨t + 1, by omega, by go_num, hC, HOT⟩
                case measure => simp only [intOf]; omega
              · obtain rfl : r = false := HNO.out (fun h => h.2.2 (by simpa using d3))
                go_wp2_with (fail)
                go_ret
                exact ⟨rfl, hC.out⟩
            · obtain rfl : r = false := HNO.out (fun h => by have := of_decide_eq_true d2; omega)
              go_wp2_with (fail)
              go_ret
              exact ⟨rfl, hC.out⟩
          · obtain rfl : r = false := HNO.out (fun h => by have := of_decide_eq_true d1; omega)
            go_wp2_with (fail)
            go_ret
            exact ⟨rfl, hC.out⟩
        · obtain rfl : t = x.l.length := by omega
          have HOK := Lib.hid (show ∀ (o : Nat) (y : LsV), o < k + 1 → xs[o]? = some y → ∀ i ∈ y.l, 0 ≤ i ∧ i < xs.length ∧ i ≠ o from fun o y ho hy i hi => by
            rcases Nat.lt_or_ge o k with h | h
            · exact hok.out o y h hy i hi
            · obtain rfl : o = k := by omega
              rw [HXX.out] at hy
              injection hy with hy
              subst hy
              obtain ⟨j, hj⟩ := List.getElem?_of_mem hi
              exact hot.out j i (List.getElem?_eq_some_iff.1 hj).1 hj)
          go_wp2_with (fail)
          go_roundw
          case rel => exact ⟨k + 1, by omega, by go_num, hC, HOK⟩
          case measure => simp only [intOf]; omega
    · obtain rfl : k = xs.length := by omega
      obtain rfl : r = true := HR.out.2 fun o x hx => hok.out o x (List.getElem?_eq_some_iff.1 hx).1 hx
      go_wp2_with (fail)
      go_ret
      exact ⟨rfl, hB.out⟩
end Go.Proofs.Ytjheaeeeeggncaa
