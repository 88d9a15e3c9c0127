/-
  DERIVED. Several texts in one.
-/
import Derived.ProofKit
import Derived.Test.YtbbadnlaelgmlaaGreatPYA1
import Derived.Test.YtbbadnlaelgmlaaGreatPYA2
import Derived.Deep.WholeRow
import Derived.Deep.Cut
import Derived.Laws.EntriesVeiled
import Derived.Test.YtbbadnlaelgmlaaGreatRows
import Derived.Handed
import Derived.OpenShut
import Derived.Deep.Fields
import Derived.Deep.Slices
import Derived.ChangeSame
import Derived.ChangeSlices
set_option linter.unusedVariables false
set_option linter.unusedSimpArgs false

namespace Go.Proofs.YtbbadnlaelgmlaaGreat
set_option linter.unusedVariables false
set_option linter.unusedSimpArgs false

section
variable (n : Nat) (L : Nat → Nat → Int)
/-- A walk from a: the nodes behind it, one after another. -/
def wok : Nat → List Nat → Prop
  | _, [] => True
  | a, x :: l => x < n ∧ 0 ≤ L a x ∧ wok x l
def wlen : Nat → List Nat → Int
  | _, [] => 0
  | a, x :: l => L a x + wlen x l
def wend : Nat → List Nat → Nat
  | a, [] => a
  | _, x :: l => wend x l
/-- d is the distance of a and b. -/
def IsDist (a b : Nat) (d : Int) : Prop := (∃ l, wok n L a l ∧ wend a l = b ∧ wlen L a l = d) ∧ ∀ l, wok n L a l → wend a l = b → d ≤ wlen L a l
/-- There is no way. -/
def NoWay (a b : Nat) : Prop := ∀ l, wok n L a l → wend a l ≠ b
end
section
variable {n : Nat} {L : Nat → Nat → Int}
theorem wok_app : ∀ {l m : List Nat} {a : Nat}, wok n L a (l ++ m) ↔ wok n L a l ∧ wok n L (wend a l) m
  | [], m, a => by simp [wok, wend]
  | x :: l, m, a => by
    show (x < n ∧ 0 ≤ L a x ∧ wok n L x (l ++ m)) ↔ (x < n ∧ 0 ≤ L a x ∧ wok n L x l) ∧ wok n L (wend x l) m
    rw [wok_app]
    exact ⟨fun ⟨a, b, c, d⟩ => ⟨⟨a, b, c⟩, d⟩, fun ⟨⟨a, b, c⟩, d⟩ => ⟨a, b, c, d⟩⟩
theorem wend_app : ∀ {l m : List Nat} {a : Nat}, wend a (l ++ m) = wend (wend a l) m
  | [], _, _ => rfl
  | _ :: l, m, _ => wend_app (l := l) (m := m)
theorem wlen_app : ∀ {l m : List Nat} {a : Nat}, wlen L a (l ++ m) = wlen L a l + wlen L (wend a l) m
  | [], m, a => by show wlen L a m = 0 + wlen L a m; omega
  | x :: l, m, a => by
    show L a x + wlen L x (l ++ m) = L a x + wlen L x l + wlen L (wend x l) m
    rw [wlen_app]; omega
theorem wlen_pos (hL : ∀ i j, 0 ≤ L i j → 1 ≤ L i j) : ∀ {l : List Nat} {a : Nat}, wok n L a l → (l.length : Int) ≤ wlen L a l
  | [], _, _ => by simp [wlen]
  | x :: l, a, h => by
    have h1 := wlen_pos hL h.2.2
    have h2 := hL _ _ h.2.1
    rw [List.length_cons]
    show _ ≤ L a x + wlen L x l
    omega
/-- The walk back. -/
def back : Nat → List Nat → List Nat
  | _, [] => []
  | a, x :: l => back x l ++ [a]
theorem back_ok (hs : ∀ i j, L i j = L j i) : ∀ {l : List Nat} {a : Nat}, a < n → wok n L a l → wok n L (wend a l) (back a l) ∧ wend (wend a l) (back a l) = a ∧ wlen L (wend a l) (back a l) = wlen L a l
  | [], a, ha, _ => ⟨trivial, rfl, rfl⟩
  | x :: l, a, ha, h => by
    obtain ⟨h1, h2, h3⟩ := back_ok hs h.1 h.2.2
    show wok n L (wend x l) (back x l ++ [a]) ∧ wend (wend x l) (back x l ++ [a]) = a ∧ wlen L (wend x l) (back x l ++ [a]) = L a x + wlen L x l
    rw [wok_app, wend_app, wlen_app, h2, h3]
    refine ⟨⟨h1, ha, by rw [hs]; exact h.2.1, trivial⟩, rfl, ?_⟩
    show wlen L x l + (L x a + 0) = _
    rw [hs x a]; omega
theorem IsDist.uniq {a b : Nat} {d e : Int} (h : IsDist n L a b d) (k : IsDist n L a b e) : d = e := by
  obtain ⟨⟨l, l1, l2, l3⟩, h2⟩ := h
  obtain ⟨⟨m, m1, m2, m3⟩, k2⟩ := k
  have := h2 m m1 m2
  have := k2 l l1 l2
  omega
theorem IsDist.sym (hs : ∀ i j, L i j = L j i) {a b : Nat} {d : Int} (ha : a < n) (hb : b < n) (h : IsDist n L a b d) : IsDist n L b a d := by
  obtain ⟨⟨l, l1, l2, l3⟩, h2⟩ := h
  obtain ⟨b1, b2, b3⟩ := back_ok hs ha l1
  rw [l2] at b1 b2 b3
  refine ⟨⟨back a l, b1, b2, by omega⟩, fun m m1 m2 => ?_⟩
  obtain ⟨c1, c2, c3⟩ := back_ok hs hb m1
  rw [m2] at c1 c2 c3
  have := h2 _ c1 c2
  omega
theorem NoWay.sym (hs : ∀ i j, L i j = L j i) {a b : Nat} (ha : a < n) (hb : b < n) (h : NoWay n L a b) : NoWay n L b a := fun m m1 m2 => by
  obtain ⟨c1, c2, c3⟩ := back_ok hs hb m1
  rw [m2] at c1 c2
  exact h _ c1 c2
theorem IsDist.self (hL : ∀ i j, 0 ≤ L i j → 1 ≤ L i j) (a : Nat) : IsDist n L a a 0 := ⟨⟨[], trivial, rfl, rfl⟩, fun l h _ => by have := wlen_pos hL h; omega⟩
/-- There is a distance, or no way. -/
theorem dist_or (hL : ∀ i j, 0 ≤ L i j → 1 ≤ L i j) (a b : Nat) : (∃ d : Nat, IsDist n L a b d) ∨ NoWay n L a b := by
  by_cases h : ∃ l, wok n L a l ∧ wend a l = b
  · left
    have key : ∀ (m : Nat) (l : List Nat), wok n L a l → wend a l = b → wlen L a l = m → ∃ d : Nat, IsDist n L a b d := by
      intro m
      induction m using Nat.strongRecOn with
      | ind m ih =>
        intro l l1 l2 l3
        by_cases hm : ∃ k, wok n L a k ∧ wend a k = b ∧ wlen L a k < m
        · obtain ⟨k, k1, k2, k3⟩ := hm
          have := wlen_pos hL k1
          exact ih (wlen L a k).toNat (by omega) k k1 k2 (by omega)
        · refine ⟨m, ⟨l, l1, l2, l3⟩, fun k k1 k2 => ?_⟩
          rcases Int.lt_or_le (wlen L a k) m with h3 | h3
          · exact absurd ⟨k, k1, k2, h3⟩ hm
          · exact h3
    obtain ⟨l, l1, l2⟩ := h
    have := wlen_pos hL l1
    exact key (wlen L a l).toNat l l1 l2 (by omega)
  · exact .inr fun l l1 l2 => h ⟨l, l1, l2⟩
/-- The better one of what was found so far and what is found by way of x. -/
def btr (w : Int) (x : Nat) (acc : Option (List Nat × Int)) : Option (List Nat × Int) → Option (List Nat × Int)
  | none => acc
  | some (l, m) =>
    match acc with
    | none => some (x :: l, w + m)
    | some (k, c) => if w + m < c then some (x :: l, w + m) else some (k, c)
/-- What the specification finds: the first shortest way on to b that visits no node again. -/
def bstL (n : Nat) (L : Nat → Nat → Int) (rec : List Nat → Nat → Option (List Nat × Int)) (vis : List Nat) (at_ : Nat) : Nat → Option (List Nat × Int)
  | 0 => none
  | x + 1 => if L at_ x < 0 ∨ x ∈ vis then bstL n L rec vis at_ x else btr (L at_ x) x (bstL n L rec vis at_ x) (rec (x :: vis) x)
def bst (n : Nat) (L : Nat → Nat → Int) (b : Nat) : Nat → List Nat → Nat → Option (List Nat × Int)
  | 0, _, at_ => if at_ = b then some ([], 0) else none
  | f + 1, vis, at_ => if at_ = b then some ([], 0) else bstL n L (bst n L b f) vis at_ n
/-- All that is found is a walk. -/
def SndR (n : Nat) (L : Nat → Nat → Int) (b at_ : Nat) (r : Option (List Nat × Int)) : Prop := ∀ l m, r = some (l, m) → wok n L at_ l ∧ wend at_ l = b ∧ wlen L at_ l = m
theorem btr_snd {b at_ x : Nat} (hx : x < n) (hw : 0 ≤ L at_ x) {acc r : Option (List Nat × Int)} (h1 : SndR n L b at_ acc) (h2 : SndR n L b x r) : SndR n L b at_ (btr (L at_ x) x acc r) := by
  have key : ∀ l m, r = some (l, m) → wok n L at_ (x :: l) ∧ wend at_ (x :: l) = b ∧ wlen L at_ (x :: l) = L at_ x + m := fun l m e => by
    obtain ⟨a, b, c⟩ := h2 l m e
    exact ⟨⟨hx, hw, a⟩, b, by show L at_ x + wlen L x l = _; omega⟩
  intro l m e
  unfold btr at e
  split at e
  · exact h1 l m e
  · split at e
    · injection e with e; injection e with e1 e2; subst e1 e2; exact key _ _ rfl
    · split at e
      · injection e with e; injection e with e1 e2; subst e1 e2; exact key _ _ rfl
      · exact h1 l m e
theorem bstL_snd {b at_ : Nat} {rec : List Nat → Nat → Option (List Nat × Int)} (hr : ∀ vis x, SndR n L b x (rec vis x)) (vis : List Nat) : ∀ k, k ≤ n → SndR n L b at_ (bstL n L rec vis at_ k)
  | 0, _ => fun l m e => by cases e
  | k + 1, hk => by
    rw [bstL]
    split
    · exact bstL_snd hr vis k (by omega)
    · rename_i h
      exact btr_snd (by omega) (by omega) (bstL_snd hr vis k (by omega)) (hr _ _)
theorem bst_snd (b : Nat) : ∀ f vis at_, SndR n L b at_ (bst n L b f vis at_)
  | 0, vis, at_ => fun l m e => by
    rw [bst] at e
    split at e
    · injection e with e; injection e with e1 e2; subst e1 e2; exact ⟨trivial, by assumption, rfl⟩
    · cases e
  | f + 1, vis, at_ => by
    rw [bst]
    split
    · intro l m e
      injection e with e; injection e with e1 e2; subst e1 e2; exact ⟨trivial, by assumption, rfl⟩
    · exact bstL_snd (fun vis x => bst_snd b f vis x) vis n (Nat.le_refl _)
/-- The next node of a shortest way to b: dd says the distances. -/
def isNext (L : Nat → Nat → Int) (dd : Nat → Int) (at_ x : Nat) : Bool := decide (0 ≤ L at_ x) && (decide (0 ≤ dd x) && decide (L at_ x + dd x = dd at_))
def nextOf (n : Nat) (L : Nat → Nat → Int) (dd : Nat → Int) (at_ : Nat) : Option Nat := (List.range n).find? (isNext L dd at_)
def gr (n : Nat) (L : Nat → Nat → Int) (b : Nat) (dd : Nat → Int) : Nat → Nat → List Nat
  | 0, _ => []
  | f + 1, at_ => if at_ = b then [] else match nextOf n L dd at_ with
    | none => []
    | some x => x :: gr n L b dd f x
/-- The distances to b, -1 where there is no way. -/
structure Dst (n : Nat) (L : Nat → Nat → Int) (b : Nat) (dd : Nat → Int) : Prop where
  is : ∀ a, a < n → 0 ≤ dd a → IsDist n L a b (dd a)
  no : ∀ a, a < n → dd a < 0 → NoWay n L a b
theorem Dst.of {b : Nat} {dd : Nat → Int} (h : Dst n L b dd) (hL : ∀ i j, 0 ≤ L i j → 1 ≤ L i j) {a : Nat} (ha : a < n) {l : List Nat} (l1 : wok n L a l) (l2 : wend a l = b) : 0 ≤ dd a ∧ dd a ≤ wlen L a l := by
  rcases Int.lt_or_le (dd a) 0 with h1 | h1
  · exact absurd l2 (h.no a ha h1 l l1)
  · exact ⟨h1, (h.is a ha h1).2 l l1 l2⟩
/-- From a node with a way there is a next one. -/
theorem Dst.next {b : Nat} {dd : Nat → Int} (h : Dst n L b dd) (hL : ∀ i j, 0 ≤ L i j → 1 ≤ L i j) {a : Nat} (ha : a < n) (hne : a ≠ b) (hd : 0 ≤ dd a) : ∃ x, nextOf n L dd a = some x ∧ x < n ∧ isNext L dd a x = true ∧ ∀ y, y < x → isNext L dd a y = false := by
  obtain ⟨⟨l, l1, l2, l3⟩, h2⟩ := h.is a ha hd
  cases l with
  | nil => exact absurd l2 hne
  | cons y l =>
    obtain ⟨hy, hw, hl⟩ := l1
    have l2' : wend y l = b := l2
    have l3' : L a y + wlen L y l = dd a := l3
    have h3 := h.of hL hy hl l2'
    obtain ⟨⟨m, m1, m2, m3⟩, -⟩ := h.is y hy h3.1
    have h4 := h2 (y :: m) ⟨hy, hw, m1⟩ m2
    have h4' : dd a ≤ L a y + wlen L y m := h4
    have hyn : isNext L dd a y = true := by
      unfold isNext
      rw [decide_eq_true hw, decide_eq_true h3.1, decide_eq_true (by omega)]; rfl
    unfold nextOf
    cases e : (List.range n).find? (isNext L dd a) with
    | none =>
      have := List.find?_eq_none.1 e y (List.mem_range.2 hy)
      exact absurd hyn this
    | some x =>
      have hx := List.find?_some e
      have hxm := List.mem_range.1 (List.mem_of_find?_eq_some e)
      refine ⟨x, rfl, hxm, hx, fun z hz => ?_⟩
      rw [List.find?_eq_some_iff_getElem] at e
      obtain ⟨-, i, hi, e1, e2⟩ := e
      rw [List.getElem_range] at e1
      have := e2 z (by omega)
      rw [List.getElem_range] at this
      simpa using this
theorem isNext_iff {dd : Nat → Int} {a x : Nat} : isNext L dd a x = true ↔ 0 ≤ L a x ∧ 0 ≤ dd x ∧ L a x + dd x = dd a := by
  unfold isNext; simp
/-- What is found among the first nodes: nothing as short as d before the next node x0, then the way by x0. -/
theorem bstL_first {b : Nat} {dd : Nat → Int} (h : Dst n L b dd) (hL : ∀ i j, 0 ≤ L i j → 1 ≤ L i j) {rec : List Nat → Nat → Option (List Nat × Int)} (hr : ∀ vis x, SndR n L b x (rec vis x)) {vis : List Nat} {at_ x0 : Nat} (hx0 : x0 < n) (hn : isNext L dd at_ x0 = true) (hf : ∀ y, y < x0 → isNext L dd at_ y = false) (hv : x0 ∉ vis) {g : List Nat} (hg : rec (x0 :: vis) x0 = some (g, dd x0)) (hat : 0 ≤ dd at_) (hd : IsDist n L at_ b (dd at_)) :
    ∀ k, k ≤ n → (k ≤ x0 → ∀ l m, bstL n L rec vis at_ k = some (l, m) → dd at_ < m) ∧ (x0 < k → bstL n L rec vis at_ k = some (x0 :: g, dd at_)) := by
  obtain ⟨n1, n2, n3⟩ := isNext_iff.1 hn
  intro k
  induction k with
  | zero => exact fun _ => ⟨fun _ l m e => (by cases e), fun e => absurd e (by omega)⟩
  | succ k ih =>
    intro hk
    obtain ⟨i1, i2⟩ := ih (by omega)
    rw [bstL]
    -- what is found by way of k
    have hk2 : ∀ l m, ¬ (L at_ k < 0 ∨ k ∈ vis) → rec (k :: vis) k = some (l, m) → dd at_ ≤ L at_ k + m ∧ (k < x0 → dd at_ < L at_ k + m) := by
      intro l m hc e
      obtain ⟨r1, r2, r3⟩ := hr _ _ l m e
      have hkn : k < n := by omega
      have hw : 0 ≤ L at_ k := by omega
      have h1 := h.of hL hkn r1 r2
      have h2 := hd.2 (k :: l) ⟨hkn, hw, r1⟩ r2
      have h2' : dd at_ ≤ L at_ k + wlen L k l := h2
      refine ⟨by omega, fun hlt => ?_⟩
      rcases Int.lt_or_eq_of_le (show dd at_ ≤ L at_ k + m by omega) with h3 | h3
      · exact h3
      · exfalso
        obtain ⟨⟨q, q1, q2, q3⟩, -⟩ := h.is k hkn h1.1
        have h4 := hd.2 (k :: q) ⟨hkn, hw, q1⟩ q2
        have h4' : dd at_ ≤ L at_ k + wlen L k q := h4
        have := hf k hlt
        rw [Bool.eq_false_iff, Ne, isNext_iff] at this
        exact this ⟨hw, h1.1, by omega⟩
    refine ⟨fun hle => ?_, fun hlt => ?_⟩
    · split
      · exact i1 (by omega)
      · rename_i hc
        intro l m e
        unfold btr at e
        split at e
        · exact i1 (by omega) l m e
        · rename_i l' m' er
          have h5 := (hk2 l' m' hc er).2 (by omega)
          split at e
          · injection e with e; injection e with e1 e2; subst e1 e2; exact h5
          · rename_i kk c ea
            have h6 := i1 (by omega) kk c ea
            split at e
            · injection e with e; injection e with e1 e2; subst e1 e2; exact h5
            · injection e with e; injection e with e1 e2; subst e1 e2; exact h6
    · rcases Nat.lt_or_ge x0 k with h7 | h7
      · have e0 := i2 h7
        rw [e0]
        split
        · rfl
        · rename_i hc
          cases er : rec (k :: vis) k with
          | none => rfl
          | some r =>
            obtain ⟨l', m'⟩ := r
            have h5 := (hk2 l' m' hc er).1
            show (if L at_ k + m' < dd at_ then _ else _) = _
            rw [if_neg (by omega)]
      · obtain rfl : k = x0 := by omega
        rw [if_neg (by rintro (e | e); exact absurd e (by omega); exact hv e), hg]
        cases ea : bstL n L rec vis at_ k with
        | none => show some (k :: g, L at_ k + dd k) = _; rw [n3]
        | some r =>
          obtain ⟨l', c⟩ := r
          have h6 := i1 (Nat.le_refl _) l' c ea
          show (if L at_ k + dd k < c then _ else _) = _
          rw [if_pos (by omega), n3]
theorem nodup_full {N : Nat} {l : List Nat} (h1 : l.Nodup) (h2 : ∀ x ∈ l, x < N) {x : Nat} (hx : x < N) (hn : x ∉ l) : l.length < N := by
  have h3 : (x :: l).Nodup := List.nodup_cons.2 ⟨hn, h1⟩
  have h4 : (x :: l).length ≤ N := by
    have h5 : ∀ (N : Nat) (l : List Nat), l.Nodup → (∀ x ∈ l, x < N) → l.length ≤ N := by
      intro N
      induction N with
      | zero => intro l _ h; cases l with
        | nil => simp
        | cons a l => exact absurd (h a (by simp)) (by omega)
      | succ N ih =>
        intro l hl h
        have h6 := ih (l.filter (fun x => decide (x ≠ N))) (hl.filter _) (fun x hx => by
          have := h x (List.mem_filter.1 hx).1
          have h7 := (List.mem_filter.1 hx).2
          simp at h7
          omega)
        have h8 : l.length ≤ (l.filter (fun x => decide (x ≠ N))).length + 1 := by
          clear h6 h
          induction l with
          | nil => simp
          | cons a l il =>
            rw [List.filter_cons]
            by_cases e : a = N
            · subst e
              have h9 : l.filter (fun x => decide (x ≠ a)) = l := List.filter_eq_self.2 fun x hx => by
                simp only [decide_eq_true_eq]
                rintro rfl
                exact (List.nodup_cons.1 hl).1 hx
              rw [if_neg (by simp), h9, List.length_cons]
              exact Nat.le_refl _
            · rw [if_pos (by simp [e]), List.length_cons, List.length_cons]
              have := il (List.nodup_cons.1 hl).2
              omega
        omega
    exact h5 N _ h3 (fun y hy => by rcases List.mem_cons.1 hy with rfl | hy; exact hx; exact h2 y hy)
  rw [List.length_cons] at h4
  omega
/-- The first shortest way is the greedy one. -/
theorem bst_gr {b : Nat} {dd : Nat → Int} (h : Dst n L b dd) (hL : ∀ i j, 0 ≤ L i j → 1 ≤ L i j) (hb : b < n) : ∀ (f : Nat) (vis : List Nat) (at_ : Nat), at_ < n → 0 ≤ dd at_ → vis.Nodup → (∀ v ∈ vis, v < n) → at_ ∈ vis → (∀ v ∈ vis, v ≠ at_ → dd at_ < dd v) → n ≤ vis.length + f →
    bst n L b f vis at_ = some (gr n L b dd f at_, dd at_) := by
  have hself : dd b = 0 := by
    have h1 := h.of hL hb (l := []) trivial rfl
    exact IsDist.uniq (h.is b hb h1.1) (IsDist.self hL b)
  intro f
  induction f with
  | zero =>
    intro vis at_ hat hd hnd hvn hvat hv hf
    rw [bst]
    by_cases e : at_ = b
    · subst e; rw [if_pos rfl, hself]; rfl
    · exfalso
      obtain ⟨x0, -, hx0, hn, -⟩ := h.next hL hat e hd
      obtain ⟨n1, n2, n3⟩ := isNext_iff.1 hn
      have n4 := hL _ _ n1
      have hx0v : x0 ∉ vis := fun hm => by
        by_cases e2 : x0 = at_
        · subst e2; omega
        · have := hv x0 hm e2; omega
      have := nodup_full hnd hvn hx0 hx0v
      omega
  | succ f ih =>
    intro vis at_ hat hd hnd hvn hvat hv hf
    rw [bst, gr]
    by_cases e : at_ = b
    · subst e; rw [if_pos rfl, if_pos rfl, hself]
    · rw [if_neg e, if_neg e]
      obtain ⟨x0, e0, hx0, hn, hfirst⟩ := h.next hL hat e hd
      obtain ⟨n1, n2, n3⟩ := isNext_iff.1 hn
      have n4 := hL _ _ n1
      have hx0v : x0 ∉ vis := fun hm => by
        by_cases e2 : x0 = at_
        · subst e2; omega
        · have := hv x0 hm e2; omega
      have hg := ih (x0 :: vis) x0 hx0 n2 (List.nodup_cons.2 ⟨hx0v, hnd⟩) (fun v hv' => by rcases List.mem_cons.1 hv' with rfl | hv'; exact hx0; exact hvn v hv') (by simp) (fun v hv' hne => by
        rcases List.mem_cons.1 hv' with rfl | hv'
        · exact absurd rfl hne
        · by_cases e2 : v = at_
          · subst e2; omega
          · have := hv v hv' e2; omega) (by rw [List.length_cons]; omega)
      rw [e0]
      exact (bstL_first h hL (fun vis x => bst_snd b f vis x) hx0 hn hfirst hx0v hg hd (h.is at_ hat hd) n (Nat.le_refl _)).2 hx0
end
end Go.Proofs.YtbbadnlaelgmlaaGreat

namespace Go.Proofs.YtbbadnlaelgmlaaGreat
set_option linter.unusedVariables false
set_option linter.unusedSimpArgs false

theorem snoc_ind {α : Type} {motive : List α → Prop} (nil : motive []) (snoc : ∀ l x, motive l → motive (l ++ [x])) (l : List α) : motive l := by
  have h : ∀ m : List α, motive m.reverse := by
    intro m
    induction m with
    | nil => exact nil
    | cons x m ih => rw [List.reverse_cons]; exact snoc _ _ ih
  have := h l.reverse
  rwa [List.reverse_reverse] at this
def far : Int := 8000000
/-- The specification's link. -/
def upd (a b best : Int) (x : Lk) : Int := if ((x.a = a ∧ x.b = b) ∨ (x.a = b ∧ x.b = a)) ∧ (best < 0 ∨ x.lat < best) then x.lat else best
def lnk (l : List Lk) (a b : Int) : Int := l.foldl (upd a b) (-1)
def lkN (s : SiteD) (i j : Nat) : Int := lnk s.links (i : Int) (j : Int)
/-- The program's table. -/
def stepM (M : Nat → Nat → Int) (x : Lk) : Nat → Nat → Int := fun i j => if (i = x.a.toNat ∧ j = x.b.toNat) ∨ (i = x.b.toNat ∧ j = x.a.toNat) then min (M x.a.toNat x.b.toNat) x.lat else M i j
def lkM0 : Nat → Nat → Int := fun i j => if i = j then 0 else far
def lkM (l : List Lk) : Nat → Nat → Int := l.foldl stepM lkM0
theorem lnk_snoc (l : List Lk) (x : Lk) (a b : Int) : lnk (l ++ [x]) a b = upd a b (lnk l a b) x := by unfold lnk; rw [List.foldl_append]; rfl
theorem lkM_snoc (l : List Lk) (x : Lk) : lkM (l ++ [x]) = stepM (lkM l) x := by unfold lkM; rw [List.foldl_append]; rfl
theorem lnk_sym (l : List Lk) (a b : Int) : lnk l a b = lnk l b a := by
  induction l using snoc_ind with
  | nil => rfl
  | snoc l x ih =>
    rw [lnk_snoc, lnk_snoc, ih]
    unfold upd
    by_cases h : (x.a = a ∧ x.b = b) ∨ (x.a = b ∧ x.b = a)
    · have h' : (x.a = b ∧ x.b = a) ∨ (x.a = a ∧ x.b = b) := h.symm
      simp only [h, h', true_and]
    · have h' : ¬ ((x.a = b ∧ x.b = a) ∨ (x.a = a ∧ x.b = b)) := fun e => h e.symm
      simp only [h, h', false_and]
/-- What links are: of nodes below n, latencies from 1 to 1000000. -/
def LksOk (n : Nat) (l : List Lk) : Prop := ∀ x ∈ l, (0 ≤ x.a ∧ x.a < n) ∧ (0 ≤ x.b ∧ x.b < n) ∧ x.a ≠ x.b ∧ 1 ≤ x.lat ∧ x.lat ≤ 1000000
theorem lnk_range {n : Nat} {l : List Lk} (h : LksOk n l) (a b : Int) : lnk l a b = -1 ∨ (1 ≤ lnk l a b ∧ lnk l a b ≤ 1000000 ∧ (0 ≤ a ∧ a < n) ∧ 0 ≤ b ∧ b < n) := by
  induction l using snoc_ind with
  | nil => exact .inl rfl
  | snoc l x ih =>
    have h1 := h x (by simp)
    have h2 := ih (fun y hy => h y (by simp [hy]))
    rw [lnk_snoc]
    unfold upd
    split
    · right; omega
    · exact h2
theorem lkM_is {n : Nat} {l : List Lk} (h : LksOk n l) (i j : Nat) : lkM l i j = if i = j then 0 else if lnk l i j < 0 then far else lnk l i j := by
  induction l using snoc_ind generalizing i j with
  | nil => rfl
  | snoc l x ih =>
    have h1 := h x (by simp)
    have h0 : LksOk n l := fun y hy => h y (by simp [hy])
    have hl := lnk_range h0
    rw [lkM_snoc, lnk_snoc]
    unfold stepM upd
    by_cases c : (i = x.a.toNat ∧ j = x.b.toNat) ∨ (i = x.b.toNat ∧ j = x.a.toNat)
    · have hne : i ≠ j := by omega
      have c2 : (x.a = (i : Int) ∧ x.b = (j : Int)) ∨ (x.a = (j : Int) ∧ x.b = (i : Int)) := by omega
      rw [if_pos c, if_neg hne, ih h0, if_neg (by omega)]
      have e : lnk l ((x.a.toNat : Nat) : Int) ((x.b.toNat : Nat) : Int) = lnk l (i : Int) (j : Int) := by
        rcases c with ⟨rfl, rfl⟩ | ⟨rfl, rfl⟩
        · rfl
        · exact lnk_sym _ _ _
      rw [e]
      have := hl i j
      unfold far
      simp only [c2, true_and]
      repeat' split
      all_goals omega
    · have c2 : ¬ ((x.a = (i : Int) ∧ x.b = (j : Int)) ∨ (x.a = (j : Int) ∧ x.b = (i : Int))) := by omega
      rw [if_neg c, ih h0]
      simp only [c2, false_and, if_false]
/-- The facts on a valid site's links. -/
structure LOk (n : Nat) (L : Nat → Nat → Int) : Prop where
  pos : ∀ i j, 0 ≤ L i j → 1 ≤ L i j
  sym : ∀ i j, L i j = L j i
  top : ∀ i j, L i j ≤ 1000000
  lt : ∀ i j, 0 ≤ L i j → i < n ∧ j < n
theorem lkN_ok {s : SiteD} {n : Nat} (h : LksOk n s.links) : LOk n (lkN s) := by
  refine ⟨fun i j g => ?_, fun i j => lnk_sym _ _ _, fun i j => ?_, fun i j g => ?_⟩
  · have := lnk_range h i j; unfold lkN at *; omega
  · have := lnk_range h i j; unfold lkN at *; omega
  · have := lnk_range h i j; unfold lkN at *; omega
/-- The distance as a number, -1 where there is no way. -/
noncomputable def dV (n : Nat) (L : Nat → Nat → Int) (a b : Nat) : Int := open Classical in if h : ∃ d, IsDist n L a b d then Classical.choose h else -1
noncomputable def wV (n : Nat) (L : Nat → Nat → Int) (a b : Nat) : Int := if dV n L a b < 0 then far else dV n L a b
section
variable {n : Nat} {L : Nat → Nat → Int}
theorem dV_is (hL : LOk n L) {a b : Nat} {d : Int} (h : IsDist n L a b d) : dV n L a b = d := by
  unfold dV
  rw [dif_pos ⟨d, h⟩]
  exact (Classical.choose_spec (⟨d, h⟩ : ∃ d, IsDist n L a b d)).uniq h
theorem noway_dist {a b : Nat} {d : Int} (h : NoWay n L a b) (k : IsDist n L a b d) : False := by
  obtain ⟨⟨l, l1, l2, -⟩, -⟩ := k
  exact h l l1 l2
theorem dV_no {a b : Nat} (h : NoWay n L a b) : dV n L a b = -1 := by
  unfold dV
  rw [dif_neg (by rintro ⟨d, hd⟩; exact noway_dist h hd)]
theorem dV_cases (hL : LOk n L) (a b : Nat) : (∃ d : Nat, IsDist n L a b d ∧ dV n L a b = d) ∨ (NoWay n L a b ∧ dV n L a b = -1) := by
  rcases dist_or hL.pos a b with ⟨d, h⟩ | h
  · exact .inl ⟨d, h, dV_is hL h⟩
  · exact .inr ⟨h, dV_no h⟩
theorem dV_dst (hL : LOk n L) (b : Nat) : Dst n L b (fun a => dV n L a b) := by
  refine ⟨fun a ha h => ?_, fun a ha h => ?_⟩
  · rcases dV_cases hL a b with ⟨d, h1, h2⟩ | ⟨h1, h2⟩
    · show IsDist n L a b (dV n L a b)
      rw [h2]; exact h1
    · have : (0 : Int) ≤ dV n L a b := h
      omega
  · rcases dV_cases hL a b with ⟨d, h1, h2⟩ | ⟨h1, h2⟩
    · have : dV n L a b < (0 : Int) := h
      omega
    · exact h1
theorem dV_self (hL : LOk n L) (a : Nat) : dV n L a a = 0 := dV_is hL (IsDist.self hL.pos a)
theorem dV_ge (hL : LOk n L) (a b : Nat) : -1 ≤ dV n L a b := by
  rcases dV_cases hL a b with ⟨d, h1, h2⟩ | ⟨h1, h2⟩ <;> omega
/-- A distance is less than far. -/
theorem dst_bound (hL : LOk n L) {b : Nat} {dd : Nat → Int} (h : Dst n L b dd) (hb : b < n) : ∀ (f : Nat) (vis : List Nat) (at_ : Nat), at_ < n → 0 ≤ dd at_ → vis.Nodup → (∀ v ∈ vis, v < n) → at_ ∈ vis → (∀ v ∈ vis, v ≠ at_ → dd at_ < dd v) → n ≤ vis.length + f → dd at_ ≤ 1000000 * (f : Int) := by
  have hself : dd b = 0 := by
    have h1 := h.of hL.pos hb (l := []) trivial rfl
    exact IsDist.uniq (h.is b hb h1.1) (IsDist.self hL.pos b)
  intro f
  induction f with
  | zero =>
    intro vis at_ hat hd hnd hvn hvat hv hf
    by_cases e : at_ = b
    · subst e; omega
    · exfalso
      obtain ⟨x0, -, hx0, hn, -⟩ := h.next hL.pos hat e hd
      obtain ⟨n1, n2, n3⟩ := isNext_iff.1 hn
      have n4 := hL.pos _ _ n1
      have hx0v : x0 ∉ vis := fun hm => by
        by_cases e2 : x0 = at_
        · subst e2; omega
        · have := hv x0 hm e2; omega
      have := nodup_full hnd hvn hx0 hx0v
      omega
  | succ f ih =>
    intro vis at_ hat hd hnd hvn hvat hv hf
    by_cases e : at_ = b
    · subst e; omega
    · obtain ⟨x0, e0, hx0, hn, hfirst⟩ := h.next hL.pos hat e hd
      obtain ⟨n1, n2, n3⟩ := isNext_iff.1 hn
      have n4 := hL.pos _ _ n1
      have n5 := hL.top at_ x0
      have hx0v : x0 ∉ vis := fun hm => by
        by_cases e2 : x0 = at_
        · subst e2; omega
        · have := hv x0 hm e2; omega
      have hg := ih (x0 :: vis) x0 hx0 n2 (List.nodup_cons.2 ⟨hx0v, hnd⟩) (fun v hv' => by rcases List.mem_cons.1 hv' with rfl | hv'; exact hx0; exact hvn v hv') (by simp) (fun v hv' hne => by
        rcases List.mem_cons.1 hv' with rfl | hv'
        · exact absurd rfl hne
        · by_cases e2 : v = at_
          · subst e2; omega
          · have := hv v hv' e2; omega) (by rw [List.length_cons]; omega)
      omega
theorem wok_lt (hL : LOk n L) {a x : Nat} {l : List Nat} (h : wok n L a (x :: l)) : a < n := (hL.lt _ _ h.2.1).1
theorem wend_lt {a : Nat} (ha : a < n) : ∀ {l : List Nat}, wok n L a l → wend a l < n := by
  intro l
  induction l generalizing a with
  | nil => intro _; exact ha
  | cons x l ih => intro h; exact ih h.1 h.2.2
theorem dV_far (hL : LOk n L) (hn : n ≤ 8) (a b : Nat) : dV n L a b ≤ 7000000 := by
  rcases dV_cases hL a b with ⟨d, h1, h2⟩ | ⟨h1, h2⟩
  · obtain ⟨⟨l, l1, l2, l3⟩, h4⟩ := h1
    cases l with
    | nil =>
      have : wlen L a [] = 0 := rfl
      omega
    | cons x l =>
      have ha := wok_lt hL l1
      have hb : b < n := by rw [← l2]; exact wend_lt ha l1
      have h5 := dst_bound hL (dV_dst hL b) hb (n - 1) [a] a ha (by show 0 ≤ dV n L a b; omega) (by simp) (by simpa using ha) (by simp) (by simp) (by simp; omega)
      have h6 : dV n L a b ≤ 1000000 * ((n - 1 : Nat) : Int) := h5
      omega
  · omega
/-- The shortest lengths that are found while the nodes below k, and for P the node k too, are gone over. -/
structure FwI (n : Nat) (L : Nat → Nat → Int) (W : Nat → Nat → Int) (k : Nat) (P : Nat → Nat → Prop) : Prop where
  pos : ∀ i j, 0 ≤ W i j
  top : ∀ i j, W i j ≤ far
  snd : ∀ i j, W i j < far → ∃ l, wok n L i l ∧ wend i l = j ∧ wlen L i l = W i j
  cmp : ∀ i j l, wok n L i l → wend i l = j → (∀ x ∈ l.dropLast, x < k) → W i j ≤ wlen L i l
  cmp1 : ∀ i j l, P i j → wok n L i l → wend i l = j → (∀ x ∈ l.dropLast, x < k + 1) → W i j ≤ wlen L i l
theorem FwI.start {M : Nat → Nat → Int} (hL : LOk n L) (hM : ∀ i j, M i j = if i = j then 0 else if L i j < 0 then far else L i j) : FwI n L M 0 (fun _ _ => False) := by
  refine ⟨fun i j => ?_, fun i j => ?_, fun i j h => ?_, fun i j l h1 h2 h3 => ?_, fun i j l h => h.elim⟩
  · rw [hM]; unfold far; repeat' split
    all_goals omega
  · rw [hM]; have := hL.top i j; unfold far; repeat' split
    all_goals omega
  · rw [hM] at h ⊢
    split
    · rename_i e; exact ⟨[], trivial, e, rfl⟩
    · rename_i e
      rw [if_neg e] at h
      split
      · rename_i g; rw [if_pos g] at h; omega
      · rename_i g
        have g' : 0 ≤ L i j := by omega
        exact ⟨[j], ⟨(hL.lt _ _ g').2, g', trivial⟩, rfl, by show L i j + 0 = _; omega⟩
  · rw [hM]
    cases l with
    | nil => rw [if_pos (show i = j from h2)]; exact Int.le_refl _
    | cons x l =>
      cases l with
      | nil =>
        have e : x = j := h2
        subst e
        have g : 0 ≤ L i x := h1.2.1
        show _ ≤ L i x + 0
        split
        · omega
        · rw [if_neg (by omega)]; omega
      | cons y l => exact absurd (h3 x (by simp)) (by omega)
/-- A walk parts at a node within it. -/
theorem walk_part {a b k : Nat} {l : List Nat} (h : wok n L a l) (he : wend a l = b) (hm : ∀ x ∈ l.dropLast, x < k + 1) (hx : ∃ x ∈ l.dropLast, x = k) :
    ∃ p q, wok n L a p ∧ wend a p = k ∧ (∀ x ∈ p.dropLast, x < k) ∧ wok n L k q ∧ wend k q = b ∧ (∀ x ∈ q.dropLast, x < k + 1) ∧ wlen L a l = wlen L a p + wlen L k q ∧ q.length < l.length := by
  induction l generalizing a with
  | nil => obtain ⟨x, hx, -⟩ := hx; simp at hx
  | cons y l ih =>
    cases l with
    | nil => obtain ⟨x, hx, -⟩ := hx; simp at hx
    | cons z l =>
      rw [List.dropLast_cons_cons] at hm hx
      by_cases e : y = k
      · subst e
        exact ⟨[y], z :: l, ⟨h.1, h.2.1, trivial⟩, rfl, by simp, h.2.2, he, fun x hx => hm x (by simp [hx]), by show L a y + wlen L y (z :: l) = L a y + 0 + _; omega, by simp⟩
      · obtain ⟨p, q, p1, p2, p3, q1, q2, q3, e1, e2⟩ := ih h.2.2 he (fun x hx => hm x (by simp [hx])) (by
          obtain ⟨x, hx, rfl⟩ := hx
          rcases List.mem_cons.1 hx with rfl | hx
          · exact absurd rfl e
          · exact ⟨x, hx, rfl⟩)
        have hy := hm y (by simp)
        refine ⟨y :: p, q, ⟨h.1, h.2.1, p1⟩, p2, ?_, q1, q2, q3, ?_, by simp at e2 ⊢; omega⟩
        · cases p with
          | nil => simp
          | cons u p =>
            rw [List.dropLast_cons_cons]
            intro x hx
            rcases List.mem_cons.1 hx with rfl | hx
            · omega
            · exact p3 x hx
        · show L a y + wlen L y (z :: l) = L a y + wlen L y p + wlen L k q
          omega
/-- The last part of a walk from k, behind its last visit of k. -/
theorem walk_last {b k : Nat} : ∀ (m : Nat) (q : List Nat), q.length ≤ m → (hL : ∀ i j, 0 ≤ L i j → 1 ≤ L i j) → wok n L k q → wend k q = b → (∀ x ∈ q.dropLast, x < k + 1) → ∃ r, wok n L k r ∧ wend k r = b ∧ (∀ x ∈ r.dropLast, x < k) ∧ wlen L k r ≤ wlen L k q := by
  intro m
  induction m with
  | zero => intro q hq hL h1 h2 h3; exact ⟨q, h1, h2, fun x hx => (by cases q with
      | nil => simp at hx
      | cons y q => simp at hq), Int.le_refl _⟩
  | succ m ih =>
    intro q hq hL h1 h2 h3
    by_cases hx : ∃ x ∈ q.dropLast, x = k
    · obtain ⟨p, r, p1, p2, p3, q1, q2, q3, e1, e2⟩ := walk_part h1 h2 h3 hx
      obtain ⟨t, t1, t2, t3, t4⟩ := ih r (by omega) hL q1 q2 q3
      have := wlen_pos hL p1
      exact ⟨t, t1, t2, t3, by omega⟩
    · refine ⟨q, h1, h2, fun x hq' => ?_, Int.le_refl _⟩
      have := h3 x hq'
      have : x ≠ k := fun e => hx ⟨x, hq', e⟩
      omega
theorem FwI.step (hL : LOk n L) {W : Nat → Nat → Int} {k a b : Nat} {P : Nat → Nat → Prop} (h : FwI n L W k P) :
    FwI n L (fun i j => if i = a ∧ j = b then min (W a b) (W a k + W k b) else W i j) k (fun i j => P i j ∨ (i = a ∧ j = b)) := by
  have hle : ∀ i j, (if i = a ∧ j = b then min (W a b) (W a k + W k b) else W i j) ≤ W i j := fun i j => by
    split
    · rename_i e; obtain ⟨rfl, rfl⟩ := e; omega
    · exact Int.le_refl _
  refine ⟨fun i j => ?_, fun i j => ?_, fun i j g => ?_, fun i j l h1 h2 h3 => ?_, fun i j l hP h1 h2 h3 => ?_⟩
  · split
    · have := h.pos a b; have := h.pos a k; have := h.pos k b; omega
    · exact h.pos i j
  · have := hle i j; have := h.top i j; omega
  · split at g
    · rename_i e
      obtain ⟨rfl, rfl⟩ := e
      rw [if_pos ⟨rfl, rfl⟩]
      by_cases c : W i j ≤ W i k + W k j
      · rw [Int.min_eq_left c] at g ⊢
        exact h.snd i j g
      · have c' : W i k + W k j ≤ W i j := by omega
        rw [Int.min_eq_right c'] at g ⊢
        have := h.pos i k; have := h.pos k j
        obtain ⟨l, l1, l2, l3⟩ := h.snd i k (by omega)
        obtain ⟨m, m1, m2, m3⟩ := h.snd k j (by omega)
        exact ⟨l ++ m, wok_app.2 ⟨l1, by rw [l2]; exact m1⟩, by rw [wend_app, l2]; exact m2, by rw [wlen_app, l2]; omega⟩
    · rename_i e
      rw [if_neg e]
      exact h.snd i j g
  · exact Int.le_trans (hle i j) (h.cmp i j l h1 h2 h3)
  · rcases hP with hP | ⟨rfl, rfl⟩
    · exact Int.le_trans (hle i j) (h.cmp1 i j l hP h1 h2 h3)
    · rw [if_pos ⟨rfl, rfl⟩]
      by_cases hx : ∃ x ∈ l.dropLast, x = k
      · obtain ⟨p, q, p1, p2, p3, q1, q2, q3, e1, -⟩ := walk_part h1 h2 h3 hx
        obtain ⟨r, r1, r2, r3, r4⟩ := walk_last q.length q (Nat.le_refl _) hL.pos q1 q2 q3
        have g1 := h.cmp i k p p1 p2 p3
        have g2 := h.cmp k j r r1 r2 r3
        omega
      · have g1 := h.cmp i j l h1 h2 (fun x hq' => by
          have := h3 x hq'
          have : x ≠ k := fun e => hx ⟨x, hq', e⟩
          omega)
        omega
theorem FwI.sub {W : Nat → Nat → Int} {k : Nat} {P Q : Nat → Nat → Prop} (h : FwI n L W k P) (hPQ : ∀ i j, Q i j → P i j) : FwI n L W k Q := ⟨h.pos, h.top, h.snd, h.cmp, fun i j l g => h.cmp1 i j l (hPQ i j g)⟩
theorem FwI.next (hL : LOk n L) (hn : n ≤ 8) {W : Nat → Nat → Int} {k : Nat} {P : Nat → Nat → Prop} (h : FwI n L W k P) (hP : ∀ i j, i < 8 → j < 8 → P i j) : FwI n L W (k + 1) (fun _ _ => False) := by
  refine ⟨h.pos, h.top, h.snd, fun i j l h1 h2 h3 => ?_, fun i j l g => g.elim⟩
  cases l with
  | nil => exact h.cmp i j [] h1 h2 (by simp)
  | cons x l =>
    have hi := wok_lt hL h1
    have hj : j < n := by rw [← h2]; exact wend_lt hi h1
    exact h.cmp1 i j _ (hP i j (by omega) (by omega)) h1 h2 h3
theorem FwI.end_ (hL : LOk n L) (hn : n ≤ 8) {W : Nat → Nat → Int} {P : Nat → Nat → Prop} (h : FwI n L W 8 P) (i j : Nat) : W i j = wV n L i j := by
  have hc : ∀ l, wok n L i l → wend i l = j → W i j ≤ wlen L i l := fun l h1 h2 => h.cmp i j l h1 h2 (fun x hx => by
    have : ∀ (l : List Nat) (a : Nat), wok n L a l → ∀ x ∈ l, x < n := by
      intro l
      induction l with
      | nil => intro a _ x hx; cases hx
      | cons y l ih =>
        intro a h x hx
        rcases List.mem_cons.1 hx with rfl | hx
        · exact h.1
        · exact ih y h.2.2 x hx
    have := this l i h1 x (List.dropLast_subset l hx)
    omega)
  unfold wV
  rcases dV_cases hL i j with ⟨d, h1, h2⟩ | ⟨h1, h2⟩
  · rw [h2, if_neg (by omega)]
    have hf := dV_far hL hn i j
    obtain ⟨⟨l, l1, l2, l3⟩, h4⟩ := h1
    have g1 := hc l l1 l2
    obtain ⟨m, m1, m2, m3⟩ := h.snd i j (by unfold far; omega)
    have := h4 m m1 m2
    omega
  · rw [h2, if_pos (by omega)]
    have g := h.top i j
    rcases Int.lt_or_le (W i j) far with g1 | g1
    · obtain ⟨m, m1, m2, -⟩ := h.snd i j g1
      exact absurd m2 (h1 m m1)
    · omega
end
/-- Two tables agree at the first 8 nodes. -/
def Ag (W V : Nat → Nat → Int) : Prop := ∀ i j, i < 8 → j < 8 → W i j = V i j
end Go.Proofs.YtbbadnlaelgmlaaGreat

namespace Go.Proofs.YtbbadnlaelgmlaaGreat
set_option linter.unusedVariables false
set_option linter.unusedSimpArgs false

section
variable {n : Nat} {L : Nat → Nat → Int}
/-- The nodes that the distances lead over, to b. -/
def Grd (n : Nat) (L : Nat → Nat → Int) (dd : Nat → Int) (b : Nat) : Nat → List Nat → Prop
  | a, [] => a = b
  | a, x :: l => a ≠ b ∧ nextOf n L dd a = some x ∧ Grd n L dd b x l
theorem gr_grd {dd : Nat → Int} {b : Nat} : ∀ (f a : Nat), wend a (gr n L b dd f a) = b → Grd n L dd b a (gr n L b dd f a) := by
  intro f
  induction f with
  | zero => intro a h; exact h
  | succ f ih =>
    intro a h
    rw [gr] at h ⊢
    by_cases e : a = b
    · rw [if_pos e] at h ⊢; exact e
    · rw [if_neg e] at h ⊢
      cases hx : nextOf n L dd a with
      | none => rw [hx] at h; exact absurd h e
      | some x => rw [hx] at h; exact ⟨e, hx, ih x h⟩
/-- The way from a to b, without a. -/
noncomputable def wayV (n : Nat) (L : Nat → Nat → Int) (a b : Nat) : List Nat := gr n L b (fun x => dV n L x b) (n - 1) a
theorem bst_way (hL : LOk n L) {a b : Nat} (ha : a < n) (hb : b < n) (hd : 0 ≤ dV n L a b) : bst n L b (n - 1) [a] a = some (wayV n L a b, dV n L a b) :=
  bst_gr (dV_dst hL b) hL.pos hb (n - 1) [a] a ha hd (by simp) (by simpa using ha) (by simp) (by simp) (by simp; omega)
theorem way_ok (hL : LOk n L) {a b : Nat} (ha : a < n) (hb : b < n) (hd : 0 ≤ dV n L a b) : wok n L a (wayV n L a b) ∧ wend a (wayV n L a b) = b ∧ wlen L a (wayV n L a b) = dV n L a b :=
  bst_snd b _ _ _ _ _ (bst_way hL ha hb hd)
theorem way_grd (hL : LOk n L) {a b : Nat} (ha : a < n) (hb : b < n) (hd : 0 ≤ dV n L a b) : Grd n L (fun x => dV n L x b) b a (wayV n L a b) := gr_grd _ _ (way_ok hL ha hb hd).2.1
end
end Go.Proofs.YtbbadnlaelgmlaaGreat

namespace Go.Proofs.YtbbadnlaelgmlaaGreat
open Go.RowKit
set_option maxRecDepth 100000
set_option linter.unusedVariables false
set_option linter.unusedSimpArgs false

/-- A table as cells. -/
def matA (f : Nat → Nat → Int) : Array Value := ((List.range 64).map fun k => Value.int .i64 (f (k / 8) (k % 8))).toArray
theorem matA_size (f : Nat → Nat → Int) : (matA f).size = 64 := by simp [matA]
theorem matA_one (f : Nat → Nat → Int) : (matA f).all (·.oneCell') = true := by
  unfold matA
  rw [Array.all_eq_true]
  intro i hi
  simp at hi ⊢
  rfl
theorem matA_at (f : Nat → Nat → Int) {i j : Nat} (hi : i < 8) (hj : j < 8) : (matA f)[i * 8 + j]? = some (.int .i64 (f i j)) := by
  unfold matA
  have h : i * 8 + j < 64 := by omega
  have e1 : (i * 8 + j) / 8 = i := by omega
  simp [h, e1, Nat.mod_eq_of_lt hj]
theorem matA_ag {f g : Nat → Nat → Int} (h : Ag f g) : matA f = matA g := by
  unfold matA
  congr 1
  refine List.map_congr_left fun k hk => ?_
  rw [h _ _ (by have := List.mem_range.1 hk; omega) (by omega)]
/-- A table's block. -/
def MxAt (w : World) (b : Nat) (f : Nat → Nat → Int) : Prop := w.heap[b]? = some (.cells (matA f) 159 (0, 0))
theorem MxAt.on {w w' : World} {b : Nat} {f : Nat → Nat → Int} {B : Nat} (h : MxAt w b f) (hb : Below B w w') (hB : w.heap.size ≤ B) : MxAt w' b f := (hb.block _ (Nat.lt_of_lt_of_le (at_lt h) hB)).trans h
theorem MxAt.lt {w : World} {b : Nat} {f : Nat → Nat → Int} (h : MxAt w b f) : b < w.heap.size := at_lt h
theorem MxAt.cell {w : World} {b : Nat} {f : Nat → Nat → Int} (h : MxAt w b f) {i j : Nat} (hi : i < 8) (hj : j < 8) : w.cell? ⟨b, i * 8 + j, none⟩ = some (.int .i64 (f i j)) := cell_of h (matA_at f hi hj)
theorem MxAt.new (w : World) (f : Nat → Nat → Int) : MxAt (w.alloc (.cells (matA f) 159)) w.heap.size f := heap_alloc_new _ _
theorem MxAt.set {w : World} {b i j : Nat} {f f' : Nat → Nat → Int} (h : MxAt w b f) (hi : i < 8) (hj : j < 8) (v : Int) (hf : ∀ i' j', i' < 8 → j' < 8 → f' i' j' = if i' = i ∧ j' = j then v else f i' j') : MxAt (w.setCell ⟨b, i * 8 + j, none⟩ (.int .i64 v)) b f' := by
  have h1 := set_field (o := i * 8 + j) h (.int .i64 v)
  unfold MxAt
  rw [h1]
  congr 2
  unfold matA
  rw [List.setIfInBounds_toArray]
  congr 1
  apply List.ext_getElem?
  intro k
  rw [List.getElem?_set]
  by_cases hk : k < 64
  · by_cases e : i * 8 + j = k
    · rw [if_pos e, if_pos (by simp; omega)]
      have e1 : k / 8 = i := by omega
      have e2 : k % 8 = j := by omega
      simp [hk, e1, e2]
      rw [hf i j hi hj, if_pos ⟨rfl, rfl⟩]
    · rw [if_neg e]
      have e1 : ¬ (k / 8 = i ∧ k % 8 = j) := by omega
      simp [hk]
      rw [hf (k / 8) (k % 8) (by omega) (by omega), if_neg e1]
  · rw [if_neg (by omega)]
    rw [List.getElem?_eq_none (by simp; omega), List.getElem?_eq_none (by simp; omega)]
theorem MxAt.frz {w : World} {b : Nat} {f : Nat → Nat → Int} (h : MxAt w b f) (o : Nat) : w.frozen? ⟨b, o, none⟩ = false := Go.Proofs.YtbbadnlaelgmlaaGreat.frz h o
theorem MxAt.ag {w : World} {b : Nat} {f g : Nat → Nat → Int} (h : MxAt w b f) (k : Ag f g) : MxAt w b g := by unfold MxAt; rw [← matA_ag k]; exact h
theorem len_under : Tryz.prog.underlying 159 = some (.array 8 157) := by kernel_rfl
theorem len_size : (Tryz.prog.info? 159).map (·.size) = some 64 := by kernel_rfl
theorem len_zero : (Tryz.prog.info? 159).map (fun i => (i.zero, i.size)) = some (some (.agg (matA (fun _ _ => 0))), 64) := by kernel_rfl
/-- A whole table out of its block, and into a block. -/
theorem run_load_mx {X : World} {g : Nat} {f : Nat → Nat → Int} (h : MxAt X g f) : (Instr.loadAt 159 (.pointer (some ⟨g, 0, none⟩))).run Tryz.prog X = .ok (.agg (matA f)) X := by
  simp only [Instr.loadAt, Instr.sureAddr, Sem.run_bind, Sem.run_pure, Result.andThen]
  exact run_loadVar_row X g _ _ _ _ _ h len_under rfl (by rw [matA_size]; exact len_size)
theorem run_store_mx {X : World} {g : Nat} {f f' : Nat → Nat → Int} (h : MxAt X g f) : (Instr.storeAt 159 (.pointer (some ⟨g, 0, none⟩)) (.agg (matA f'))).run Tryz.prog X = .ok () (X.setRow g (matA f')) := by
  simp only [Instr.storeAt, Instr.sureAddr, Sem.run_bind, Sem.run_pure, Result.andThen]
  exact run_storeVar_row X g _ _ _ _ h (by rw [matA_size]; exact len_size) (by rw [matA_size, matA_size]) (matA_one _)
theorem setRow_mx {X : World} {g : Nat} {f f' : Nat → Nat → Int} (h : MxAt X g f) : MxAt (X.setRow g (matA f')) g f' := setRow_heap X g _ _ _ _ h
theorem below_row {B : Nat} {a w : World} (h : Below B a w) {g : Nat} (hg : B ≤ g) (cs : Array Value) : Below B a (w.setRow g cs) :=
  h.trans ⟨rfl, rfl, rfl, by simp [World.setRow], fun k hk => setRow_other w g k cs (by omega)⟩
theorem retMx {fn : Func} {a : Act} {W : World} {R : Ending → World → Prop} {b i : Nat} {f : Nat → Nat → Int} (hfn : fn.results = #[.cell i 159]) (hp : a.tmps[i]?.getD undef = .pointer (some ⟨b, 0, none⟩)) (hd : a.defers = [])
    (h : MxAt W b f) (hR : R (.returned (.agg (matA f))) W) : bodyPost Tryz.prog fn R .ret a W := by
  have hl := run_loadVar_row (P := Tryz.prog) W b _ _ _ _ _ h len_under rfl (by rw [matA_size]; exact len_size)
  exact bodyPost_ret (v := .agg (matA f)) (by simp [results, hfn, hp, asAddr, Sem.run_bind, Result.andThen, hl]) hd hR
theorem ld_mx {ops : Array Oper} {rest : List Oper} {o : Oper} {a : Act} {w : World} {Q : Exit → Act → World → Prop} {g : Nat} {f : Nat → Nat → Int} (hg : o.guard = none) (dst : Option Tmp) (hdst : o.dst = dst) (x : Operand) (ho : o.op = .load 159 x)
    (hx : a.eval x = .pointer (some ⟨g, 0, none⟩)) (hm : MxAt w g f) (h : wpList Tryz.prog ops Q rest (a.put dst (.agg (matA f))) w) : wpList Tryz.prog ops Q (o :: rest) a w := by
  subst hdst
  refine wpList_plain hg fun K hK => ?_
  unfold Oper.wp
  have e : (execOp a.eval o).run Tryz.prog w = .ok (.value (.agg (matA f))) w := by
    simp only [execOp, ho, hx, Sem.run_bind, run_load_mx hm, Result.andThen, Sem.run_pure]
  rw [e, Oper.upon_value]
  exact hK _ _ h
theorem st_mx {ops : Array Oper} {rest : List Oper} {o : Oper} {a : Act} {w : World} {Q : Exit → Act → World → Prop} {g : Nat} {f f' : Nat → Nat → Int} (hg : o.guard = none) (hdst : o.dst = none) (x y : Operand) (ho : o.op = .store 159 x y)
    (hx : a.eval x = .pointer (some ⟨g, 0, none⟩)) (hy : a.eval y = .agg (matA f')) (hm : MxAt w g f) (h : wpList Tryz.prog ops Q rest (a.put none undef) (w.setRow g (matA f'))) : wpList Tryz.prog ops Q (o :: rest) a w := by
  refine wpList_plain hg fun K hK => ?_
  unfold Oper.wp
  have e : (execOp a.eval o).run Tryz.prog w = .ok .skip (w.setRow g (matA f')) := by
    simp only [execOp, ho, hx, hy, Sem.run_bind, run_store_mx hm, Result.andThen, Sem.run_pure]
  rw [e, Oper.upon_skip, hdst]
  exact hK _ _ h
set_option maxHeartbeats 4000000 in
theorem c_areIx (m : Int) (A : Option Addr) (c : Nat) (l : List Int) (w : World) (h : Rw 1 inF w A c l) (r : Bool) (hr : l.all (fun x => ixB x m) = r) :
    Calls Tryz.prog 130 #[.int .i64 m, .slice A l.length c] w fun e w' => e = .returned (.bool r) ∧ Below w.heap.size w w' := by
  have H := Lib.hid h
  have HR := Lib.hid hr
  have k1 := h.1; have k2 := h.2.1
  unfold maxLen at k2
  clear h hr
  go_enter Tryz.func130, Tryz.ntmps130
  go_wp2_with (fail)
  go_loopw [6, 9] (fun x i wr => ∃ k : Nat, k ≤ l.length ∧ i = .int .i64 (k : Int) ∧ Hid (Below w.heap.size w wr) ∧ Hid ((l.take k).all (fun x => ixB x m) = true)) (fun _ i _ => l.length - (intOf i).toNat)
  case atStart => exact ⟨0, Nat.zero_le _, rfl, Lib.hid (Below.refl _ _), Lib.hid rfl⟩
  case round =>
    obtain ⟨k, hk, rfl, hB, hall⟩ := hrel
    have hki : ((k : Nat) : Int).toNat = k := by omega
    by_cases hlt : k < l.length
    · obtain ⟨y, hy⟩ : ∃ y, l[k]? = some y := ⟨_, List.getElem?_eq_getElem hlt⟩
      have HK := H.out.on hB.out (Nat.le_refl _)
      obtain ⟨b, o, rfl, -, -⟩ := HK.at_ hy
      have x0 := inRw HK hy
      have hkl : (k : Int) < (l.length : Int) := by omega
      have HY := Lib.hid hy
      clear HK hy
      rcases h1 : decide (y < 0) with _ | _
      · rcases h2 : decide (m ≤ y) with _ | _
        · have HN := Lib.hid (show (l.take (k + 1)).all (fun x => ixB x m) = true from all_take_succ HY.out hall.out (ixB_iff.2 ⟨by have := of_decide_eq_false h1; omega, by have := of_decide_eq_false h2; omega⟩))
          go_wp2_with (fail)
          go_roundw
          case rel => exact ⟨k + 1, by omega, by go_num, hB, HN⟩
          case measure => simp only [intOf]; omega
        · obtain rfl : false = r := by
            rw [← HR.out]
            refine (all_false (k := k) HY.out ?_).symm
            have := of_decide_eq_true h2
            unfold ixB
            rw [decide_eq_false (show ¬ y < m by omega), Bool.and_false]
          go_wp2_with (fail)
          go_ret
          exact ⟨rfl, hB.out⟩
      · obtain rfl : false = r := by
          rw [← HR.out]
          refine (all_false (k := k) HY.out ?_).symm
          have := of_decide_eq_true h1
          unfold ixB
          rw [decide_eq_false (show ¬ 0 ≤ y by omega), Bool.false_and]
        go_wp2_with (fail)
        go_ret
        exact ⟨rfl, hB.out⟩
    · obtain rfl : k = l.length := by omega
      obtain rfl : true = r := by rw [← HR.out]; have := hall.out; rw [List.take_length] at this; exact this.symm
      go_wp2_with (fail)
      go_ret
      exact ⟨rfl, hB.out⟩
def dsF (x : Int) : Int := if x = far then -1 else x
set_option maxHeartbeats 4000000 in
theorem c_distance (f : Nat → Nat → Int) (a b : Nat) (ha : a < 8) (hb : b < 8) (w : World) :
    Calls Tryz.prog 159 #[.agg (matA f), .int .i64 (a : Int), .int .i64 (b : Int)] w fun e w' => e = .returned (.int .i64 (dsF (f a b))) ∧ Below w.heap.size w w' := by
  obtain ⟨W, hW⟩ : ∃ W, W = w.alloc (.cells (matA f) 159) := ⟨_, rfl⟩
  have HX := Lib.hid (show MxAt W w.heap.size f by rw [hW]; exact MxAt.new _ _)
  have HB := Lib.hid (show Below w.heap.size w W by rw [hW]; exact (Below.refl _ _).alloc (Nat.le_refl _) _)
  have x0 := HX.out.cell ha hb
  have ha1 : ((a : Nat) : Int).toNat = a := by omega
  have hb1 : ((b : Nat) : Int).toNat = b := by omega
  have ha2 : ((a : Nat) : Int) < 8 := by omega
  have hb2 : ((b : Nat) : Int) < 8 := by omega
  obtain ⟨y, hy⟩ : ∃ y, f a b = y := ⟨_, rfl⟩
  rw [hy] at x0 ⊢
  obtain ⟨z, hz⟩ : ∃ z, dsF y = z := ⟨_, rfl⟩
  rw [hz]
  have HZ := Lib.hid hz
  clear hy hz
  rw [hW] at x0
  rcases he : (y == 8000000) with _ | _
  · go_enter Tryz.func159, Tryz.ntmps159
    go_wp2_with (fail)
    rw [← hW]
    go_ret
    exact ⟨(show Ending.returned (.int .i64 y) = .returned (.int .i64 z) by rw [← HZ.out]; unfold dsF far; rw [if_neg (by simpa using he)]), HB.out⟩
  · go_enter Tryz.func159, Tryz.ntmps159
    go_wp2_with (fail)
    rw [← hW]
    go_ret
    exact ⟨(show Ending.returned (.int .i64 (-1)) = .returned (.int .i64 z) by rw [← HZ.out]; unfold dsF far; rw [if_pos (by simpa using he)]), HB.out⟩
end Go.Proofs.YtbbadnlaelgmlaaGreat

namespace Go.Proofs.YtbbadnlaelgmlaaGreat
open Go.RowKit
set_option maxRecDepth 100000
set_option linter.unusedVariables false
set_option linter.unusedSimpArgs false

/-- The table while it is filled: the rows before a, and row a before b. -/
def filM (a b : Nat) : Nat → Nat → Int := fun i j => if (i < a ∨ (i = a ∧ j < b)) ∧ i ≠ j then far else 0
theorem filM_end : Ag (filM 8 0) (lkM []) := fun i j hi hj => by
  show filM 8 0 i j = lkM0 i j
  unfold filM lkM0
  by_cases e : i = j
  · subst e; simp
  · rw [if_pos ⟨.inl hi, e⟩, if_neg e]
theorem filM_row (a : Nat) : Ag (filM a 8) (filM (a + 1) 0) := fun i j hi hj => by
  unfold filM
  by_cases h : (i < a ∨ (i = a ∧ j < 8)) ∧ i ≠ j
  · rw [if_pos h, if_pos (by omega)]
  · rw [if_neg h, if_neg (by omega)]
set_option maxHeartbeats 8000000 in
theorem c_ofLinks (p : SP) (s : SiteD) (hs : siteOk s = true) (w : World) (h : SiAt w p s) :
    Calls Tryz.prog 132 #[siV p s] w fun e w' => e = .returned (.agg (matA (lkM s.links))) ∧ Below w.heap.size w w' := by
  unfold siV
  have hsw := (siteOk_iff.1 hs).sw
  have hlk := (siteOk_iff.1 hs).links
  have hln := (siteOk_iff.1 hs).nlinks
  have hz1 := (zero_of_info len_zero).1
  obtain ⟨W1, h1⟩ : ∃ W, W = w.alloc (.cells #[.slice p.a1 s.feeds.length p.c1, .slice p.a2 s.brks.length p.c2, .slice p.a3 s.loops.length p.c3, .slice p.a4 s.racks.length p.c4, .int .i64 s.sw, .slice p.a5 s.links.length p.c5, .slice p.a6 s.hosts.length p.c6] 29) := ⟨_, rfl⟩
  obtain ⟨W2, h2⟩ : ∃ W, W = W1.alloc (.cells (matA (fun _ _ => 0)) 159) := ⟨_, rfl⟩
  obtain ⟨W, h3⟩ : ∃ W, W = W2.alloc (.cells (matA (fun _ _ => 0)) 159) := ⟨_, rfl⟩
  have s1 : W1.heap.size = w.heap.size + 1 := by rw [h1, World.size_alloc]
  have s2 : W2.heap.size = w.heap.size + 1 + 1 := by rw [h2, World.size_alloc, s1]
  have s3 : W.heap.size = w.heap.size + 1 + 1 + 1 := by rw [h3, World.size_alloc, s2]
  have B1 : Below w.heap.size w W := by rw [h3, h2, h1]; exact (((Below.refl _ _).alloc (Nat.le_refl _) _).alloc (by rw [World.size_alloc]; omega) _).alloc (by rw [World.size_alloc, World.size_alloc]; omega) _
  have X1 : SiBox W w.heap.size p s := by
    rw [h3, h2]
    refine old_heap _ (old_heap _ ?_)
    rw [h1]; exact siBox_new _ _ _
  have M1 : MxAt W (w.heap.size + 1) (fun _ _ => 0) := by
    rw [h3]
    refine old_heap _ ?_
    rw [h2, ← s1]; exact MxAt.new _ _
  have M2 : MxAt W (w.heap.size + 1 + 1) (filM 0 0) := by
    have : MxAt W (w.heap.size + 1 + 1) (fun _ _ => 0) := by rw [h3, ← s2]; exact MxAt.new _ _
    exact this.ag fun i j _ _ => by unfold filM; rw [if_neg (by omega)]
  obtain ⟨B, hBB⟩ : ∃ B, w.heap.size = B := ⟨_, rfl⟩
  have HBB := Lib.hid hBB
  rw [hBB] at X1 M1 M2 s3 B1
  obtain ⟨G, hG⟩ : ∃ G, B + 1 + 1 = G := ⟨_, rfl⟩
  have HGB := Lib.hid hG
  have HS3 := Lib.hid s3
  have HB := Lib.hid B1
  have HX := Lib.hid (fun (X : World) (hX : Below G W X) => (let z := (hX.block B (by omega)).trans X1; (⟨cell_of z rfl, ⟨_, z⟩⟩ : X.cell? ⟨B, 5, none⟩ = some (.slice p.a5 s.links.length p.c5) ∧ ∃ o, X.heap[B]? = some o)))
  have HM1 := Lib.hid (fun (X : World) (hX : Below G W X) => (show MxAt X (B + 1) (fun _ _ => 0) from (hX.block (B + 1) (by omega)).trans M1))
  have HM2 := Lib.hid (show MxAt W G (filM 0 0) by rw [← hG]; exact M2)
  have HL := Lib.hid (fun (X : World) (hX : Below G W X) => (h.links.on (below_join B1 hX (show B ≤ G by omega)) (by omega) : Rw 3 lkF X p.a5 p.c5 s.links))
  have HLK := Lib.hid hlk
  have HKW := Lib.hid (Below.refl G W)
  clear X1 M1 M2 B1 s1 s2 s3 hG h hs hlk
  go_enter Tryz.func132, Tryz.ntmps132
  go_wp2_with (fail)
  rw [← h1, ← h2, ← h3]
  clear h1 h2 h3
  rw [HGB.out]
  clear hz1 hBB
  go_loopw [9] (fun i wr => ∃ a : Nat, a ≤ 8 ∧ i = .int .i64 (a : Int) ∧ Hid (Below G W wr) ∧ Hid (MxAt wr G (filM a 0))) (fun i _ => 8 - (intOf i).toNat)
  case atStart => exact ⟨0, Nat.zero_le _, rfl, HKW, HM2⟩
  case round =>
    obtain ⟨a, ha, rfl, hK, hF⟩ := hrel
    have hai : ((a : Nat) : Int).toNat = a := by omega
    by_cases hlt : a < 8
    · have ha2 : ((a : Nat) : Int) < 8 := by omega
      go_wp2_with (fail)
      go_loopw [12] (fun i wr => ∃ b : Nat, b ≤ 8 ∧ i = .int .i64 (b : Int) ∧ Hid (Below G W wr) ∧ Hid (MxAt wr G (filM a b))) (fun i _ => 8 - (intOf i).toNat)
      case atStart => exact ⟨0, Nat.zero_le _, rfl, hK, hF⟩
      case round =>
        obtain ⟨b, hb, rfl, hK, hF⟩ := hrel
        have hbi : ((b : Nat) : Int).toNat = b := by omega
        by_cases hlb : b < 8
        · have hb2 : ((b : Nat) : Int) < 8 := by omega
          have c0 := hF.out.cell hlt hlb
          have c1 := hF.out.frz (a * 8 + b)
          have HST := Lib.hid (show MxAt (wr.setCell ⟨G, a * 8 + b, none⟩ (.int .i64 8000000)) G (fun i j => if i = a ∧ j = b then far else filM a b i j) from hF.out.set hlt hlb 8000000 (fun i j _ _ => rfl))
          have HBT := Lib.hid (hK.out.setCell (p := ⟨G, a * 8 + b, none⟩) (Nat.le_refl _) (.int .i64 8000000))
          rcases hne : ((a : Int) != (b : Int)) with _ | _
          · have hab0 : (a : Int) = (b : Int) := by simpa using hne
            have hab : a = b := by omega
            clear hab0
            go_wp2_with (fail)
            go_roundw
            case rel => exact ⟨b + 1, by omega, by go_num, hK, Lib.hid (hF.out.ag fun i j _ _ => by unfold filM; by_cases h : (i < a ∨ (i = a ∧ j < b)) ∧ i ≠ j; rw [if_pos h, if_pos (by omega)]; rw [if_neg h, if_neg (by omega)])⟩
            case measure => simp only [intOf]; omega
          · have hab0 : ¬ (a : Int) = (b : Int) := by simpa using hne
            have hab : a ≠ b := by omega
            clear hab0
            go_wp2_with (fail)
            go_roundw
            case rel => exact ⟨b + 1, by omega, by go_num, HBT, Lib.hid (HST.out.ag fun i j _ _ => by
              show (if i = a ∧ j = b then far else filM a b i j) = filM a (b + 1) i j
              unfold filM
              by_cases h0 : i = a ∧ j = b
              · rw [if_pos h0, if_pos (by omega)]
              · rw [if_neg h0]
                by_cases h : (i < a ∨ (i = a ∧ j < b)) ∧ i ≠ j
                · rw [if_pos h, if_pos (by omega)]
                · rw [if_neg h, if_neg (by omega)])⟩
            case measure => simp only [intOf]; omega
        · obtain rfl : b = 8 := by omega
          go_wp2_with (fail)
          go_roundw
          case rel => exact ⟨a + 1, by omega, by go_num, hK, Lib.hid (hF.out.ag (filM_row a))⟩
          case measure => simp only [intOf]; omega
    · have hae : (8 : Int) ≤ (a : Int) := by omega
      have HF0 := Lib.hid (show MxAt wr G (lkM (s.links.take 0)) by
        have e : a = 8 := by omega
        subst e
        exact hF.out.ag filM_end)
      obtain ⟨x5, -⟩ := HX.out wr hK.out
      go_wp2_with (fail)
      clear x5
      go_loopw [27] (fun i wr => ∃ k : Nat, k ≤ s.links.length ∧ i = .int .i64 (k : Int) ∧ Hid (Below G W wr) ∧ Hid (MxAt wr G (lkM (s.links.take k)))) (fun i _ => s.links.length - (intOf i).toNat)
      case atStart => exact ⟨0, Nat.zero_le _, rfl, hK, HF0⟩
      case round =>
        obtain ⟨k, hk, rfl, hK, hF⟩ := hrel
        have hki : ((k : Nat) : Int).toNat = k := by omega
        by_cases hlk : k < s.links.length
        · have hlk2 : (k : Int) < (s.links.length : Int) := by omega
          obtain ⟨⟨ia, ib, lat⟩, hx⟩ : ∃ x, s.links[k]? = some x := ⟨_, List.getElem?_eq_getElem hlk⟩
          have hrg := HLK.out _ (List.mem_of_getElem? hx)
          obtain ⟨ua, rfl⟩ : ∃ u : Nat, ia = u := ⟨ia.toNat, by have := hrg.1.1; simp only at this; omega⟩
          obtain ⟨ub, rfl⟩ : ∃ u : Nat, ib = u := ⟨ib.toNat, by have := hrg.2.1.1; simp only at this; omega⟩
          simp only at hrg
          have hne : ua ≠ ub := by omega
          have hua : ua < 8 := by omega
          have hub : ub < 8 := by omega
          have hua2 : ((ua : Nat) : Int) < 8 := by omega
          have hub2 : ((ub : Nat) : Int) < 8 := by omega
          have hua1 : ((ua : Nat) : Int).toNat = ua := by omega
          have hub1 : ((ub : Nat) : Int).toNat = ub := by omega
          have HLL := HL.out wr hK.out
          obtain ⟨pb, po, hpe, -, -⟩ := HLL.at_ hx
          rw [hpe] at HLL
          obtain ⟨y0, y1, y2⟩ := rwLink HLL hx
          rw [hpe]
          obtain ⟨V, hV⟩ : ∃ V, V = wr.alloc (.cells #[.int .i64 (ua : Int), .int .i64 (ub : Int), .int .i64 lat] 119) := ⟨_, rfl⟩
          obtain ⟨N, hN⟩ : ∃ N, wr.heap.size = N := ⟨_, rfl⟩
          have bx : V.heap[N]? = some (.cells #[.int .i64 (ua : Int), .int .i64 (ub : Int), .int .i64 lat] 119 (0, 0)) := by rw [hV, ← hN]; exact box_new _ _ _
          have hGw : G < wr.heap.size := hF.out.lt
          have HKV := Lib.hid (show Below G W V by rw [hV]; exact hK.out.alloc (by omega) _)
          have HFV := Lib.hid (show MxAt V G (lkM (s.links.take k)) by rw [hV]; exact old_heap _ hF.out)
          obtain ⟨m0, hm0⟩ : ∃ m, lkM (s.links.take k) ua ub = m := ⟨_, rfl⟩
          obtain ⟨mn, hmn⟩ : ∃ z, (if lat < m0 then lat else m0) = z := ⟨_, rfl⟩
          have HM0 := Lib.hid hm0
          have HMN := Lib.hid hmn
          have HXX := Lib.hid hx
          have hNG : N ≠ G := by omega
          have v0 : V.cell? ⟨N, 0, none⟩ = some (.int .i64 (ua : Int)) := cell_of bx rfl
          have v1 : V.cell? ⟨N, 1, none⟩ = some (.int .i64 (ub : Int)) := cell_of bx rfl
          have v2 : V.cell? ⟨N, 2, none⟩ = some (.int .i64 lat) := cell_of bx rfl
          have v3 : V.cell? ⟨G, ua * 8 + ub, none⟩ = some (.int .i64 m0) := by rw [← hm0]; exact HFV.out.cell hua hub
          have HV := Lib.hid (⟨v0, v1, v2, v3⟩ : V.cell? ⟨N, 0, none⟩ = some (.int .i64 (ua : Int)) ∧ V.cell? ⟨N, 1, none⟩ = some (.int .i64 (ub : Int)) ∧ V.cell? ⟨N, 2, none⟩ = some (.int .i64 lat) ∧ V.cell? ⟨G, ua * 8 + ub, none⟩ = some (.int .i64 m0))
          have HNN := Lib.hid hN
          clear hm0 hx HLL bx hrg hpe v0 v1 v2 v3 hN hGw
          rw [hV] at HV
          go_wp2_with (fail)
          rw [← hV, HNN.out]
          rw [← hV] at HV
          clear hV y0 y1 y2
          obtain ⟨v0, v1, v2, v3⟩ := HV.out
          have hmn2 := HMN.out
          go_region
          have c0 := HFV.out.frz (ua * 8 + ub)
          have c1 := HFV.out.cell hub hua
          have c2 := HFV.out.frz (ub * 8 + ua)
          have HS1 := Lib.hid (HFV.out.set hua hub mn (f' := fun i j => if i = ua ∧ j = ub then mn else lkM (s.links.take k) i j) (fun i j _ _ => rfl))
          have HK1 := Lib.hid (HKV.out.setCell (p := ⟨G, ua * 8 + ub, none⟩) (Nat.le_refl _) (.int .i64 mn))
          have HS2 := Lib.hid (HS1.out.set hub hua mn (f' := lkM (s.links.take (k + 1))) (fun i j _ _ => by
            rw [List.take_add_one, HXX.out]
            show lkM (s.links.take k ++ [⟨(ua : Int), (ub : Int), lat⟩]) i j = _
            rw [lkM_snoc]
            show (if (i = ua ∧ j = ub) ∨ (i = ub ∧ j = ua) then min (lkM (s.links.take k) ua ub) lat else lkM (s.links.take k) i j) = if i = ub ∧ j = ua then mn else if i = ua ∧ j = ub then mn else lkM (s.links.take k) i j
            have e : min (lkM (s.links.take k) ua ub) lat = mn := by rw [HM0.out, ← HMN.out]; split <;> omega
            rw [e]
            by_cases h1 : i = ub ∧ j = ua
            · rw [if_pos h1, if_pos (.inr h1)]
            · by_cases h2 : i = ua ∧ j = ub
              · rw [if_pos (.inl h2), if_neg h1, if_pos h2]
              · rw [if_neg h1, if_neg h2, if_neg (by rintro (h | h); exact h2 h; exact h1 h)]))
          have HK2 := Lib.hid (HK1.out.setCell (p := ⟨G, ub * 8 + ua, none⟩) (Nat.le_refl _) (.int .i64 mn))
          go_wp2_with (fail)
          go_region
          go_wp2_with (fail)
          go_roundw
          case rel => exact ⟨k + 1, by omega, by go_num, Lib.hid HK2.out.drew.drew, Lib.hid HS2.out⟩
          case measure => simp only [intOf]; omega
        · have HE := Lib.hid (show MxAt wr G (lkM s.links) by
            have := hF.out
            rwa [List.take_of_length_le (by omega)] at this)
          have hlk3 : (s.links.length : Int) ≤ (k : Int) := by omega
          have HM := Lib.hid (HM1.out wr hK.out)
          have HS1 := Lib.hid (setRow_mx (f' := lkM s.links) HM.out)
          have HB1 := Lib.hid (below_row (g := B + 1) (below_join HB.out hK.out (show B ≤ G by have := HGB.out; omega)) (by omega) (matA (lkM s.links)))
          go_wp2_with (first | (refine ld_mx rfl _ rfl (.tmp 3) rfl rfl HE.out ?_) | (refine st_mx rfl rfl (.tmp 2) (.tmp 56) rfl rfl rfl HM.out ?_))
          exact retMx (i := 2) rfl rfl rfl HS1.out ⟨rfl, by rw [HBB.out]; exact HB1.out⟩
end Go.Proofs.YtbbadnlaelgmlaaGreat

namespace Go.Proofs.YtbbadnlaelgmlaaGreat
open Go.RowKit
set_option maxRecDepth 100000
set_option linter.unusedVariables false
set_option linter.unusedSimpArgs false

set_option maxHeartbeats 8000000 in
theorem c_ofWays (n : Nat) (L M : Nat → Nat → Int) (hL : LOk n L) (hn : n ≤ 8) (hM : ∀ i j, M i j = if i = j then 0 else if L i j < 0 then far else L i j) (w : World) :
    Calls Tryz.prog 131 #[.agg (matA M)] w fun e w' => e = .returned (.agg (matA (wV n L))) ∧ Below w.heap.size w w' := by
  have hz1 := (zero_of_info len_zero).1
  obtain ⟨W1, h1⟩ : ∃ W, W = w.alloc (.cells (matA M) 159) := ⟨_, rfl⟩
  obtain ⟨W2, h2⟩ : ∃ W, W = W1.alloc (.cells (matA (fun _ _ => 0)) 159) := ⟨_, rfl⟩
  obtain ⟨W3, h3⟩ : ∃ W, W = W2.alloc (.cells (matA (fun _ _ => 0)) 159) := ⟨_, rfl⟩
  have s1 : W1.heap.size = w.heap.size + 1 := by rw [h1, World.size_alloc]
  have s2 : W2.heap.size = w.heap.size + 1 + 1 := by rw [h2, World.size_alloc, s1]
  have s3 : W3.heap.size = w.heap.size + 1 + 1 + 1 := by rw [h3, World.size_alloc, s2]
  have B1 : Below w.heap.size w W3 := by rw [h3, h2, h1]; exact (((Below.refl _ _).alloc (Nat.le_refl _) _).alloc (by rw [World.size_alloc]; omega) _).alloc (by rw [World.size_alloc, World.size_alloc]; omega) _
  have M0 : MxAt W2 w.heap.size M := by rw [h2]; refine old_heap _ ?_; rw [h1]; exact MxAt.new _ _
  have M1 : MxAt W3 (w.heap.size + 1) (fun _ _ => 0) := by
    rw [h3]
    refine old_heap _ ?_
    rw [h2, ← s1]; exact MxAt.new _ _
  have M2 : MxAt W3 (w.heap.size + 1 + 1) (fun _ _ => 0) := by rw [h3, ← s2]; exact MxAt.new _ _
  obtain ⟨B, hBB⟩ : ∃ B, w.heap.size = B := ⟨_, rfl⟩
  have HBB := Lib.hid hBB
  rw [hBB] at M0 M1 M2 s3 B1
  obtain ⟨G, hG⟩ : ∃ G, B + 1 + 1 = G := ⟨_, rfl⟩
  rw [hG] at M2
  have HGB := Lib.hid hG
  have HB := Lib.hid B1
  have HM0 := Lib.hid M0
  have HM2 := Lib.hid M2
  have H2 := Lib.hid (show W2.heap.size = G by rw [s2, hBB, hG])
  obtain ⟨W, hW⟩ : ∃ W, W = W3.setRow G (matA M) := ⟨_, rfl⟩
  have HW := Lib.hid (show MxAt W G M by rw [hW]; exact setRow_mx M2)
  have HBW := Lib.hid (show Below B w W by rw [hW]; exact below_row B1 (by omega) _)
  have HM1 := Lib.hid (fun (X : World) (hX : Below G W X) => (show MxAt X (B + 1) (fun _ _ => 0) from (hX.block (B + 1) (by omega)).trans (by rw [hW]; exact (setRow_other W3 G (B + 1) (matA M) (by omega)).trans M1)))
  have HKW := Lib.hid (Below.refl G W)
  have HL := Lib.hid hL
  have HN := Lib.hid hn
  have HFS := Lib.hid (FwI.start hL hM)
  clear M0 M1 M2 B1 s1 s2 s3 hG hL hn hM
  go_enter Tryz.func131, Tryz.ntmps131
  go_upto_region 1 with (fail)
  rw [← h1, ← h2]
  clear h1 h2 hBB
  have hz2 := H2.out
  go_wp2_with (first | (refine ld_mx rfl _ rfl (.tmp 1) rfl rfl HM0.out ?_) | (rw [← h3]; refine st_mx rfl rfl (.tmp 3) (.tmp 7) rfl rfl rfl HM2.out ?_; rw [← hW]; clear hz1 hz2 h3 hW))
  go_loopw [8] (fun i wr => ∃ k : Nat, k ≤ 8 ∧ i = .int .i64 (k : Int) ∧ Hid (Below G W wr) ∧ Hid (∃ V, MxAt wr G V ∧ FwI n L V k (fun _ _ => False))) (fun i _ => 8 - (intOf i).toNat)
  case atStart => exact ⟨0, Nat.zero_le _, rfl, HKW, Lib.hid ⟨M, HW.out, HFS.out⟩⟩
  case round =>
    obtain ⟨k, hk, rfl, hK, hF⟩ := hrel
    have hki : ((k : Nat) : Int).toNat = k := by omega
    by_cases hlk : k < 8
    · have hk2 : ((k : Nat) : Int) < 8 := by omega
      go_wp2_with (fail)
      go_loopw [11] (fun i wr => ∃ a : Nat, a ≤ 8 ∧ i = .int .i64 (a : Int) ∧ Hid (Below G W wr) ∧ Hid (∃ V, MxAt wr G V ∧ FwI n L V k (fun i j => i < a ∧ j < 8))) (fun i _ => 8 - (intOf i).toNat)
      case atStart => exact ⟨0, Nat.zero_le _, rfl, hK, by obtain ⟨V, h1, h2⟩ := hF.out; exact Lib.hid ⟨V, h1, h2.sub fun i j h => by omega⟩⟩
      case round =>
        obtain ⟨a, ha, rfl, hK, hF⟩ := hrel
        have hai : ((a : Nat) : Int).toNat = a := by omega
        by_cases hla : a < 8
        · have ha2 : ((a : Nat) : Int) < 8 := by omega
          go_wp2_with (fail)
          go_loopw [14] (fun i wr => ∃ b : Nat, b ≤ 8 ∧ i = .int .i64 (b : Int) ∧ Hid (Below G W wr) ∧ Hid (∃ V, MxAt wr G V ∧ FwI n L V k (fun i j => (i < a ∧ j < 8) ∨ (i = a ∧ j < b)))) (fun i _ => 8 - (intOf i).toNat)
          case atStart => exact ⟨0, Nat.zero_le _, rfl, hK, by obtain ⟨V, h1, h2⟩ := hF.out; exact Lib.hid ⟨V, h1, h2.sub fun i j h => by omega⟩⟩
          case round =>
            obtain ⟨b, hb, rfl, hK, hF⟩ := hrel
            have hbi : ((b : Nat) : Int).toNat = b := by omega
            by_cases hlb : b < 8
            · have hb2 : ((b : Nat) : Int) < 8 := by omega
              obtain ⟨V, hV, hI⟩ := hF.out
              have c0 := hV.cell hla hlb
              have c1 := hV.cell hla hlk
              have c2 := hV.cell hlk hlb
              have c3 := hV.frz (a * 8 + b)
              obtain ⟨x, hx⟩ : ∃ x, V a b = x := ⟨_, rfl⟩
              obtain ⟨y, hy⟩ : ∃ x, V a k = x := ⟨_, rfl⟩
              obtain ⟨z, hz⟩ : ∃ x, V k b = x := ⟨_, rfl⟩
              have bx1 := hI.pos a b; have bx2 := hI.top a b
              have by1 := hI.pos a k; have by2 := hI.top a k
              have bz1 := hI.pos k b; have bz2 := hI.top k b
              rw [hx] at c0 bx1 bx2
              rw [hy] at c1 by1 by2
              rw [hz] at c2 bz1 bz2
              unfold far at bx2 by2 bz2
              obtain ⟨m, hm⟩ : ∃ m, (if y + z < x then y + z else x) = m := ⟨_, rfl⟩
              have hm2 : min x (y + z) = m := by rw [← hm]; split <;> omega
              have HS := Lib.hid (hV.set hla hlb m (f' := fun i j => if i = a ∧ j = b then min (V a b) (V a k + V k b) else V i j) (fun i j _ _ => by rw [hx, hy, hz, hm2]))
              have HI := Lib.hid ((FwI.step HL.out (a := a) (b := b) hI).sub (Q := fun i j => (i < a ∧ j < 8) ∨ (i = a ∧ j < b + 1)) (fun i j h => by omega))
              have HK1 := Lib.hid (hK.out.setCell (p := ⟨G, a * 8 + b, none⟩) (Nat.le_refl _) (.int .i64 m))
              clear hx hy hz hV hI hm2
              go_wp2_with (fail)
              go_region
              go_wp2_with (fail)
              go_roundw
              case rel => exact ⟨b + 1, by omega, by go_num, Lib.hid HK1.out.drew, Lib.hid ⟨_, HS.out, HI.out⟩⟩
              case measure => simp only [intOf]; omega
            · have hlb2 : (8 : Int) ≤ (b : Int) := by omega
              go_wp2_with (fail)
              go_roundw
              case rel => exact ⟨a + 1, by omega, by go_num, hK, by
                have e : b = 8 := by omega
                subst e
                obtain ⟨V, h1, h2⟩ := hF.out
                exact Lib.hid ⟨V, h1, h2.sub fun i j h => by omega⟩⟩
              case measure => simp only [intOf]; omega
        · have hla2 : (8 : Int) ≤ (a : Int) := by omega
          go_wp2_with (fail)
          go_roundw
          case rel => exact ⟨k + 1, by omega, by go_num, hK, by
            have e : a = 8 := by omega
            subst e
            obtain ⟨V, h1, h2⟩ := hF.out
            exact Lib.hid ⟨V, h1, h2.next HL.out HN.out (fun i j hi hj => ⟨hi, hj⟩)⟩⟩
          case measure => simp only [intOf]; omega
    · have hlk2 : (8 : Int) ≤ (k : Int) := by omega
      have HE := Lib.hid (show MxAt wr G (wV n L) by
        have e : k = 8 := by omega
        subst e
        obtain ⟨V, h1, h2⟩ := hF.out
        exact h1.ag fun i j _ _ => h2.end_ HL.out HN.out i j)
      have HM := Lib.hid (HM1.out wr hK.out)
      have HS1 := Lib.hid (setRow_mx (f' := wV n L) HM.out)
      have HB1 := Lib.hid (below_row (g := B + 1) (below_join HBW.out hK.out (show B ≤ G by have := HGB.out; omega)) (by omega) (matA (wV n L)))
      go_wp2_with (first | (refine ld_mx rfl _ rfl (.tmp 3) rfl rfl HE.out ?_) | (refine st_mx rfl rfl (.tmp 2) (.tmp 41) rfl rfl rfl HM.out ?_))
      exact retMx (i := 2) rfl rfl rfl HS1.out ⟨rfl, by rw [HBB.out]; exact HB1.out⟩
end Go.Proofs.YtbbadnlaelgmlaaGreat

namespace Go.Proofs.YtbbadnlaelgmlaaGreat
open Go.RowKit
set_option maxRecDepth 100000
set_option linter.unusedVariables false
set_option linter.unusedSimpArgs false

def nS (s : SiteD) : Nat := s.sw.toNat
noncomputable def dS (s : SiteD) (a b : Nat) : Int := dV (nS s) (lkN s) a b
noncomputable def wS (s : SiteD) : Nat → Nat → Int := wV (nS s) (lkN s)
def swOf (s : SiteD) (h : Nat) : Nat := (rkAt s h).sw.toNat
noncomputable def laS (s : SiteD) (a b : Nat) : Int := if a = b then 0 else if dS s (swOf s a) (swOf s b) < 0 then -1 else 1 + dS s (swOf s a) (swOf s b)
theorem sk {s : SiteD} (h : siteOk s = true) : LOk (nS s) (lkN s) ∧ nS s ≤ 8 ∧ ((nS s : Nat) : Int) = s.sw ∧ LksOk (nS s) s.links := by
  have h1 := siteOk_iff.1 h
  have h2 := h1.sw
  have e : ((nS s : Nat) : Int) = s.sw := by unfold nS; omega
  have h3 : LksOk (nS s) s.links := fun x hx => by have := h1.links x hx; rw [e]; exact this
  exact ⟨lkN_ok h3, by omega, e, h3⟩
theorem dsF_wS {s : SiteD} (h : siteOk s = true) (a b : Nat) : dsF (wS s a b) = dS s a b := by
  obtain ⟨h1, h2, -, -⟩ := sk h
  have h3 := dV_far h1 h2 a b
  have h4 := dV_ge h1 a b
  unfold dsF wS wV dS far
  split
  · rw [if_pos rfl]; omega
  · rw [if_neg (by omega)]
theorem dS_ge {s : SiteD} (h : siteOk s = true) (a b : Nat) : -1 ≤ dS s a b ∧ dS s a b ≤ 7000000 := ⟨dV_ge (sk h).1 a b, dV_far (sk h).1 (sk h).2.1 a b⟩
theorem sw_ok {s : SiteD} (h : siteOk s = true) {k : Nat} (hk : k < s.hosts.length) : ∃ (m : Nat) (x : Hs) (y : Rk), s.hosts[k]? = some x ∧ x.rack = (m : Int) ∧ m < s.racks.length ∧ s.racks[m]? = some y ∧ y.sw = ((swOf s k : Nat) : Int) ∧ swOf s k < nS s := by
  have h1 := siteOk_iff.1 h
  obtain ⟨x, e1, e2, -, -⟩ := rack_ok h1 hk
  obtain ⟨m, e3, e4, e5, e6⟩ := rk_ok h1 hk
  obtain ⟨-, -, -, g1, g2⟩ := h1.racks _ e6
  have h3 := (sk h).2.2.1
  refine ⟨m, x, _, e1, by omega, e4, e5, ?_, ?_⟩
  · unfold swOf; omega
  · unfold swOf; omega
theorem c_waysS {s : SiteD} (hs : siteOk s = true) (w : World) : Calls Tryz.prog 131 #[.agg (matA (lkM s.links))] w fun e w' => e = .returned (.agg (matA (wS s))) ∧ Below w.heap.size w w' := by
  obtain ⟨h1, h2, -, h4⟩ := sk hs
  exact c_ofWays (nS s) (lkN s) (lkM s.links) h1 h2 (lkM_is h4) w
theorem exec_ld {P : Program} {o : Oper} {ev : Operand → Value} {T : TypeId} {x : Operand} {u v : Value} {w : World} (ho : o.op = .load T x) (hx : ev x = u) (h : (Instr.loadAt T u).run P w = .ok v w) : (execOp ev o).run P w = .ok (.value v) w := by
  simp only [execOp, ho, hx, Sem.run_bind, h, Result.andThen, Sem.run_pure]
set_option maxHeartbeats 8000000 in
theorem c_swOf (bs : Nat) (p : SP) (s : SiteD) (hs : siteOk s = true) (k : Nat) (hk : k < s.hosts.length) (w : World) (hbox : SiBox w bs p s) (h : SiAt w p s) :
    Calls Tryz.prog 158 #[.int .i64 (k : Int), .pointer (some ⟨bs, 0, none⟩)] w fun e w' => e = .returned (.int .i64 ((swOf s k : Nat) : Int)) ∧ Below w.heap.size w w' := by
  obtain ⟨m, ⟨x0, x1, x2, x3⟩, ⟨y0, y1, y2, y3⟩, e1, e2, e3, e4, e5, -⟩ := sw_ok hs hk
  obtain ⟨u, hu⟩ : ∃ u, swOf s k = u := ⟨_, rfl⟩
  rw [hu] at e5 ⊢
  clear hu
  simp only at e2 e5
  subst e2 e5
  have f3 := hbox.c3
  have f6 := hbox.c6
  obtain ⟨b1, o1, h1, -, -⟩ := h.hosts.at_ e1
  obtain ⟨b2, o2, h2, -, -⟩ := h.racks.at_ e4
  have g1 := h.hosts; have g2 := h.racks
  have n1 := g1.1; have n2 := g2.1; have n3 := g1.2.1; have n4 := g2.2.1
  unfold maxLen at n3 n4
  rw [h1] at g1 f6
  rw [h2] at g2 f3
  obtain ⟨r0, -, -, -⟩ := rwHost g1 e1
  obtain ⟨-, -, -, r3⟩ := rwRack g2 e4
  have q1 : ((k : Nat) : Int).toNat = k := by omega
  have q2 : ((m : Nat) : Int).toNat = m := by omega
  have q3 : (k : Int) < ((s.hosts.length : Nat) : Int) := by omega
  have q4 : (m : Int) < ((s.racks.length : Nat) : Int) := by omega
  clear g1 g2 h1 h2 e1 e4 h hbox
  go_enter Tryz.func158, Tryz.ntmps158
  go_wp2_with (fail)
  go_quiet (fail)
  go_wp2_with (fail)
  go_ret
  exact ⟨rfl, below_drewN (Below.refl _ _)⟩
set_option maxHeartbeats 16000000 in
theorem c_neLatency (p : SP) (s : SiteD) (hs : siteOk s = true) (a b : Nat) (ha : a < s.hosts.length) (hb : b < s.hosts.length) (w : World) (h : SiAt w p s) :
    Calls Tryz.prog 134 #[siV p s, .agg (matA (wS s)), .int .i64 (a : Int), .int .i64 (b : Int)] w fun e w' => e = .returned (.int .i64 (laS s a b)) ∧ Below w.heap.size w w' := by
  unfold siV
  obtain ⟨r, hr⟩ : ∃ r, laS s a b = r := ⟨_, rfl⟩
  rw [hr]
  have HR := Lib.hid hr
  clear hr
  have hmf : ∀ (fn : Fn) (first cap : Array Value) (w : World), (Instr.makeFunc fn first cap).run Tryz.prog w = .ok (.func fn first cap) w := fun _ _ _ _ => rfl
  obtain ⟨W1, h1⟩ : ∃ W, W = w.alloc (.cells #[.slice p.a1 s.feeds.length p.c1, .slice p.a2 s.brks.length p.c2, .slice p.a3 s.loops.length p.c3, .slice p.a4 s.racks.length p.c4, .int .i64 s.sw, .slice p.a5 s.links.length p.c5, .slice p.a6 s.hosts.length p.c6] 29) := ⟨_, rfl⟩
  have z1 : W1.heap.size = w.heap.size + 1 := by rw [h1, World.size_alloc]
  have B1 : Below w.heap.size w W1 := by rw [h1]; exact (Below.refl _ _).alloc (Nat.le_refl _) _
  have X1 : SiBox W1 w.heap.size p s := by rw [h1]; exact siBox_new _ _ _
  obtain ⟨W, h2⟩ : ∃ W, W = W1.alloc (.cells (matA (wS s)) 159) := ⟨_, rfl⟩
  have z2 : W.heap.size = w.heap.size + 1 + 1 := by rw [h2, World.size_alloc, z1]
  have B2 : Below w.heap.size w W := by rw [h2]; exact B1.alloc (by omega) _
  have X2 : SiBox W w.heap.size p s := by rw [h2]; exact old_heap _ X1
  have M0 : W.heap[w.heap.size + 1]? = some (.cells (matA (wS s)) 159 (0, 0)) := by rw [h2, ← z1]; exact box_new _ _ _
  have HB := Lib.hid B2
  have HZ := Lib.hid z2
  have HA := Lib.hid (fun (X : World) (hX : Below W.heap.size W X) => (h.on B2 (Nat.le_refl _)).on hX (Nat.le_refl _))
  have HF := Lib.hid (fun (X : World) (hX : Below W.heap.size W X) => (let z := X2.on hX (Nat.le_refl _); ⟨z.c0, z.c1, z.c2, z.c3, z.c4, z.c5, z.c6⟩ : X.cell? ⟨w.heap.size, 0, none⟩ = some (.slice p.a1 s.feeds.length p.c1) ∧ X.cell? ⟨w.heap.size, 1, none⟩ = some (.slice p.a2 s.brks.length p.c2) ∧ X.cell? ⟨w.heap.size, 2, none⟩ = some (.slice p.a3 s.loops.length p.c3) ∧ X.cell? ⟨w.heap.size, 3, none⟩ = some (.slice p.a4 s.racks.length p.c4) ∧ X.cell? ⟨w.heap.size, 4, none⟩ = some (.int .i64 s.sw) ∧ X.cell? ⟨w.heap.size, 5, none⟩ = some (.slice p.a5 s.links.length p.c5) ∧ X.cell? ⟨w.heap.size, 6, none⟩ = some (.slice p.a6 s.hosts.length p.c6)))
  have HX := Lib.hid (fun (X : World) (hX : Below W.heap.size W X) => X2.on hX (Nat.le_refl _))
  have HM0 := Lib.hid (fun (X : World) (hX : Below W.heap.size W X) => (box_on M0 hX (Nat.le_refl _) : X.heap[w.heap.size + 1]? = some (.cells (matA (wS s)) 159 (0, 0))))
  have HKW := Lib.hid (Below.refl W.heap.size W)
  have hle := HB.out.size
  have n0 := h.feeds.1; have m0 := h.feeds.2.1
  have n1 := h.brks.1; have m1 := h.brks.2.1
  have n2 := h.loops.1; have m2 := h.loops.2.1
  have n3 := h.racks.1; have m3 := h.racks.2.1
  have n4 := h.links.1; have m4 := h.links.2.1
  have n5 := h.hosts.1; have m5 := h.hosts.2.1
  unfold maxLen at m0 m1 m2 m3 m4 m5
  clear h z1 B1 X1 z2 B2 X2 M0
  obtain ⟨f0, f1, f2, f3, f4, f5, f6⟩ := HF.out W HKW.out
  rw [h2, h1] at f0 f1 f2 f3 f4 f5 f6
  generalize hBB : w.heap.size = B at *
  go_enter Tryz.func134, Tryz.ntmps134
  go_wp2_with (fail)
  rw [← h1, ← h2]
  clear h1 h2 f0 f1 f2 f3 f4 f5 f6 hmf
  obtain ⟨d, hd⟩ : ∃ d, dS s (swOf s a) (swOf s b) = d := ⟨_, rfl⟩
  have HD := Lib.hid hd
  have hdr := dS_ge hs (swOf s a) (swOf s b)
  rw [hd] at hdr
  have HCA := Lib.hid (fun (X : World) (hX : Below W.heap.size W X) => c_swOf B p s hs a ha X (HX.out X hX) (HA.out X hX))
  have HCB := Lib.hid (fun (X : World) (hX : Below W.heap.size W X) => c_swOf B p s hs b hb X (HX.out X hX) (HA.out X hX))
  have hsa := (sw_ok hs ha).choose_spec.choose_spec.choose_spec.2.2.2.2.2
  have hsb := (sw_ok hs hb).choose_spec.choose_spec.choose_spec.2.2.2.2.2
  have hn8 := (sk hs).2.1
  have HCD := Lib.hid (fun (X : World) => c_distance (wS s) (swOf s a) (swOf s b) (by omega) (by omega) X)
  rw [dsF_wS hs, hd] at HCD
  clear hd hsa hsb
  refine wp_region_held_drew (S := fun X => MxAt X (B + 1) (wS s) ∧ Below W.heap.size W X) (by kernel_rfl) (⟨HM0.out W.drew HKW.out.drew, HKW.out.drew⟩) (fun hHeld => ?_)
  refine takeH (i := 0) 12 (v := .agg (matA (wS s))) rfl rfl (by kernel_rfl) (by kernel_rfl) (by kernel_rfl) (fun _ _ _ h => h) (by rfl) (fun X hX => exec_ld (x := .tmp 5) rfl rfl (run_load_mx hX.1)) hHeld ?_
  try simp only [Act.put, List.setIfInBounds_toArray, List.set_cons_zero, List.set_cons_succ]
  refine takeH (i := 1) 13 (v := ?_) rfl rfl (by kernel_rfl) (by kernel_rfl) (by kernel_rfl) (fun _ _ _ h => h) (by rfl) ?_ hHeld ?_
  rotate_left
  · intro X hX; (try dsimp only at hX); (first | (go_simp; done) | (go_simp; with_reducible rfl))
  try simp only [Act.put, List.setIfInBounds_toArray, List.set_cons_zero, List.set_cons_succ]
  refine takeH (i := 2) 14 (v := ?_) rfl rfl (by kernel_rfl) (by kernel_rfl) (by kernel_rfl) (fun _ _ _ h => h) (by rfl) ?_ hHeld ?_
  rotate_left
  · intro X hX; (try dsimp only at hX); (first | (go_simp; done) | (go_simp; with_reducible rfl))
  try simp only [Act.put, List.setIfInBounds_toArray, List.set_cons_zero, List.set_cons_succ]
  refine takeH (i := 4) 16 (v := ?_) rfl rfl (by kernel_rfl) (by kernel_rfl) (by kernel_rfl) (fun _ _ _ h => h) (by rfl) ?_ hHeld ?_
  rotate_left
  · intro X hX; (try dsimp only at hX); (first | (go_simp; done) | (go_simp; with_reducible rfl))
  try simp only [Act.put, List.setIfInBounds_toArray, List.set_cons_zero, List.set_cons_succ]
  refine takeH (i := 5) 17 (v := ?_) rfl rfl (by kernel_rfl) (by kernel_rfl) (by kernel_rfl) (fun _ _ _ h => h) (by rfl) ?_ hHeld ?_
  rotate_left
  · intro X hX; (try dsimp only at hX); (first | (go_simp; done) | (go_simp; with_reducible rfl))
  try simp only [Act.put, List.setIfInBounds_toArray, List.set_cons_zero, List.set_cons_succ]
  refine wpAnyH_ready (rs := [3]) (by kernel_rfl) (by simp) ?_
  refine AllReadyH.cons rfl (fun K hK => ?_) AllReadyH.nil
  go_simp
  go_at_call 158; (with_reducible refine (HCA.out W.drew HKW.out.drew).mono ?_); rintro e w1 ⟨rfl, bb⟩; have K1 := Lib.hid (below_join HKW.out.drew bb HKW.out.size); clear bb
  try dsimp only
  refine hK.out _ _ (⟨HM0.out w1 K1.out, K1.out⟩) (fun hHeld2 => ?_)
  clear hK K hHeld
  have hHeld := hHeld2
  clear hHeld2
  try simp only [Act.put, List.setIfInBounds_toArray, List.set_cons_zero, List.set_cons_succ]
  refine wpAnyH_ready (rs := [6]) (by kernel_rfl) (by simp) ?_
  refine AllReadyH.cons rfl (fun K hK => ?_) AllReadyH.nil
  go_simp
  go_at_call 158; (with_reducible refine (HCB.out w1 K1.out).mono ?_); rintro e w2 ⟨rfl, bb⟩; have K2 := Lib.hid (below_join K1.out bb K1.out.size); clear bb
  try dsimp only
  refine hK.out _ _ (⟨HM0.out w2 K2.out, K2.out⟩) (fun hHeld2 => ?_)
  clear hK K hHeld
  have hHeld := hHeld2
  clear hHeld2
  try simp only [Act.put, List.setIfInBounds_toArray, List.set_cons_zero, List.set_cons_succ]
  refine wpAnyH_ready (rs := [7]) (by kernel_rfl) (by simp) ?_
  refine AllReadyH.cons rfl (fun K hK => ?_) AllReadyH.nil
  go_simp
  go_at_call 159; (with_reducible refine (HCD.out w2).mono ?_); rintro e w3 ⟨rfl, bb⟩; have K3 := Lib.hid (below_join K2.out bb K2.out.size); clear bb
  try dsimp only
  refine hK.out _ _ (⟨HM0.out w3 K3.out, K3.out⟩) (fun hHeld2 => ?_)
  clear hK K hHeld
  have hHeld := hHeld2
  clear hHeld2
  try simp only [Act.put, List.setIfInBounds_toArray, List.set_cons_zero, List.set_cons_succ]
  refine takeH (i := 8) 10 (v := ?_) rfl rfl (by kernel_rfl) (by kernel_rfl) (by kernel_rfl) (fun _ _ _ h => h) (by rfl) ?_ hHeld ?_
  rotate_left
  · intro X hX; (try dsimp only at hX); (first | (go_simp; done) | (go_simp; with_reducible rfl))
  try simp only [Act.put, List.setIfInBounds_toArray, List.set_cons_zero, List.set_cons_succ]
  refine wpAnyH_done (by kernel_rfl) ?_ _
  rcases h1 : ((a : Int) == (b : Int)) with _ | _
  · have hab : a ≠ b := by have : ¬ (a : Int) = (b : Int) := by simpa using h1
                           omega
    rcases h2 : decide (d < 0) with _ | _
    · have hd0 := of_decide_eq_false h2
      go_wp2_with (fail)
      go_ret
      exact ⟨(show Ending.returned (.int .i64 (1 + d)) = .returned (.int .i64 r) by rw [← HR.out]; unfold laS; rw [if_neg hab, HD.out, if_neg (by omega)]), below_join HB.out K3.out hle⟩
    · have hd0 := of_decide_eq_true h2
      go_wp2_with (fail)
      go_ret
      exact ⟨(show Ending.returned (.int .i64 d) = .returned (.int .i64 r) by rw [← HR.out]; unfold laS; rw [if_neg hab, HD.out, if_pos (by omega)]; congr; omega), below_join HB.out K3.out hle⟩
  · have hab : a = b := by have : (a : Int) = (b : Int) := by simpa using h1
                           omega
    go_wp2_with (fail)
    go_ret
    exact ⟨(show Ending.returned (.int .i64 d) = .returned (.int .i64 r) by rw [← HR.out]; unfold laS; rw [if_pos hab, ← HD.out, hab]; unfold dS; rw [dV_self (sk hs).1]), below_join HB.out K3.out hle⟩
end Go.Proofs.YtbbadnlaelgmlaaGreat

namespace Go.Proofs.YtbbadnlaelgmlaaGreat
open Go.RowKit
set_option maxRecDepth 100000
set_option linter.unusedVariables false
set_option linter.unusedSimpArgs false

theorem all1 (a m : Int) : [a].all (fun x => ixB x m) = ixB a m := by simp
end Go.Proofs.YtbbadnlaelgmlaaGreat

namespace Go.Proofs.YtbbadnlaelgmlaaGreat
open Go.RowKit
set_option maxRecDepth 100000
set_option linter.unusedVariables false
set_option linter.unusedSimpArgs false

noncomputable def wiF (s : SiteD) (a : Nat) (most : Int) (k : Nat) : Bool := decide (0 ≤ laS s a k ∧ laS s a k ≤ most)
noncomputable def wiL (s : SiteD) (a : Nat) (most : Int) (k : Nat) : List Nat := (List.range k).filter (wiF s a most)
noncomputable def witI (s : SiteD) (a most : Int) : List Nat := if siteOk s = true ∧ ixB a s.hosts.length = true then wiL s a.toNat most s.hosts.length else []
theorem wiL_len (s : SiteD) (a : Nat) (most : Int) (k : Nat) : (wiL s a most k).length ≤ k := Nat.le_trans (List.length_filter_le _ _) (by rw [List.length_range]; omega)
theorem wiL_succ (s : SiteD) (a : Nat) (most : Int) (k : Nat) : wiL s a most (k + 1) = wiL s a most k ++ if wiF s a most k then [k] else [] := by unfold wiL; rw [List.range_succ, List.filter_append]; congr 1; cases h : wiF s a most k <;> simp [h]
theorem nats_snoc (l : List Nat) (k : Nat) : nats (l ++ [k]) = nats l ++ [(k : Int)] := by simp [nats]
set_option maxHeartbeats 8000000 in
theorem c_within1 (bs bm ba bo : Nat) (p : SP) (s : SiteD) (hs : siteOk s = true) (a k : Nat) (ha : a < s.hosts.length) (hk : k < s.hosts.length) (most : Int) (w : World) (hbox : SiBox w bs p s) (h : SiAt w p s) (hm : MxAt w bm (wS s))
    (h1 : w.heap[ba]? = some (.cells #[.int .i64 (a : Int)] 3 (0, 0))) (h2 : w.heap[bo]? = some (.cells #[.int .i64 most] 3 (0, 0))) (r : Bool) (hr : wiF s a most k = r) :
    Calls Tryz.prog 133 #[.int .i64 (k : Int), .pointer (some ⟨bs, 0, none⟩), .pointer (some ⟨bm, 0, none⟩), .pointer (some ⟨ba, 0, none⟩), .pointer (some ⟨bo, 0, none⟩)] w fun e w' => e = .returned (.bool r) ∧ Below w.heap.size w w' := by
  have HC := Lib.hid (c_neLatency p s hs a k ha hk w h)
  unfold siV at HC
  obtain ⟨z, hz⟩ : ∃ z, laS s a k = z := ⟨_, rfl⟩
  rw [hz] at HC
  have HR := Lib.hid (show decide (0 ≤ z ∧ z ≤ most) = r by rw [← hr]; unfold wiF; rw [hz])
  have HM := Lib.hid hm
  have g0 := hbox.c0; have g1 := hbox.c1; have g2 := hbox.c2; have g3 := hbox.c3; have g4 := hbox.c4; have g5 := hbox.c5; have g6 := hbox.c6
  have x0 := cell_of h1 (o := 0) rfl
  have HO := Lib.hid (fun (X : World) (hX : Below w.heap.size w X) => (cell_of (box_on h2 hX (Nat.le_refl _)) (o := 0) rfl : X.cell? ⟨bo, 0, none⟩ = some (.int .i64 most)))
  clear hr hz hm hbox h h1 h2
  go_enter Tryz.func133, Tryz.ntmps133
  go_wp2_with (refine ld_mx rfl _ rfl (.tmp 2) rfl rfl HM.out ?_)
  go_at_call 134
  refine HC.out.mono ?_
  rintro e w1 ⟨rfl, bb⟩
  have K1 := Lib.hid bb
  have y0 := HO.out w1 K1.out
  clear bb g0 g1 g2 g3 g4 g5 g6 x0
  rcases h1 : decide (0 ≤ z) with _ | _
  · have h1' := of_decide_eq_false h1
    obtain rfl : false = r := by rw [← HR.out]; symm; exact decide_eq_false (fun h => h1' h.1)
    go_wp2_with (fail)
    go_ret
    exact ⟨rfl, K1.out⟩
  · have h1' := of_decide_eq_true h1
    obtain rfl : decide (z ≤ most) = r := by rw [← HR.out]; simp [h1']
    go_wp2_with (fail)
    go_ret
    exact ⟨rfl, K1.out⟩
set_option maxHeartbeats 16000000 in
theorem c_neWithin (p : SP) (s : SiteD) (a most : Int) (r : List Nat) (hr : witI s a most = r) (w : World) (h : SiAt w p s) :
    Calls Tryz.prog 104 #[siV p s, .int .i64 a, .int .i64 most] w fun e w' => ∃ v, e = .returned v ∧ w'.ownsRow w.heap.size 3 1 v (nats r).length (ints (nats r)) ∧ Below w.heap.size w w' := by
  unfold siV
  have hmf : ∀ (fn : Fn) (first cap : Array Value) (w : World), (Instr.makeFunc fn first cap).run Tryz.prog w = .ok (.func fn first cap) w := fun _ _ _ _ => rfl
  have hzm := (zero_of_info len_zero).1
  obtain ⟨W1, h1⟩ : ∃ W, W = w.alloc (.cells #[.slice p.a1 s.feeds.length p.c1, .slice p.a2 s.brks.length p.c2, .slice p.a3 s.loops.length p.c3, .slice p.a4 s.racks.length p.c4, .int .i64 s.sw, .slice p.a5 s.links.length p.c5, .slice p.a6 s.hosts.length p.c6] 29) := ⟨_, rfl⟩
  have z1 : W1.heap.size = w.heap.size + 1 := by rw [h1, World.size_alloc]
  have B1 : Below w.heap.size w W1 := by rw [h1]; exact (Below.refl _ _).alloc (Nat.le_refl _) _
  have X1 : SiBox W1 w.heap.size p s := by rw [h1]; exact siBox_new _ _ _
  obtain ⟨W2, h2⟩ : ∃ W, W = W1.alloc (.cells #[.int .i64 a] 3) := ⟨_, rfl⟩
  have z2 : W2.heap.size = w.heap.size + 1 + 1 := by rw [h2, World.size_alloc, z1]
  have B2 : Below w.heap.size w W2 := by rw [h2]; exact B1.alloc (by omega) _
  have X2 : SiBox W2 w.heap.size p s := by rw [h2]; exact old_heap _ X1
  have M0 : W2.heap[w.heap.size + 1]? = some (.cells #[.int .i64 a] 3 (0, 0)) := by rw [h2, ← z1]; exact box_new _ _ _
  obtain ⟨W, h3⟩ : ∃ W, W = W2.alloc (.cells #[.int .i64 most] 3) := ⟨_, rfl⟩
  have z3 : W.heap.size = w.heap.size + 1 + 1 + 1 := by rw [h3, World.size_alloc, z2]
  have B3 : Below w.heap.size w W := by rw [h3]; exact B2.alloc (by omega) _
  have X3 : SiBox W w.heap.size p s := by rw [h3]; exact old_heap _ X2
  have M0 : W.heap[w.heap.size + 1]? = some (.cells #[.int .i64 a] 3 (0, 0)) := by rw [h3]; exact old_heap _ M0
  have M1 : W.heap[w.heap.size + 1 + 1]? = some (.cells #[.int .i64 most] 3 (0, 0)) := by rw [h3, ← z2]; exact box_new _ _ _
  have HB := Lib.hid B3
  have HZ := Lib.hid z3
  have HA := Lib.hid (fun (X : World) (hX : Below W.heap.size W X) => (h.on B3 (Nat.le_refl _)).on hX (Nat.le_refl _))
  have HF := Lib.hid (fun (X : World) (hX : Below W.heap.size W X) => (let z := X3.on hX (Nat.le_refl _); ⟨z.c0, z.c1, z.c2, z.c3, z.c4, z.c5, z.c6⟩ : X.cell? ⟨w.heap.size, 0, none⟩ = some (.slice p.a1 s.feeds.length p.c1) ∧ X.cell? ⟨w.heap.size, 1, none⟩ = some (.slice p.a2 s.brks.length p.c2) ∧ X.cell? ⟨w.heap.size, 2, none⟩ = some (.slice p.a3 s.loops.length p.c3) ∧ X.cell? ⟨w.heap.size, 3, none⟩ = some (.slice p.a4 s.racks.length p.c4) ∧ X.cell? ⟨w.heap.size, 4, none⟩ = some (.int .i64 s.sw) ∧ X.cell? ⟨w.heap.size, 5, none⟩ = some (.slice p.a5 s.links.length p.c5) ∧ X.cell? ⟨w.heap.size, 6, none⟩ = some (.slice p.a6 s.hosts.length p.c6)))
  have HX := Lib.hid (fun (X : World) (hX : Below W.heap.size W X) => X3.on hX (Nat.le_refl _))
  have HM0 := Lib.hid (fun (X : World) (hX : Below W.heap.size W X) => (box_on M0 hX (Nat.le_refl _) : X.heap[w.heap.size + 1]? = some (.cells #[.int .i64 a] 3 (0, 0))))
  have HM1 := Lib.hid (fun (X : World) (hX : Below W.heap.size W X) => (box_on M1 hX (Nat.le_refl _) : X.heap[w.heap.size + 1 + 1]? = some (.cells #[.int .i64 most] 3 (0, 0))))
  have HKW := Lib.hid (Below.refl W.heap.size W)
  have hle := HB.out.size
  have n0 := h.feeds.1; have m0 := h.feeds.2.1
  have n1 := h.brks.1; have m1 := h.brks.2.1
  have n2 := h.loops.1; have m2 := h.loops.2.1
  have n3 := h.racks.1; have m3 := h.racks.2.1
  have n4 := h.links.1; have m4 := h.links.2.1
  have n5 := h.hosts.1; have m5 := h.hosts.2.1
  unfold maxLen at m0 m1 m2 m3 m4 m5
  obtain ⟨r0, hr0⟩ : ∃ r, siteOk s = r := ⟨_, rfl⟩
  have HR0 := Lib.hid hr0
  have HR := Lib.hid hr
  clear hr hr0
  obtain ⟨r1, hr1⟩ : ∃ r, [a].all (fun x => ixB x (s.hosts.length : Int)) = r := ⟨_, rfl⟩
  have HR1 := Lib.hid hr1
  clear hr1
  clear h z1 B1 X1 z2 B2 X2 z3 B3 X3 M0 M1
  obtain ⟨f0, f1, f2, f3, f4, f5, f6⟩ := HF.out W HKW.out
  have c00 := cell_of (HM0.out W HKW.out) (o := 0) rfl
  have c10 := cell_of (HM1.out W HKW.out) (o := 0) rfl
  rw [h3, h2, h1] at f0 f1 f2 f3 f4 f5 f6 c00 c10
  generalize hBB : w.heap.size = B at *
  go_enter Tryz.func104, Tryz.ntmps104
  go_wp2_with (fail)
  rw [← h1, ← h2, ← h3]
  clear h1 h2 h3 f0 f1 f2 f3 f4 f5 f6 c00 c10
  go_at_call 44
  refine (c_stValid p s r0 HR0.out W (HA.out W HKW.out)).mono ?_
  rintro e v1 ⟨rfl, bb⟩
  have HKv1 := Lib.hid (below_join HKW.out bb HKW.out.size)
  clear bb
  cases r0
  · skip
    go_wp2_with (fail)
    obtain rfl : [] = r := by rw [← HR.out]; unfold witI; rw [if_neg (by rw [HR0.out]; simp)]
    go_ret
    exact ⟨_, rfl, World.ownsRow_nil _ _ _ _, below_join HB.out HKv1.out hle⟩
  have a0 := cell_of (HM0.out v1 HKv1.out) (o := 0) rfl
  obtain ⟨X152, hX152⟩ : ∃ X, X = v1.alloc (.cells #[.int .i64 a] 3) := ⟨_, rfl⟩
  have b152 : Below v1.heap.size v1 X152 := by subst hX152; exact (Below.refl _ _).alloc (Nat.le_refl _) _
  have HKX152 := Lib.hid (below_join HKv1.out b152 HKv1.out.size)
  have RLX152 := Lib.hid (show Rw 1 inF X152 (some ⟨v1.heap.size, 0, none⟩) 1 [a] by subst hX152; exact rw_lit [a] (by simp [maxLen]) _)
  clear b152
  obtain ⟨f0, f1, f2, f3, f4, f5, f6⟩ := HF.out v1 HKv1.out
  go_wp2_with (fail)
  rw [← hX152]
  clear hX152
  clear f0 f1 f2 f3 f4 f5 f6
  go_at_call 130
  refine (c_areIx (s.hosts.length : Int) (some ⟨v1.heap.size, 0, none⟩) 1 [a] X152 RLX152.out r1 HR1.out).mono ?_
  rintro e v153 ⟨rfl, bb⟩
  have HKv153 := Lib.hid (below_join HKX152.out bb HKX152.out.size)
  have RLv153 := Lib.hid (RLX152.out.on bb (Nat.le_refl _))
  clear bb
  clear a0
  have HRA := Lib.hid ((all1 a (s.hosts.length : Int)).symm.trans HR1.out)
  cases r1
  · skip
    go_wp2_with (fail)
    obtain rfl : [] = r := by
      rw [← HR.out]
      unfold witI
      rw [if_neg (by rintro ⟨-, h1⟩; have := HRA.out; rw [h1] at this; cases this)]
    go_ret
    exact ⟨_, rfl, World.ownsRow_nil _ _ _ _, below_join HB.out HKv153.out hle⟩
  have hab := HRA.out
  rw [ixB_iff] at hab
  obtain ⟨ua, rfl⟩ : ∃ u : Nat, a = u := ⟨a.toNat, by omega⟩
  have hua : ua < s.hosts.length := by omega
  obtain rfl : wiL s ua most s.hosts.length = r := by
    rw [← HR.out]
    unfold witI
    rw [if_pos ⟨HR0.out, ixB_iff.2 hab⟩]
    rfl
  have hnh := (siteOk_iff.1 HR0.out).nhosts.2
  have HOL := Lib.hid (fun (X : World) (hX : Below W.heap.size W X) => c_ofLinks p s HR0.out X (HA.out X hX))
  unfold siV at HOL
  clear hab
  obtain ⟨f0, f1, f2, f3, f4, f5, f6⟩ := HF.out v153 HKv153.out
  go_wp2_with (fail)
  clear f0 f1 f2 f3 f4 f5 f6
  go_at_call 132
  refine (HOL.out v153 HKv153.out).mono ?_
  rintro e v304 ⟨rfl, bb⟩
  have HKv304 := Lib.hid (below_join HKv153.out bb HKv153.out.size)
  clear bb
  go_wp2_with (fail)
  go_at_call 131
  refine (c_waysS HR0.out v304).mono ?_
  rintro e v305 ⟨rfl, bb⟩
  have HKv305 := Lib.hid (below_join HKv304.out bb HKv304.out.size)
  clear bb
  obtain ⟨X306, hX306⟩ : ∃ X, X = v305.alloc (.cells (matA (wS s)) 159) := ⟨_, rfl⟩
  have b306 : Below v305.heap.size v305 X306 := by subst hX306; exact (Below.refl _ _).alloc (Nat.le_refl _) _
  have HKX306 := Lib.hid (below_join HKv305.out b306 HKv305.out.size)
  have MXX306 := Lib.hid (show MxAt X306 v305.heap.size (wS s) by subst hX306; exact MxAt.new _ _)
  clear b306
  obtain ⟨f0, f1, f2, f3, f4, f5, f6⟩ := HF.out X306 HKX306.out
  go_wp2_with (refine st_mx rfl rfl (.tmp 7) (.tmp 25) rfl rfl rfl (MxAt.new _ _) ?_; rw [World.setRow_alloc_new, ← hX306]; clear hX306 hzm)
  clear f0 f1 f2 f3 f4 f5 f6
  obtain ⟨Nm, hNm⟩ : ∃ n, v305.heap.size = n := ⟨_, rfl⟩
  have MXN := MXX306
  rw [hNm] at MXN ⊢
  clear hNm
  have HC1 := Lib.hid (fun (k : Nat) (hk : k < s.hosts.length) (r : Bool) (hr : wiF s ua most k = r) (Y : World) (hY : Below X306.heap.size X306 Y) => c_within1 B Nm (B + 1) (B + 1 + 1) p s HR0.out ua k hua hk most Y (HX.out Y (below_join HKX306.out hY HKX306.out.size)) (HA.out Y (below_join HKX306.out hY HKX306.out.size)) (MXN.out.on hY (Nat.le_refl _)) (HM0.out Y (below_join HKX306.out hY HKX306.out.size)) (HM1.out Y (below_join HKX306.out hY HKX306.out.size)) r hr)
  obtain ⟨i1, hi1, hz1, hz2, hz3⟩ := info_parts int_info
  go_loopw [9, 30] (fun v i wr => ∃ k : Nat, k ≤ s.hosts.length ∧ i = .int .i64 (k : Int) ∧ Hid (Below X306.heap.size X306 wr) ∧ Hid (wr.ownsRow X306.heap.size 3 1 v (nats (wiL s ua most k)).length (ints (nats (wiL s ua most k))))) (fun _ i _ => s.hosts.length - (intOf i).toNat)
  case atStart => exact ⟨0, Nat.zero_le _, rfl, Lib.hid (Below.refl _ _), Lib.hid (World.ownsRow_nil _ _ _ _)⟩
  case round =>
    obtain ⟨k, hk, rfl, hB, ho⟩ := hrel
    have hki : ((k : Nat) : Int).toNat = k := by omega
    by_cases hlt : k < s.hosts.length
    · have hkl : (k : Int) < (s.hosts.length : Int) := by omega
      have hln : (nats (wiL s ua most k)).length ≤ 16 := by rw [nats_len]; have := wiL_len s ua most k; omega
      obtain ⟨nn, hnn⟩ : ∃ m, m = (nats (wiL s ua most k)).length := ⟨_, rfl⟩
      rw [← hnn] at ho hln
      have HNN := Lib.hid hnn
      obtain ⟨fb, hfb⟩ : ∃ r, wiF s ua most k = r := ⟨_, rfl⟩
      have HFB := Lib.hid hfb
      have HC2 := Lib.hid (HC1.out k hlt fb hfb wr hB.out)
      obtain ⟨As, cs, rfl⟩ := own_shape ho.out
      have hz3' := hB.out.size
      clear hnn hfb
      go_wp2_with (fail)
      go_at_call 133
      refine HC2.out.mono ?_
      rintro e wz ⟨rfl, bz⟩
      have HBz := Lib.hid (below_join hB.out bz hB.out.size)
      have HOz := Lib.hid (own_on ho.out bz (Nat.le_refl _))
      have hz4 := bz.size
      clear bz
      cases fb
      · have HO := Lib.hid (show wz.ownsRow X306.heap.size 3 1 (.slice As nn cs) (nats (wiL s ua most (k + 1))).length (ints (nats (wiL s ua most (k + 1)))) by
          rw [wiL_succ, HFB.out]
          simp only [Bool.false_eq_true, if_false, List.append_nil]
          rw [← HNN.out]; exact HOz.out)
        go_wp2_with (fail)
        go_roundw
        case rel => exact ⟨k + 1, by omega, by go_num, HBz, HO⟩
        case measure => simp only [intOf]; omega
      · go_wp2_with (at_builtin; refine wpList_append_lies _ rfl _ _ 91 rfl X306.heap.size 3 i1 (.int .i64 0) 1 8 Tryz.underlying91 hi1 hz1 hz2 hz3 rfl (by decide) (.slice As nn cs) nn _ rfl (HOz.out.alloc _) ⟨wz.heap.size, 0, none⟩ 1 1 [.int .i64 (k : Int)] rfl rfl (World.news_of_block (heap_alloc_new _ _)) (by simp [Value.oneCell']) (by decide) (by unfold maxLen; omega) (by omega) (by simp; omega) (wz.heap.size + 1) (by simp) ?_; intro g4 cap4 Z hown hgrow _ _; have HBZ := Lib.hid ((HBz.out.alloc HBz.out.size _).grown hgrow (by simp; omega) (fun k hk => (ownsRow_lt HOz.out hk).1)); have HOZ := Lib.hid hown; clear hown hgrow)
        have HO := Lib.hid (show Z.ownsRow X306.heap.size 3 1 (.slice (some ⟨g4, 0, none⟩) (nn + 1) cap4) (nats (wiL s ua most (k + 1))).length (ints (nats (wiL s ua most (k + 1)))) by
          rw [wiL_succ, HFB.out]
          simp only [if_true]
          rw [nats_snoc, List.length_append, List.length_singleton, ← HNN.out, ints_snoc]
          exact HOZ.out)
        go_roundw
        case rel => exact ⟨k + 1, by omega, by go_num, HBZ, HO⟩
        case measure => simp only [intOf]; omega
    · obtain rfl : k = s.hosts.length := by omega
      go_wp2_with (fail)
      go_ret
      exact ⟨_, rfl, own_mono ho.out (Nat.le_trans hle HKX306.out.size), below_join HB.out (below_join HKX306.out hB.out HKX306.out.size) hle⟩
end Go.Proofs.YtbbadnlaelgmlaaGreat
