/-
  PLAIN. A net and a list of numbers (stage 5): no program is named.
-/
import Derived.Test.YtglpaihadongkaaAI
namespace Go.Proofs.Ytglpaihadongkaa
set_option linter.unusedSimpArgs false
set_option linter.unusedVariables false

def zipX (l : List (Int × Int × Int)) (xs : List Int) : List Ar := List.zipWith (fun a x => { arOf a with x := x }) l xs
theorem zipX_snoc {l : List (Int × Int × Int)} {xs : List Int} {k : Nat} {a : Int × Int × Int} {x : Int} (h1 : l[k]? = some a) (h2 : xs[k]? = some x) : zipX (l.take (k + 1)) (xs.take (k + 1)) = zipX (l.take k) (xs.take k) ++ [{ arOf a with x := x }] := by
  obtain ⟨g1, e1⟩ := List.getElem?_eq_some_iff.1 h1
  obtain ⟨g2, e2⟩ := List.getElem?_eq_some_iff.1 h2
  unfold zipX
  rw [List.take_succ_eq_append_getElem g1, List.take_succ_eq_append_getElem g2, List.zipWith_append (by rw [List.length_take, List.length_take]; omega), e1, e2]
  rfl
theorem gain_snoc (l : List Ar) (a : Ar) (n : Nat) : gain (l ++ [a]) n = gain l n + ((if a.u = n then a.x else 0) - (if a.v = n then a.x else 0)) := by
  unfold gain
  rw [List.map_append, List.sum_append]; simp
def gainsL (N : Nat) (l : List Ar) : List Int := (List.range N).map (gain l)
theorem gainsL_len (N : Nat) (l : List Ar) : (gainsL N l).length = N := by simp [gainsL]
theorem gainsL_get {N n : Nat} (l : List Ar) (h : n < N) : (gainsL N l)[n]? = some (gain l n) := by simp [gainsL, h]
theorem gainsL_nil (N : Nat) : gainsL N [] = List.replicate N 0 := by
  unfold gainsL
  apply List.ext_getElem?
  intro i
  rw [List.getElem?_replicate, List.getElem?_map]
  by_cases h : i < N
  · simp [h, gain]
  · simp [h]
theorem gainsL_snoc {N : Nat} (l : List Ar) (a : Ar) (hu : a.u < N) (hv : a.v < N) (hne : a.u ≠ a.v) : gainsL N (l ++ [a]) = ((gainsL N l).set a.u (gain l a.u + a.x)).set a.v (gain l a.v - a.x) := by
  apply List.ext_getElem?
  intro n
  rw [List.getElem?_set, List.getElem?_set, List.length_set, gainsL_len]
  by_cases h : n < N
  · rw [gainsL_get _ h, gainsL_get _ h, gain_snoc]
    by_cases e2 : a.v = n
    · subst e2
      rw [if_neg hne, if_pos rfl, if_pos rfl, if_pos hv]
      congr 1; omega
    · by_cases e1 : a.u = n
      · subst e1
        rw [if_pos rfl, if_neg e2, if_neg e2, if_pos rfl, if_pos hu]
        congr 1; omega
      · rw [if_neg e1, if_neg e2, if_neg e2, if_neg e1]
        congr 1; omega
  · rw [List.getElem?_eq_none (by rw [gainsL_len]; omega), List.getElem?_eq_none (by rw [gainsL_len]; omega)]
    have e2 : ¬ a.v = n := by omega
    have e1 : ¬ a.u = n := by omega
    simp [e1, e2, gainsL, h]
theorem gain_bound {M : Int} (h0 : 0 ≤ M) : ∀ (l : List Ar), (∀ a ∈ l, 0 ≤ a.x ∧ a.x ≤ M) → ∀ n, -(M * (l.length : Int)) ≤ gain l n ∧ gain l n ≤ M * (l.length : Int)
  | [], _, n => by simp [gain]
  | a :: l, h, n => by
    have h1 := h a (by simp)
    have h2 := gain_bound h0 l (fun b hb => h b (List.mem_cons_of_mem _ hb)) n
    rw [gain_cons, List.length_cons, show ((l.length + 1 : Nat) : Int) = (l.length : Int) + 1 by omega, Int.mul_add]
    by_cases e1 : a.u = n <;> by_cases e2 : a.v = n <;> simp [e1, e2] <;> omega
def fitAt (l : List (Int × Int × Int)) (xs : List Int) (i : Nat) : Bool := !decide (xs.getD i 0 < 0) && !decide ((l.getD i (0, 0, 0)).2.2 < xs.getD i 0)
def fitB (l : List (Int × Int × Int)) (xs : List Int) : Bool := decide (xs.length = l.length) && (List.range l.length).all (fitAt l xs)
def evenAt (l : List Ar) (s t : Int) (n : Nat) : Bool := gain l n == 0 || ((n : Int) == s || (n : Int) == t)
theorem fitB_iff {l : List (Int × Int × Int)} {xs : List Int} : fitB l xs = true ↔ xs.length = l.length ∧ ∀ i, i < l.length → 0 ≤ xs.getD i 0 ∧ xs.getD i 0 ≤ (l.getD i (0, 0, 0)).2.2 := by
  unfold fitB fitAt
  rw [Bool.and_eq_true, decide_eq_true_iff, List.all_eq_true]
  refine and_congr_right fun _ => ⟨fun h i hi => ?_, fun h i hi => ?_⟩
  · have := h i (List.mem_range.2 hi)
    simp at this ⊢
    omega
  · have := h i (List.mem_range.1 hi)
    simp at this ⊢
    omega
end Go.Proofs.Ytglpaihadongkaa
