/-
  PLAIN. Inputs that are nowhere less (stage 6).
-/
import Derived.Test.YtpmbeejhjoeliaaBK
namespace Go.Proofs.Ytpmbeejhjoeliaa
set_option maxRecDepth 100000

/-- A list with another added to its beginning. -/
def addL : List Int → List Int → List Int
  | x :: l, a :: m => (x + a) :: addL l m
  | l, _ => l
theorem addL_nil (l : List Int) : addL l [] = l := by cases l <;> rfl
theorem addL_len : ∀ (l m : List Int), (addL l m).length = l.length := by
  intro l
  induction l with
  | nil => intro m; cases m <;> rfl
  | cons x l ih => intro m; cases m with
    | nil => rfl
    | cons a m => show (addL l m).length + 1 = l.length + 1; rw [ih]
theorem addL_get : ∀ (l m : List Int) (t : Nat) (x : Int), l[t]? = some x → (addL l m)[t]? = some (x + (m[t]?).getD 0) := by
  intro l
  induction l with
  | nil => intro m t x h; simp at h
  | cons y l ih =>
    intro m t x h
    cases m with
    | nil => rw [addL_nil, h]; simp
    | cons a m =>
      cases t with
      | zero => simp at h; subst h; rfl
      | succ t => exact ih m t x (by simpa using h)
theorem addL_none (l m : List Int) (t : Nat) (h : l[t]? = none) : (addL l m)[t]? = none := by
  rw [List.getElem?_eq_none_iff] at h ⊢
  rw [addL_len]; exact h
theorem addL_here {l m : List Int} {t : Nat} {x : Int} (h : l[t]? = some x) : (addL l (m.take t))[t]? = some x := by
  rw [addL_get _ _ _ _ h, List.getElem?_take_eq_none (Nat.le_refl t)]; simp
theorem addL_step {l m : List Int} {t : Nat} {x a : Int} (hx : l[t]? = some x) (ha : m[t]? = some a) : (addL l (m.take t)).set t (x + a) = addL l (m.take (t + 1)) := by
  refine List.ext_getElem? fun i => ?_
  have ht := (List.getElem?_eq_some_iff.1 hx).1
  by_cases hi : i = t
  · subst hi
    rw [List.getElem?_set_self (by rw [addL_len]; exact ht), addL_get _ _ _ _ hx, List.getElem?_take_of_lt (Nat.lt_succ_self i), ha]; rfl
  · rw [List.getElem?_set_ne (Ne.symm hi)]
    rcases h : l[i]? with _ | y
    · rw [addL_none _ _ _ h, addL_none _ _ _ h]
    · rw [addL_get _ _ _ _ h, addL_get _ _ _ _ h]
      by_cases hlt : i < t
      · rw [List.getElem?_take_of_lt hlt, List.getElem?_take_of_lt (by omega)]
      · rw [List.getElem?_take_eq_none (by omega), List.getElem?_take_eq_none (by omega)]
theorem addL_skip {l m : List Int} {t : Nat} (h : m.length ≤ t) : addL l (m.take t) = addL l (m.take (t + 1)) := by
  rw [List.take_of_length_le h, List.take_of_length_le (by omega)]
theorem addL_end (l m : List Int) : addL l (m.take l.length) = addL l m := by
  refine List.ext_getElem? fun i => ?_
  rcases h : l[i]? with _ | y
  · rw [addL_none _ _ _ h, addL_none _ _ _ h]
  · rw [addL_get _ _ _ _ h, addL_get _ _ _ _ h, List.getElem?_take_of_lt (List.getElem?_eq_some_iff.1 h).1]
theorem ldL_bnd {l : List Nat} (h : ∀ x ∈ l, x ≤ 255) : ∀ x ∈ ldL l, 0 ≤ x ∧ x ≤ 255 := by
  intro x hx
  unfold ldL at hx
  obtain ⟨y, hy, rfl⟩ := List.mem_map.1 hx
  have := h y (List.mem_of_mem_take hy)
  omega
theorem addL_ok {l m : List Int} (hl : liOk l = true) (h1 : ∀ x ∈ l, 0 ≤ x ∧ x ≤ 255) (h2 : ∀ x ∈ m, 0 ≤ x ∧ x ≤ 255) : liOk (addL l m) = true := by
  unfold liOk at hl ⊢
  rw [Bool.and_eq_true, decide_eq_true_eq, List.all_eq_true] at hl ⊢
  refine ⟨by rw [addL_len]; exact hl.1, fun x hx => ?_⟩
  obtain ⟨i, hi⟩ := List.getElem?_of_mem hx
  rcases h : l[i]? with _ | y
  · rw [addL_none _ _ _ h] at hi; simp at hi
  · rw [addL_get _ _ _ _ h] at hi
    have hy := h1 y (List.mem_of_getElem? h)
    rw [nmOk_iff]
    rcases h3 : m[i]? with _ | a
    · rw [h3] at hi; simp at hi; omega
    · rw [h3] at hi
      have ha := h2 a (List.mem_of_getElem? h3)
      simp at hi; omega
theorem giv_addL {l1 l2 m : List Int} (h2 : ∀ x ∈ m, 0 ≤ x ∧ x ≤ 255) (s t : Int) : giv [l1, l2] s t ≤ giv [addL l1 m, addL l2 m] s t := by
  unfold giv
  split
  · exact Int.le_refl _
  · have one : ∀ l : List Int, (l[t.toNat]?).getD 0 ≤ ((addL l m)[t.toNat]?).getD 0 := by
      intro l
      rcases h : l[t.toNat]? with _ | y
      · rw [addL_none _ _ _ h]; exact Int.le_refl _
      · rw [addL_get _ _ _ _ h]
        rcases h3 : m[t.toNat]? with _ | a
        · simp
        · have := h2 a (List.mem_of_getElem? h3); simp; omega
    rcases s.toNat with _ | _ | k
    · exact one l1
    · exact one l2
    · exact Int.le_refl _
theorem arr_addL {l1 l2 m : List Int} (h2 : ∀ x ∈ m, 0 ≤ x ∧ x ≤ 255) (t : Int) : ∀ (ps : List (Int × Int × Int)), ps.all ptOk = true → arr ps [l1, l2] t ≤ arr ps [addL l1 m, addL l2 m] t := by
  intro ps
  induction ps with
  | nil => intro _; exact Int.le_refl _
  | cons p ps ih =>
    intro hp
    rw [List.all_cons, Bool.and_eq_true] at hp
    have h := ih hp.2
    obtain ⟨-, -, h3, -, -, -⟩ := ptOk_iff.1 hp.1
    have hb : brg [l1, l2] t p ≤ brg [addL l1 m, addL l2 m] t p := Int.mul_le_mul_of_nonneg_left (giv_addL h2 _ _) h3
    have e : ∀ ins, arr (p :: ps) ins t = brg ins t p + arr ps ins t := fun ins => by unfold arr; rw [List.map_cons, List.sum_cons]
    rw [e, e]; omega
theorem amts_addL {l1 l2 m : List Int} (h2 : ∀ x ∈ m, 0 ≤ x ∧ x ≤ 255) {ps : List (Int × Int × Int)} (hp : ps.all ptOk = true) (N k i : Nat) (a a' : Int) (h : ((amts ps [l1, l2] N).take k)[i]? = some a) (h' : ((amts ps [addL l1 m, addL l2 m] N).take k)[i]? = some a') : a ≤ a' := by
  have e : ∀ ins x, ((amts ps ins N).take k)[i]? = some x → x = arr ps ins (i : Int) := by
    intro ins x hx
    rw [List.getElem?_take] at hx
    split at hx
    · unfold amts at hx
      rw [List.getElem?_map] at hx
      rcases h0 : (List.range N)[i]? with _ | y
      · rw [h0] at hx; simp at hx
      · rw [h0] at hx
        have := (List.getElem?_eq_some_iff.1 h0).2
        simp at this hx
        rw [← hx, ← this]
    · simp at hx
  rw [e _ _ h, e _ _ h']
  exact arr_addL h2 _ ps hp
end Go.Proofs.Ytpmbeejhjoeliaa
