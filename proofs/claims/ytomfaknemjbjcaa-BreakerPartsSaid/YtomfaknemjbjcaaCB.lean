/-
  DERIVED. Loads that are nowhere greater trip no sooner.
-/
import Derived.Test.YtomfaknemjbjcaaCA
namespace Go.Proofs.Ytomfaknemjbjcaa

theorem trp_mono {L S F : Int} (hS : S ≤ 1000000) : ∀ (l m : List Int) (h h' : Int), h' ≤ h → h ≤ S → m.length = l.length → (∀ (i : Nat) (x y : Int), m[i]? = some x → l[i]? = some y → x ≤ y) → ∀ c : Nat, trp L S F (h', false) m = some c → ∃ a : Nat, trp L S F (h, false) l = some a ∧ a ≤ c := by
  intro l
  induction l with
  | nil =>
    intro m h h' _ _ hl _ c hc
    have : m = [] := List.eq_nil_of_length_eq_zero (by simpa using hl)
    subst this
    simp [trp] at hc
  | cons w l ih =>
    intro m h h' hh hhS hl hle c hc
    match m, hl with
    | w' :: m, hl =>
      have hw : w' ≤ w := hle 0 w' w rfl rfl
      unfold trp at hc ⊢
      rw [nx_live] at hc ⊢
      by_cases ht : (decide (F < w) || decide (S < max 0 (h + w - L))) = true
      · exact ⟨0, by rw [if_pos ht], Nat.zero_le _⟩
      · have ht' : ¬ (decide (F < w') || decide (S < max 0 (h' + w' - L))) = true := by
          simp only [Bool.or_eq_true, decide_eq_true_eq] at ht ⊢
          omega
        rw [if_neg ht'] at hc
        rw [if_neg ht]
        have e1 : (decide (F < w) || decide (S < max 0 (h + w - L))) = false := by simpa using ht
        have e2 : (decide (F < w') || decide (S < max 0 (h' + w' - L))) = false := by simpa using ht'
        rw [e1]
        rw [e2] at hc
        obtain ⟨c', hc', rfl⟩ := Option.map_eq_some_iff.1 hc
        simp only [Bool.or_eq_false_iff, decide_eq_false_iff_not] at e1 e2
        obtain ⟨a, ha, hac⟩ := ih m (min (max 0 (h + w - L)) 100000000) (min (max 0 (h' + w' - L)) 100000000) (by omega) (by omega) (by simpa using hl) (fun i x y h1 h2 => hle (i + 1) x y (by simpa using h1) (by simpa using h2)) c' hc'
        exact ⟨a + 1, by rw [ha]; rfl, by omega⟩
/-- What the law makes of its loads. -/
def lowL (l : List Int) (s : List Nat) : List Int := l.mapIdx fun i x => match s[i]? with
  | some d => max 0 (x - (d : Int))
  | none => x
theorem lowL_len (l : List Int) (s : List Nat) : (lowL l s).length = l.length := by simp [lowL]
theorem lowL_get (l : List Int) (s : List Nat) (i : Nat) (x : Int) (h : l[i]? = some x) : (lowL l s)[i]? = some (match s[i]? with | some d => max 0 (x - (d : Int)) | none => x) := by
  unfold lowL
  rw [List.getElem?_mapIdx, h]
  rfl
theorem lowL_le (l : List Int) (s : List Nat) (hl : ∀ x ∈ l, 0 ≤ x) (i : Nat) (x y : Int) (h1 : (lowL l s)[i]? = some x) (h2 : l[i]? = some y) : 0 ≤ x ∧ x ≤ y := by
  have hy := hl y (List.mem_of_getElem? h2)
  rw [lowL_get l s i y h2] at h1
  injection h1 with h1
  subst h1
  split
  · exact ⟨Int.le_max_left _ _, Int.max_le.2 ⟨hy, by omega⟩⟩
  · exact ⟨hy, Int.le_refl _⟩
/-- Between two rounds of the law's loop. -/
def midL (l : List Int) (s : List Nat) (k : Nat) : List Int := (lowL l s).take k ++ l.drop k
theorem midL_len (l : List Int) (s : List Nat) (k : Nat) (hk : k ≤ l.length) : (midL l s k).length = l.length := by
  unfold midL; rw [List.length_append, List.length_take, List.length_drop, lowL_len]; omega
theorem midL_get (l : List Int) (s : List Nat) (k : Nat) (hk : k < l.length) : (midL l s k)[k]? = l[k]? := by
  unfold midL
  rw [List.getElem?_append_right (by rw [List.length_take, lowL_len]; omega), List.length_take, lowL_len, Nat.min_eq_left (by omega), Nat.sub_self, List.getElem?_drop, Nat.add_zero]
theorem midL_succ (l : List Int) (s : List Nat) (k : Nat) (u : Int) (hk : k < l.length) (hu : (lowL l s)[k]? = some u) : (midL l s k).set k u = midL l s (k + 1) := by
  unfold midL
  rw [List.set_append_right _ _ (by rw [List.length_take, lowL_len]; omega), List.length_take, lowL_len, Nat.min_eq_left (by omega), Nat.sub_self, List.take_add_one, hu, List.drop_eq_getElem_cons hk, List.set_cons_zero, List.append_assoc]
  rfl
theorem midL_skip (l : List Int) (s : List Nat) (k : Nat) (x : Int) (hx : l[k]? = some x) (hs : s.length ≤ k) : midL l s k = midL l s (k + 1) := by
  have hk := (List.getElem?_eq_some_iff.1 hx).1
  have hu : (lowL l s)[k]? = some x := by rw [lowL_get l s k x hx, List.getElem?_eq_none hs]
  rw [← midL_succ l s k x hk hu]
  apply List.ext_getElem?
  intro i
  rw [List.getElem?_set]
  by_cases h : k = i
  · subst h
    rw [if_pos rfl, if_pos (by rw [midL_len l s k (by omega)]; exact hk), midL_get l s k hk, hx]
  · rw [if_neg h]
theorem midL_end (l : List Int) (s : List Nat) : midL l s l.length = lowL l s := by
  unfold midL
  rw [List.drop_of_length_le (Nat.le_refl _), List.append_nil, List.take_of_length_le (by rw [lowL_len]; exact Nat.le_refl _)]
theorem ints_set (l : List Int) (k : Nat) (u : Int) : (ints l).set k (.int .i64 u) = ints (l.set k u) := by
  unfold ints; rw [List.map_set]
theorem ldL_mem {l : List Nat} (hl : ∀ x ∈ l, x ≤ 255) : ∀ x ∈ ldL l, 0 ≤ x ∧ x ≤ 255 := by
  intro x hx
  obtain ⟨y, hy, rfl⟩ := List.mem_map.1 hx
  have := hl y (List.mem_of_mem_take hy)
  omega
theorem lsOk_of {l : List Int} (h1 : l.length ≤ 1000) (h2 : ∀ x ∈ l, 0 ≤ x ∧ x ≤ 255) : lsOk l = true := by
  unfold lsOk
  rw [decide_eq_true h1, Bool.true_and, List.all_eq_true]
  intro x hx
  have := h2 x hx
  exact wOk_iff.2 (by omega)
theorem fltH_ok {a b c h : Int} {l : List Int} (h1 : 0 ≤ a ∧ a ≤ 255) (h2 : 0 ≤ b ∧ b ≤ 255) (h3 : 0 ≤ c ∧ c ≤ 255) (h4 : 0 ≤ h ∧ h ≤ b) (h5 : lsOk l = true) : fltH a b (a + c) h l = 0 := by
  unfold fltH
  rw [if_pos (bOk_iff.2 (by omega)), h5, decide_eq_true h4.1, decide_eq_true h4.2]
  rfl
end Go.Proofs.Ytomfaknemjbjcaa
