/-
  PLAIN. The greatest level, the first one above a limit, the least Carry (stage 6): no program is named.
-/
import Derived.Test.YthghinkicaafmaaAB
namespace Go.Proofs.Ythghinkicaafmaa

/-- The first place and the greatest number, from a place on and with what was found before. -/
def pkGo : Int → Int × Int → List Int → Int × Int
  | _, b, [] => b
  | i, b, x :: l => pkGo (i + 1) (if b.2 < x then (i, x) else b) l
theorem pkGo_snoc (l : List Int) (x : Int) : ∀ (i : Int) (b : Int × Int), pkGo i b (l ++ [x]) = if (pkGo i b l).2 < x then (i + (l.length : Int), x) else pkGo i b l := by
  induction l with
  | nil => intro i b; show (if b.2 < x then (i, x) else b) = if b.2 < x then (i + (0 : Int), x) else b; rw [Int.add_zero]
  | cons y l ih =>
    intro i b
    show pkGo (i + 1) _ (l ++ [x]) = _
    rw [ih, List.length_cons, show i + 1 + (l.length : Int) = i + ((l.length + 1 : Nat) : Int) by omega]
    rfl
theorem pkGo_start {x : Int} (hx : 0 ≤ x) (l : List Int) : pkGo 0 (0, 0) (x :: l) = pkGo 1 (0, x) l := by
  show pkGo (0 + 1) (if (0 : Int) < x then (0, x) else (0, 0)) l = _
  split
  · rfl
  · obtain rfl : x = 0 := by omega
    rfl
theorem pkGo_le (lim : Int) (l : List Int) : ∀ (i : Int) (b : Int × Int), (pkGo i b l).2 ≤ lim ↔ b.2 ≤ lim ∧ ∀ x ∈ l, x ≤ lim := by
  induction l with
  | nil => intro i b; exact ⟨fun h => ⟨h, by simp⟩, fun h => h.1⟩
  | cons y l ih =>
    intro i b
    show (pkGo (i + 1) _ l).2 ≤ lim ↔ _
    rw [ih]
    constructor
    · rintro ⟨h1, h2⟩
      split at h1
      · have h1' : y ≤ lim := h1
        exact ⟨by omega, fun x hx => by rcases List.mem_cons.1 hx with rfl | hx; exact h1'; exact h2 x hx⟩
      · exact ⟨h1, fun x hx => by rcases List.mem_cons.1 hx with rfl | hx; omega; exact h2 x hx⟩
    · rintro ⟨h1, h2⟩
      refine ⟨?_, fun x hx => h2 x (List.mem_cons_of_mem _ hx)⟩
      split
      · exact h2 y (by simp)
      · exact h1
/-- The first place with more than a limit, or -1. -/
def frs (lim : Int) (l : List Int) : Int := match l.findIdx? (fun x => decide (lim < x)) with | none => -1 | some i => (i : Int)
theorem frs_none {lim : Int} {l : List Int} : frs lim l = -1 ↔ ∀ x ∈ l, x ≤ lim := by
  unfold frs
  rcases h : l.findIdx? (fun x => decide (lim < x)) with _ | i
  · simp only [true_iff]
    rw [List.findIdx?_eq_none_iff] at h
    intro x hx
    have := h x hx
    simp at this
    exact this
  · constructor
    · intro h'; have h'' : (i : Int) = -1 := h'; omega
    · intro h'
      obtain ⟨hi, hp, -⟩ := List.findIdx?_eq_some_iff_getElem.1 h
      have := h' l[i] (List.getElem_mem hi)
      simp at hp
      omega
theorem frs_at {lim : Int} {l : List Int} {i : Nat} {x : Int} (hx : l[i]? = some x) (h : lim < x) (hb : ∀ (j : Nat) (y : Int), j < i → l[j]? = some y → y ≤ lim) : frs lim l = (i : Int) := by
  obtain ⟨hi, e⟩ := List.getElem?_eq_some_iff.1 hx
  have : l.findIdx? (fun x => decide (lim < x)) = some i := by
    rw [List.findIdx?_eq_some_iff_getElem]
    refine ⟨hi, by rw [e]; simpa using h, fun j hj => ?_⟩
    have := hb j l[j] hj (List.getElem?_eq_getElem _)
    simp only [decide_eq_true_eq]
    omega
  unfold frs
  rw [this]
theorem lvs_all {C s lim : Int} {l : List Int} : (∀ x ∈ s :: lvs C s l, x ≤ lim) ↔ ∀ m : Nat, m ≤ l.length → lvE C s (l.take m) ≤ lim := by
  constructor
  · intro h m hm
    exact h _ (List.mem_of_getElem? (lvs_get C l s m hm))
  · intro h x hx
    obtain ⟨i, hi⟩ := List.getElem?_of_mem hx
    have hlt : i < (s :: lvs C s l).length := (List.getElem?_eq_some_iff.1 hi).1
    rw [List.length_cons, lvs_len] at hlt
    rw [lvs_get C l s i (by omega)] at hi
    injection hi with hi
    rw [← hi]
    exact h i (by omega)
/-- What halving finds is what the closed form says. -/
theorem least_unique {P : Int → Prop} {c r N : Int} (hc : 0 ≤ c) (h : ∀ C, 0 ≤ C → (c ≤ C ↔ P C)) (hr : 0 ≤ r ∧ r ≤ N) (h1 : ∀ C, 0 ≤ C → C < r → ¬ P C) (h2 : r < N → P r) : (c < N → r = c) ∧ (N ≤ c → r = N) := by
  constructor
  · intro hcN
    rcases Int.lt_or_le r c with hlt | hge
    · have := (h r hr.1).2 (h2 (by omega)); omega
    · rcases Int.lt_or_le c r with hlt | hge'
      · exact absurd ((h c hc).1 (Int.le_refl _)) (h1 c hc hlt)
      · omega
  · intro hN
    rcases Int.lt_or_le r N with hlt | hge
    · have := (h r hr.1).2 (h2 hlt); omega
    · omega
end Go.Proofs.Ythghinkicaafmaa
