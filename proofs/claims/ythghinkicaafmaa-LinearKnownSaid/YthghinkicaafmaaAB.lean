/-
  PLAIN. What arrives (stage 6): no program is named.
-/
import Derived.Test.YthghinkicaafmaaAA
namespace Go.Proofs.Ythghinkicaafmaa

/-- What a source gives in a tick (s is not negative where a line is valid). -/
def giv (ins : List (List Int)) (s t : Int) : Int := if t < 0 then 0 else ((ins[s.toNat]?.bind fun l => l[t.toNat]?)).getD 0
/-- What a part (source, times, delay) brings in a tick. -/
def brg (ins : List (List Int)) (t : Int) (p : Int × Int × Int) : Int := p.2.1 * giv ins p.1 (t - p.2.2)
/-- What arrives in a tick. -/
def arr (ps : List (Int × Int × Int)) (ins : List (List Int)) (t : Int) : Int := (ps.map (brg ins t)).sum
/-- What arrives in each of n ticks. -/
def amts (ps : List (Int × Int × Int)) (ins : List (List Int)) (n : Nat) : List Int := (List.range n).map fun t : Nat => arr ps ins (t : Int)
def ptOk (p : Int × Int × Int) : Bool := (decide (0 ≤ p.1) && decide (p.1 ≤ 15)) && ((decide (0 ≤ p.2.1) && decide (p.2.1 ≤ 1000)) && (decide (0 ≤ p.2.2) && decide (p.2.2 ≤ 1000)))
def lnOk (C : Int) (ps : List (Int × Int × Int)) : Bool := (decide (0 ≤ C) && decide (C ≤ 100000000)) && (decide (ps.length ≤ 16) && ps.all ptOk)
def nmOk (x : Int) : Bool := decide (0 ≤ x) && decide (x ≤ 100000000)
def liOk (l : List Int) : Bool := decide (l.length ≤ 1000) && l.all nmOk
def inOk (ins : List (List Int)) : Bool := decide (ins.length ≤ 16) && ins.all liOk
/-- The error of a line, a start, inputs and a tick. -/
def fltL (C : Int) (ps : List (Int × Int × Int)) (s : Int) (ins : List (List Int)) (n : Int) : Int :=
  if lnOk C ps = true then (if (inOk ins && (decide (0 ≤ n) && decide (n ≤ 1000)) && (decide (0 ≤ s) && decide (s ≤ 100000000))) = true then 0 else 2) else 1
theorem ptOk_iff {p : Int × Int × Int} : ptOk p = true ↔ 0 ≤ p.1 ∧ p.1 ≤ 15 ∧ 0 ≤ p.2.1 ∧ p.2.1 ≤ 1000 ∧ 0 ≤ p.2.2 ∧ p.2.2 ≤ 1000 := by
  simp [ptOk, and_assoc]
theorem nmOk_iff {x : Int} : nmOk x = true ↔ 0 ≤ x ∧ x ≤ 100000000 := by simp [nmOk]
theorem giv_bounds {ins : List (List Int)} (h : inOk ins = true) (s t : Int) : 0 ≤ giv ins s t ∧ giv ins s t ≤ 100000000 := by
  unfold giv
  split
  · omega
  · rcases h1 : ins[s.toNat]? with _ | l
    · exact ⟨Int.le_refl _, by show (0 : Int) ≤ _; omega⟩
    · rcases h2 : l[t.toNat]? with _ | x
      · simp [h2]
      · have hl : liOk l = true := by
          unfold inOk at h
          rw [Bool.and_eq_true, List.all_eq_true] at h
          exact h.2 l (List.mem_of_getElem? h1)
        unfold liOk at hl
        rw [Bool.and_eq_true, List.all_eq_true] at hl
        have := nmOk_iff.1 (hl.2 x (List.mem_of_getElem? h2))
        simp [h2]
        exact this
theorem brg_bounds {ins : List (List Int)} (h : inOk ins = true) {p : Int × Int × Int} (hp : ptOk p = true) (t : Int) : 0 ≤ brg ins t p ∧ brg ins t p ≤ 100000000000 := by
  obtain ⟨-, -, h3, h4, -, -⟩ := ptOk_iff.1 hp
  obtain ⟨g1, g2⟩ := giv_bounds h p.1 (t - p.2.2)
  unfold brg
  refine ⟨Int.mul_nonneg h3 g1, ?_⟩
  have h5 := Int.mul_le_mul h4 g2 g1 (by omega : (0 : Int) ≤ 1000)
  omega
theorem arr_bounds {ins : List (List Int)} (h : inOk ins = true) : ∀ {ps : List (Int × Int × Int)}, ps.all ptOk = true → ∀ t : Int, 0 ≤ arr ps ins t ∧ arr ps ins t ≤ 100000000000 * (ps.length : Int) := by
  intro ps
  induction ps with
  | nil => intro _ t; exact ⟨Int.le_refl _, by show (0 : Int) ≤ _; simp⟩
  | cons p ps ih =>
    intro hp t
    rw [List.all_cons, Bool.and_eq_true] at hp
    obtain ⟨a1, a2⟩ := ih hp.2 t
    obtain ⟨b1, b2⟩ := brg_bounds h hp.1 t
    have e : arr (p :: ps) ins t = brg ins t p + arr ps ins t := by unfold arr; rw [List.map_cons, List.sum_cons]
    rw [e, List.length_cons]
    constructor <;> omega
theorem lvE_bound {C M : Int} (hC : 0 ≤ C) : ∀ (l : List Int) (s : Int), 0 ≤ s → (∀ a ∈ l, 0 ≤ a ∧ a ≤ M) → lvE C s l ≤ s + M * (l.length : Int) := by
  intro l
  induction l with
  | nil => intro s hs _; show s ≤ s + M * 0; omega
  | cons a l ih =>
    intro s hs h
    have h1 := h a (by simp)
    have h2 := ih (lv1 C s a) (by unfold lv1; omega) (fun x hx => h x (by simp [hx]))
    have h3 : lv1 C s a ≤ s + M := by unfold lv1; omega
    show lvE C (lv1 C s a) l ≤ _
    rw [List.length_cons, show ((l.length + 1 : Nat) : Int) = (l.length : Int) + 1 by omega, Int.mul_add, Int.mul_one]
    omega
/-- Greater delays: the same, later. -/
def shf (k : Int) (p : Int × Int × Int) : Int × Int × Int := (p.1, p.2.1, p.2.2 + k)
theorem arr_shf (ps : List (Int × Int × Int)) (ins : List (List Int)) (k t : Int) : arr (ps.map (shf k)) ins t = arr ps ins (t - k) := by
  unfold arr
  rw [List.map_map]
  refine congrArg List.sum (List.map_congr_left fun p _ => ?_)
  show p.2.1 * giv ins p.1 (t - (p.2.2 + k)) = p.2.1 * giv ins p.1 (t - k - p.2.2)
  rw [show t - (p.2.2 + k) = t - k - p.2.2 by omega]
theorem arr_early {ps : List (Int × Int × Int)} (h : ps.all ptOk = true) (ins : List (List Int)) {t : Int} (ht : t < 0) : arr ps ins t = 0 := by
  induction ps with
  | nil => rfl
  | cons p ps ih =>
    rw [List.all_cons, Bool.and_eq_true] at h
    have e : arr (p :: ps) ins t = brg ins t p + arr ps ins t := by unfold arr; rw [List.map_cons, List.sum_cons]
    have := (ptOk_iff.1 h.1).2.2.2.2.1
    rw [e, ih h.2]
    unfold brg giv
    rw [if_pos (by omega), Int.mul_zero]; rfl
theorem amts_shf {ps : List (Int × Int × Int)} (h : ps.all ptOk = true) (ins : List (List Int)) (k n : Nat) : amts (ps.map (shf (k : Int))) ins (k + n) = List.replicate k 0 ++ amts ps ins n := by
  apply List.ext_getElem?
  intro i
  unfold amts
  rw [List.getElem?_map]
  rcases Nat.lt_or_ge i k with hi | hi
  · rw [List.getElem?_append_left (by simpa using hi), List.getElem?_range (by omega), List.getElem?_replicate, if_pos hi]
    show some (arr _ ins (i : Int)) = _
    rw [arr_shf, arr_early h ins (by omega)]
  · rw [List.getElem?_append_right (by simpa using hi), List.length_replicate, List.getElem?_map]
    rcases Nat.lt_or_ge (i - k) n with hj | hj
    · rw [List.getElem?_range (by omega), List.getElem?_range hj]
      show some (arr _ ins (i : Int)) = some (arr _ ins ((i - k : Nat) : Int))
      rw [arr_shf, show (i : Int) - (k : Int) = ((i - k : Nat) : Int) by omega]
    · rw [List.getElem?_eq_none (by simp; omega), List.getElem?_eq_none (by simpa using hj)]; rfl
theorem amts_len (ps : List (Int × Int × Int)) (ins : List (List Int)) (n : Nat) : (amts ps ins n).length = n := by simp [amts]
theorem amts_get (ps : List (Int × Int × Int)) (ins : List (List Int)) {n t : Nat} (h : t < n) : (amts ps ins n)[t]? = some (arr ps ins (t : Int)) := by
  unfold amts
  rw [List.getElem?_map, List.getElem?_range h]; rfl
end Go.Proofs.Ythghinkicaafmaa
