/-
  DERIVED. Several texts in one.
-/
import Derived.Test.YtpokpgnclohiiaaProg
import Derived.WalkKit
import Derived.ProofKit
import Derived.Below
import Derived.BigQuiet
import Derived.Laws.Rows
import Derived.Lib.Hide
import Derived.Deep.RegionHeld3
import Derived.RangeFuncNested
import Derived.RangeFuncBound
import Derived.RangeFuncCalls
import Derived.RangeFuncLeaves
import Derived.RangeFuncBox
import Derived.Shelf.Abstract
import Derived.Shelf.RegionOpen
import Derived.OwnWalkIn
import Derived.TacticsInMore
import Derived.LoopNIn
import Derived.LoopIn
import Derived.Deep.DrawnRows
import Derived.StillTailTactics
set_option linter.unusedVariables false
set_option linter.unusedSimpArgs false

namespace Go.Proofs.Ytpokpgnclohiiaa.v6

/-- The level after one tick. -/
def lv1 (C s a : Int) : Int := max 0 (s + a - C)
/-- The levels behind a start, by what arrives. -/
def lvs (C s : Int) : List Int → List Int
  | [] => []
  | a :: l => lv1 C s a :: lvs C (lv1 C s a) l
/-- The last level. -/
def lvE (C s : Int) (l : List Int) : Int := l.foldl (lv1 C) s
theorem lvs_len (C : Int) (l : List Int) : ∀ s, (lvs C s l).length = l.length := by
  induction l with
  | nil => intro s; rfl
  | cons a l ih => intro s; simp [lvs, ih]
theorem lvs_get (C : Int) (l : List Int) : ∀ (s : Int) (i : Nat), i ≤ l.length → (s :: lvs C s l)[i]? = some (lvE C s (l.take i)) := by
  induction l with
  | nil => intro s i hi; obtain rfl : i = 0 := by simpa using hi
           rfl
  | cons a l ih =>
    intro s i hi
    cases i with
    | zero => rfl
    | succ i => exact ih (lv1 C s a) i (by simpa using hi)
theorem lvE_snoc (C s : Int) (l : List Int) (a : Int) : lvE C s (l ++ [a]) = lv1 C (lvE C s l) a := by
  unfold lvE; rw [List.foldl_append]; rfl
theorem lv1_mono {C C' s s' a a' : Int} (hC : C' ≤ C) (hs : s ≤ s') (ha : a ≤ a') : lv1 C s a ≤ lv1 C' s' a' := by unfold lv1; omega
theorem lvE_mono {C C' : Int} (hC : C' ≤ C) : ∀ (l l' : List Int) (s s' : Int), s ≤ s' → l.length = l'.length → (∀ (i : Nat) (a a' : Int), l[i]? = some a → l'[i]? = some a' → a ≤ a') → lvE C s l ≤ lvE C' s' l' := by
  intro l
  induction l with
  | nil =>
    intro l' s s' hs hl _
    obtain rfl : l' = [] := List.eq_nil_of_length_eq_zero hl.symm
    exact hs
  | cons a l ih =>
    intro l' s s' hs hl h
    cases l' with
    | nil => simp at hl
    | cons a' l' =>
      refine ih l' _ _ (lv1_mono hC hs (h 0 a a' rfl rfl)) (by simpa using hl) (fun i x x' hx hx' => h (i + 1) x x' ?_ ?_)
      · simpa using hx
      · simpa using hx'
theorem lvE_nonneg {C s : Int} (hs : 0 ≤ s) (l : List Int) : 0 ≤ lvE C s l := by
  induction l generalizing s with
  | nil => exact hs
  | cons a l ih => exact ih (s := lv1 C s a) (by unfold lv1; omega)
end Go.Proofs.Ytpokpgnclohiiaa.v6

namespace Go.Proofs.Ytpokpgnclohiiaa.v6

/-- What a source gives in a tick (s is not negative where a line is valid). -/
def giv (ins : List (List Int)) (s t : Int) : Int := if t < 0 then 0 else ((ins[s.toNat]?.bind fun l => l[t.toNat]?)).getD 0
/-- What a part (source, times, delay) brings in a tick. -/
def brg (ins : List (List Int)) (t : Int) (p : Int × Int × Int) : Int := p.2.1 * giv ins p.1 (t - p.2.2)
/-- What arrives in a tick. -/
def arr (ps : List (Int × Int × Int)) (ins : List (List Int)) (t : Int) : Int := (ps.map (brg ins t)).sum
/-- What arrives in each of n ticks. -/
def amts (ps : List (Int × Int × Int)) (ins : List (List Int)) (n : Nat) : List Int := (List.range n).map fun t : Nat => arr ps ins (t : Int)
def ptOk (p : Int × Int × Int) : Bool := (decide (0 ≤ p.1) && decide (p.1 ≤ 15)) && ((decide (0 ≤ p.2.1) && decide (p.2.1 ≤ 1000)) && (decide (0 ≤ p.2.2) && decide (p.2.2 ≤ 1000)))
def lnOk (C : Int) (ps : List (Int × Int × Int)) : Bool := (decide (0 ≤ C) && decide (C ≤ 100000000)) && (decide (ps.length ≤ 16) && ps.all ptOk)
def nmOk (x : Int) : Bool := decide (0 ≤ x) && decide (x ≤ 100000000)
def liOk (l : List Int) : Bool := decide (l.length ≤ 1000) && l.all nmOk
def inOk (ins : List (List Int)) : Bool := decide (ins.length ≤ 16) && ins.all liOk
/-- The error of a line, a start, inputs and a tick. -/
def fltL (C : Int) (ps : List (Int × Int × Int)) (s : Int) (ins : List (List Int)) (n : Int) : Int :=
  if lnOk C ps = true then (if (inOk ins && (decide (0 ≤ n) && decide (n ≤ 1000)) && (decide (0 ≤ s) && decide (s ≤ 100000000))) = true then 0 else 2) else 1
theorem ptOk_iff {p : Int × Int × Int} : ptOk p = true ↔ 0 ≤ p.1 ∧ p.1 ≤ 15 ∧ 0 ≤ p.2.1 ∧ p.2.1 ≤ 1000 ∧ 0 ≤ p.2.2 ∧ p.2.2 ≤ 1000 := by
  simp [ptOk, and_assoc]
theorem nmOk_iff {x : Int} : nmOk x = true ↔ 0 ≤ x ∧ x ≤ 100000000 := by simp [nmOk]
theorem giv_bounds {ins : List (List Int)} (h : inOk ins = true) (s t : Int) : 0 ≤ giv ins s t ∧ giv ins s t ≤ 100000000 := by
  unfold giv
  split
  · omega
  · rcases h1 : ins[s.toNat]? with _ | l
    · exact ⟨Int.le_refl _, by show (0 : Int) ≤ _; omega⟩
    · rcases h2 : l[t.toNat]? with _ | x
      · simp [h2]
      · have hl : liOk l = true := by
          unfold inOk at h
          rw [Bool.and_eq_true, List.all_eq_true] at h
          exact h.2 l (List.mem_of_getElem? h1)
        unfold liOk at hl
        rw [Bool.and_eq_true, List.all_eq_true] at hl
        have := nmOk_iff.1 (hl.2 x (List.mem_of_getElem? h2))
        simp [h2]
        exact this
theorem brg_bounds {ins : List (List Int)} (h : inOk ins = true) {p : Int × Int × Int} (hp : ptOk p = true) (t : Int) : 0 ≤ brg ins t p ∧ brg ins t p ≤ 100000000000 := by
  obtain ⟨-, -, h3, h4, -, -⟩ := ptOk_iff.1 hp
  obtain ⟨g1, g2⟩ := giv_bounds h p.1 (t - p.2.2)
  unfold brg
  refine ⟨Int.mul_nonneg h3 g1, ?_⟩
  have h5 := Int.mul_le_mul h4 g2 g1 (by omega : (0 : Int) ≤ 1000)
  omega
theorem arr_bounds {ins : List (List Int)} (h : inOk ins = true) : ∀ {ps : List (Int × Int × Int)}, ps.all ptOk = true → ∀ t : Int, 0 ≤ arr ps ins t ∧ arr ps ins t ≤ 100000000000 * (ps.length : Int) := by
  intro ps
  induction ps with
  | nil => intro _ t; exact ⟨Int.le_refl _, by show (0 : Int) ≤ _; simp⟩
  | cons p ps ih =>
    intro hp t
    rw [List.all_cons, Bool.and_eq_true] at hp
    obtain ⟨a1, a2⟩ := ih hp.2 t
    obtain ⟨b1, b2⟩ := brg_bounds h hp.1 t
    have e : arr (p :: ps) ins t = brg ins t p + arr ps ins t := by unfold arr; rw [List.map_cons, List.sum_cons]
    rw [e, List.length_cons]
    constructor <;> omega
theorem lvE_bound {C M : Int} (hC : 0 ≤ C) : ∀ (l : List Int) (s : Int), 0 ≤ s → (∀ a ∈ l, 0 ≤ a ∧ a ≤ M) → lvE C s l ≤ s + M * (l.length : Int) := by
  intro l
  induction l with
  | nil => intro s hs _; show s ≤ s + M * 0; omega
  | cons a l ih =>
    intro s hs h
    have h1 := h a (by simp)
    have h2 := ih (lv1 C s a) (by unfold lv1; omega) (fun x hx => h x (by simp [hx]))
    have h3 : lv1 C s a ≤ s + M := by unfold lv1; omega
    show lvE C (lv1 C s a) l ≤ _
    rw [List.length_cons, show ((l.length + 1 : Nat) : Int) = (l.length : Int) + 1 by omega, Int.mul_add, Int.mul_one]
    omega
theorem amts_len (ps : List (Int × Int × Int)) (ins : List (List Int)) (n : Nat) : (amts ps ins n).length = n := by simp [amts]
theorem amts_get (ps : List (Int × Int × Int)) (ins : List (List Int)) {n t : Nat} (h : t < n) : (amts ps ins n)[t]? = some (arr ps ins (t : Int)) := by
  unfold amts
  rw [List.getElem?_map, List.getElem?_range h]; rfl
end Go.Proofs.Ytpokpgnclohiiaa.v6

namespace Go.Proofs.Ytpokpgnclohiiaa.v6

/-- The first place and the greatest number, from a place on and with what was found before. -/
def pkGo : Int → Int × Int → List Int → Int × Int
  | _, b, [] => b
  | i, b, x :: l => pkGo (i + 1) (if b.2 < x then (i, x) else b) l
/-- The first place with more than a limit, or -1. -/
def frs (lim : Int) (l : List Int) : Int := match l.findIdx? (fun x => decide (lim < x)) with | none => -1 | some i => (i : Int)
theorem frs_none {lim : Int} {l : List Int} : frs lim l = -1 ↔ ∀ x ∈ l, x ≤ lim := by
  unfold frs
  rcases h : l.findIdx? (fun x => decide (lim < x)) with _ | i
  · simp only [true_iff]
    rw [List.findIdx?_eq_none_iff] at h
    intro x hx
    have := h x hx
    simp at this
    exact this
  · constructor
    · intro h'; have h'' : (i : Int) = -1 := h'; omega
    · intro h'
      obtain ⟨hi, hp, -⟩ := List.findIdx?_eq_some_iff_getElem.1 h
      have := h' l[i] (List.getElem_mem hi)
      simp at hp
      omega
theorem frs_at {lim : Int} {l : List Int} {i : Nat} {x : Int} (hx : l[i]? = some x) (h : lim < x) (hb : ∀ (j : Nat) (y : Int), j < i → l[j]? = some y → y ≤ lim) : frs lim l = (i : Int) := by
  obtain ⟨hi, e⟩ := List.getElem?_eq_some_iff.1 hx
  have : l.findIdx? (fun x => decide (lim < x)) = some i := by
    rw [List.findIdx?_eq_some_iff_getElem]
    refine ⟨hi, by rw [e]; simpa using h, fun j hj => ?_⟩
    have := hb j l[j] hj (List.getElem?_eq_getElem _)
    simp only [decide_eq_true_eq]
    omega
  unfold frs
  rw [this]
end Go.Proofs.Ytpokpgnclohiiaa.v6

namespace Go.Proofs.Ytpokpgnclohiiaa.v6
open Go.RowKit
set_option maxRecDepth 100000

theorem below_join {B C : Nat} {a w w' : World} (h : Below B a w) (k : Below C w w') (hc : B ≤ C) : Below B a w' := h.trans (k.mono hc)
/-- Numbers, as a slice. -/
def IntSl (w : World) (v : Value) (l : List Int) : Prop :=
  ∃ A c, v = .slice A l.length c ∧ l.length ≤ c ∧ c ≤ maxLen ∧ (A = none → c = 0) ∧ (0 < l.length → ∃ b o, A = some ⟨b, o, none⟩ ∧ b < w.heap.size ∧ ∀ j x, l[j]? = some x → w.cell? ⟨b, o + j, none⟩ = some (.int .i64 x))
theorem IntSl.on {w w' : World} {v : Value} {l : List Int} {B : Nat} (h : IntSl w v l) (hb : Below B w w') (hB : w.heap.size ≤ B) : IntSl w' v l := by
  obtain ⟨A, c, h1, h2, h3, h5, h4⟩ := h
  refine ⟨A, c, h1, h2, h3, h5, fun h0 => ?_⟩
  obtain ⟨b, o, e, hlt, hc⟩ := h4 h0
  exact ⟨b, o, e, Nat.lt_of_lt_of_le hlt hb.size, fun j x hj => (hb.cell (p := ⟨b, o + j, none⟩) (by show b < B; omega)).trans (hc j x hj)⟩
theorem IntSl.nil (w : World) : IntSl w (.slice none 0 0) [] := ⟨none, 0, rfl, Nat.le_refl _, Nat.zero_le _, fun _ => rfl, fun h => absurd h (Nat.lt_irrefl _)⟩
theorem IntSl.shape {w : World} {v : Value} {l : List Int} (h : IntSl w v l) : ∃ A c, v = .slice A l.length c ∧ l.length ≤ c ∧ c ≤ maxLen := by
  obtain ⟨A, c, h1, h2, h3, -⟩ := h
  exact ⟨A, c, h1, h2, h3⟩
theorem IntSl.at_ {w : World} {v : Value} {l : List Int} (h : IntSl w v l) {k : Nat} {x : Int} (hk : l[k]? = some x) : ∃ b o c, v = .slice (some ⟨b, o, none⟩) l.length c ∧ b < w.heap.size ∧ l.length ≤ c ∧ c ≤ maxLen ∧ w.cell? ⟨b, o + k, none⟩ = some (.int .i64 x) := by
  obtain ⟨A, c, h1, h2, h3, -, h4⟩ := h
  obtain ⟨b, o, e, hlt, hc⟩ := h4 (by have := (List.getElem?_eq_some_iff.1 hk).1; omega)
  subst e
  exact ⟨b, o, c, h1, hlt, h2, h3, hc k x hk⟩
/-- Lists of numbers, as a slice of slices. -/
def LiSl (w : World) (v : Value) (ls : List (List Int)) : Prop :=
  ∃ A c, v = .slice A ls.length c ∧ ls.length ≤ c ∧ c ≤ maxLen ∧ (0 < ls.length → ∃ b o, A = some ⟨b, o, none⟩ ∧ b < w.heap.size ∧ ∀ j l, ls[j]? = some l → ∃ u, w.cell? ⟨b, o + j, none⟩ = some u ∧ IntSl w u l)
theorem LiSl.on {w w' : World} {v : Value} {ls : List (List Int)} {B : Nat} (h : LiSl w v ls) (hb : Below B w w') (hB : w.heap.size ≤ B) : LiSl w' v ls := by
  obtain ⟨A, c, h1, h2, h3, h4⟩ := h
  refine ⟨A, c, h1, h2, h3, fun h0 => ?_⟩
  obtain ⟨b, o, e, hlt, hc⟩ := h4 h0
  refine ⟨b, o, e, Nat.lt_of_lt_of_le hlt hb.size, fun j l hj => ?_⟩
  obtain ⟨u, hu, hl⟩ := hc j l hj
  exact ⟨u, (hb.cell (p := ⟨b, o + j, none⟩) (by show b < B; omega)).trans hu, hl.on hb hB⟩
theorem LiSl.shape {w : World} {v : Value} {ls : List (List Int)} (h : LiSl w v ls) : ∃ A c, v = .slice A ls.length c ∧ ls.length ≤ c ∧ c ≤ maxLen := by
  obtain ⟨A, c, h1, h2, h3, -⟩ := h
  exact ⟨A, c, h1, h2, h3⟩
theorem LiSl.at_ {w : World} {v : Value} {ls : List (List Int)} (h : LiSl w v ls) {k : Nat} {l : List Int} (hk : ls[k]? = some l) : ∃ b o c u, v = .slice (some ⟨b, o, none⟩) ls.length c ∧ b < w.heap.size ∧ ls.length ≤ c ∧ c ≤ maxLen ∧ w.cell? ⟨b, o + k, none⟩ = some u ∧ IntSl w u l := by
  obtain ⟨A, c, h1, h2, h3, h4⟩ := h
  obtain ⟨b, o, e, hlt, hc⟩ := h4 (by have := (List.getElem?_eq_some_iff.1 hk).1; omega)
  subst e
  obtain ⟨u, hu, hl⟩ := hc k l hk
  exact ⟨b, o, c, u, h1, hlt, h2, h3, hu, hl⟩
/-- Parts, as a slice. -/
def PtSl (w : World) (v : Value) (l : List (Int × Int × Int)) : Prop :=
  ∃ A c, v = .slice A l.length c ∧ l.length ≤ c ∧ c ≤ maxLen ∧ (0 < l.length → ∃ b o, A = some ⟨b, o, none⟩ ∧ b < w.heap.size ∧ ∀ j p, l[j]? = some p → w.cell? ⟨b, o + j * 3, none⟩ = some (.int .i64 p.1) ∧ w.cell? ⟨b, o + j * 3 + 1, none⟩ = some (.int .i64 p.2.1) ∧ w.cell? ⟨b, o + j * 3 + 2, none⟩ = some (.int .i64 p.2.2))
theorem PtSl.on {w w' : World} {v : Value} {l : List (Int × Int × Int)} {B : Nat} (h : PtSl w v l) (hb : Below B w w') (hB : w.heap.size ≤ B) : PtSl w' v l := by
  obtain ⟨A, c, h1, h2, h3, h4⟩ := h
  refine ⟨A, c, h1, h2, h3, fun h0 => ?_⟩
  obtain ⟨b, o, e, hlt, hc⟩ := h4 h0
  refine ⟨b, o, e, Nat.lt_of_lt_of_le hlt hb.size, fun j p hj => ?_⟩
  obtain ⟨c1, c2, c3⟩ := hc j p hj
  exact ⟨(hb.cell (p := ⟨b, o + j * 3, none⟩) (by show b < B; omega)).trans c1, (hb.cell (p := ⟨b, o + j * 3 + 1, none⟩) (by show b < B; omega)).trans c2, (hb.cell (p := ⟨b, o + j * 3 + 2, none⟩) (by show b < B; omega)).trans c3⟩
theorem PtSl.shape {w : World} {v : Value} {l : List (Int × Int × Int)} (h : PtSl w v l) : ∃ A c, v = .slice A l.length c ∧ l.length ≤ c ∧ c ≤ maxLen := by
  obtain ⟨A, c, h1, h2, h3, -⟩ := h
  exact ⟨A, c, h1, h2, h3⟩
theorem PtSl.at_ {w : World} {v : Value} {l : List (Int × Int × Int)} (h : PtSl w v l) {k : Nat} {p : Int × Int × Int} (hk : l[k]? = some p) : ∃ b o c, v = .slice (some ⟨b, o, none⟩) l.length c ∧ b < w.heap.size ∧ l.length ≤ c ∧ c ≤ maxLen ∧ w.cell? ⟨b, o + k * 3, none⟩ = some (.int .i64 p.1) ∧ w.cell? ⟨b, o + k * 3 + 1, none⟩ = some (.int .i64 p.2.1) ∧ w.cell? ⟨b, o + k * 3 + 2, none⟩ = some (.int .i64 p.2.2) := by
  obtain ⟨A, c, h1, h2, h3, h4⟩ := h
  obtain ⟨b, o, e, hlt, hc⟩ := h4 (by have := (List.getElem?_eq_some_iff.1 hk).1; omega)
  subst e
  exact ⟨b, o, c, h1, hlt, h2, h3, hc k p hk⟩
set_option maxHeartbeats 1000000 in
theorem c_isUpTo (n m : Int) (r : Bool) (hr : (decide (0 ≤ n) && decide (n ≤ m)) = r) (w : World) :
    Calls Try.prog 34 #[.int .i64 n, .int .i64 m] w fun e w' => e = .returned (.bool r) ∧ w = w' := by
  rcases h1 : decide (0 ≤ n) with _ | _
  · rw [h1] at hr
    obtain rfl : false = r := hr
    go_enter Try.func34, Try.ntmps34
    go_wp2
    go_ret
    exact ⟨rfl, rfl⟩
  · rw [h1] at hr
    obtain rfl : decide (n ≤ m) = r := hr
    go_enter Try.func34, Try.ntmps34
    go_wp2
    go_ret
    exact ⟨rfl, rfl⟩
end Go.Proofs.Ytpokpgnclohiiaa.v6

namespace Go.Proofs.Ytpokpgnclohiiaa.v6
open Go.RowKit
set_option maxRecDepth 100000

set_option maxHeartbeats 4000000 in
theorem c_given (k : Nat) (t : Int) (hk : k ≤ 100) (ins : List (List Int)) (v : Value) (w : World) (hv : LiSl w v ins) (r : Int) (hr : giv ins (k : Int) t = r) :
    Calls Try.prog 56 #[v, .int .i64 (k : Int), .int .i64 t] w fun e w' => e = .returned (.int .i64 r) ∧ w = w' := by
  have HV := Lib.hid hv
  obtain ⟨A, c, rfl, hc1, hc2⟩ := hv.shape
  unfold maxLen at hc2
  clear hv
  have hki : ((k : Nat) : Int).toNat = k := by omega
  unfold giv at hr
  rw [hki] at hr
  by_cases h1 : k < ins.length
  · have h1' : (k : Int) < ((ins.length : Nat) : Int) := by omega
    obtain ⟨l, hl⟩ : ∃ l, ins[k]? = some l := ⟨_, List.getElem?_eq_getElem h1⟩
    obtain ⟨b, o, c', u, e, -, -, -, hu, hL⟩ := HV.out.at_ hl
    injection e with e1 _ e2
    subst e1 e2
    rw [hl] at hr
    have HL := Lib.hid hL
    obtain ⟨A2, d, rfl, hd1, hd2⟩ := hL.shape
    unfold maxLen at hd2
    clear hL hl
    by_cases h2 : t < 0
    · rw [if_pos h2] at hr
      obtain rfl : (0 : Int) = r := hr
      go_enter Try.func56, Try.ntmps56
      go_wp2_with (fail)
      go_ret
      exact ⟨rfl, rfl⟩
    · rw [if_neg h2] at hr
      have h2' : 0 ≤ t := by omega
      by_cases h3 : t < ((l.length : Nat) : Int)
      · obtain ⟨x, hx⟩ : ∃ x, l[t.toNat]? = some x := ⟨_, List.getElem?_eq_getElem (by omega)⟩
        obtain ⟨b2, o2, d', e, -, -, -, hcx⟩ := HL.out.at_ hx
        injection e with e1 _ e2
        subst e1 e2
        have hr' : (l[t.toNat]?).getD 0 = r := hr
        rw [hx] at hr'
        obtain rfl : x = r := hr'
        clear hr hx
        go_enter Try.func56, Try.ntmps56
        go_wp2_with (fail)
        go_ret
        exact ⟨rfl, rfl⟩
      · have h3' : ((l.length : Nat) : Int) ≤ t := by omega
        have hr' : (l[t.toNat]?).getD 0 = r := hr
        rw [List.getElem?_eq_none (by omega)] at hr'
        obtain rfl : (0 : Int) = r := hr'
        clear hr h3
        go_enter Try.func56, Try.ntmps56
        go_wp2_with (fail)
        go_ret
        exact ⟨rfl, rfl⟩
  · have h1' : ((ins.length : Nat) : Int) ≤ (k : Int) := by omega
    have hr' : r = 0 := by
      rw [← hr]
      split
      · rfl
      · rw [List.getElem?_eq_none (by omega)]; rfl
    subst hr'
    clear hr h1
    go_enter Try.func56, Try.ntmps56
    go_wp2_with (fail)
    go_ret
    exact ⟨rfl, rfl⟩
end Go.Proofs.Ytpokpgnclohiiaa.v6

namespace Go.Proofs.Ytpokpgnclohiiaa.v6
open Go.RowKit
set_option maxRecDepth 100000

theorem arr_take_succ {ps : List (Int × Int × Int)} {k : Nat} {p : Int × Int × Int} (h : ps[k]? = some p) (ins : List (List Int)) (t : Int) : arr (ps.take (k + 1)) ins t = arr (ps.take k) ins t + p.2.1 * giv ins p.1 (t - p.2.2) := by
  obtain ⟨hk, e⟩ := List.getElem?_eq_some_iff.1 h
  unfold arr
  rw [List.take_succ_eq_append_getElem hk, List.map_append, List.sum_append, e]
  show _ + (brg ins t p + 0) = _
  rw [Int.add_zero]; rfl
/-- A line, as a value. -/
def lnV (C : Int) (P : Value) : Value := .agg #[.int .i64 C, P]
theorem all_take {α : Type} {f : α → Bool} {l : List α} (h : l.all f = true) (k : Nat) : (l.take k).all f = true := by
  rw [List.all_eq_true] at h ⊢
  exact fun x hx => h x (List.mem_of_mem_take hx)
end Go.Proofs.Ytpokpgnclohiiaa.v6

namespace Go.Proofs.Ytpokpgnclohiiaa.v6
open Go.RowKit
set_option maxRecDepth 100000

theorem all_take_succ {α : Type} {f : α → Bool} {l : List α} {k : Nat} {x : α} (h : (l.take k).all f = true) (hx : l[k]? = some x) (hf : f x = true) : (l.take (k + 1)).all f = true := by
  obtain ⟨hk, e⟩ := List.getElem?_eq_some_iff.1 hx
  rw [List.take_succ_eq_append_getElem hk, List.all_append, h, e]
  simp [hf]
end Go.Proofs.Ytpokpgnclohiiaa.v6

namespace Go.Proofs.Ytpokpgnclohiiaa.v6
open Go.RowKit
set_option maxRecDepth 100000

theorem upTo {x m : Int} {b : Bool} (h : (decide (0 ≤ x) && decide (x ≤ m)) = b) : Hid ((decide (0 ≤ x) && decide (x ≤ m)) = b) := Lib.hid h
set_option maxHeartbeats 8000000 in
theorem c_Valid (C : Int) (ps : List (Int × Int × Int)) (P : Value) (w : World) (hP : PtSl w P ps) (r : Bool) (hr : lnOk C ps = r) :
    Calls Try.prog 32 #[lnV C P] w fun e w' => e = .returned (.bool r) ∧ Below w.heap.size w w' := by
  unfold lnV
  obtain ⟨A, c, rfl, hc1, hc2⟩ := hP.shape
  unfold maxLen at hc2
  obtain ⟨W, hW⟩ : ∃ W, W = w.alloc (.cells #[.int .i64 C, .slice A ps.length c] 53) := ⟨_, rfl⟩
  have B0 : Below w.heap.size w W := by subst hW; exact (Below.refl _ _).alloc (Nat.le_refl _) _
  have HB := Lib.hid B0
  have HC := Lib.hid (show W.cell? ⟨w.heap.size, 0, none⟩ = some (.int .i64 C) ∧ W.cell? ⟨w.heap.size, 1, none⟩ = some (.slice A ps.length c) by subst hW; have h := heap_alloc_new w (.cells #[.int .i64 C, .slice A ps.length c] 53); constructor <;> simp only [World.cell?, h] <;> rfl)
  have HP := Lib.hid (hP.on B0 (Nat.le_refl _))
  have HR := Lib.hid (show ((decide (0 ≤ C) && decide (C ≤ 100000000)) && (decide (ps.length ≤ 16) && ps.all ptOk)) = r from hr)
  clear hP B0 hr
  rcases h1 : (decide (0 ≤ C) && decide (C ≤ 100000000)) with _ | _
  · have H1 := upTo h1
    obtain rfl : false = r := by rw [← HR.out, h1]; rfl
    clear h1
    go_enter Try.func32, Try.ntmps32
    go_wp2_with (fail)
    rw [← hW]
    clear hW
    go_at_call 34
    refine (c_isUpTo _ _ _ H1.out _).mono ?_
    rintro e w1 ⟨rfl, rfl⟩
    go_wp2_with (fail)
    go_ret
    exact ⟨rfl, HB.out⟩
  · have H1 := upTo h1
    by_cases g : ps.length ≤ 16
    · have HR2 := Lib.hid (show ps.all ptOk = r by rw [← HR.out, h1, decide_eq_true g]; rfl)
      clear h1
      obtain ⟨x0, x1⟩ := HC.out
      go_enter Try.func32, Try.ntmps32
      go_wp2_with (fail)
      rw [← hW]
      clear hW
      go_at_call 34
      refine (c_isUpTo _ _ _ H1.out _).mono ?_
      rintro e w1 ⟨rfl, rfl⟩
      go_wp2_with (fail)
      go_loopw [18] (fun i wr => ∃ k : Nat, k ≤ ps.length ∧ i = .int .i64 (k : Int) ∧ Hid ((ps.take k).all ptOk = true) ∧ Hid (Below W.heap.size W wr)) (fun i _ => ps.length - (intOf i).toNat)
      case atStart => exact ⟨0, Nat.zero_le _, rfl, Lib.hid rfl, Lib.hid (Below.refl _ _)⟩
      case round =>
        clear x0 x1
        obtain ⟨k, hk, rfl, hA, hB⟩ := hrel
        have hki : ((k : Nat) : Int).toNat = k := by omega
        by_cases hlt : k < ps.length
        · obtain ⟨⟨s, m, d⟩, hx⟩ : ∃ p, ps[k]? = some p := ⟨_, List.getElem?_eq_getElem hlt⟩
          obtain ⟨b, o, c', e, hb, -, -, q0, q1, q2⟩ := HP.out.at_ hx
          injection e with e1 e2 e3
          clear e2
          subst e1 e3
          have y0 := (hB.out.cell (p := ⟨b, o + k * 3, none⟩) hb).trans q0
          have y1 := (hB.out.cell (p := ⟨b, o + k * 3 + 1, none⟩) hb).trans q1
          have y2 := (hB.out.cell (p := ⟨b, o + k * 3 + 2, none⟩) hb).trans q2
          have HX := Lib.hid (hB.out.alloc hB.out.size (.cells #[.int .i64 s, .int .i64 m, .int .i64 d] 82))
          have HIX := Lib.hid hx
          clear hx q0 q1 q2 hb
          have hpe : ptOk (s, m, d) = ((decide (0 ≤ s) && decide (s ≤ 15)) && ((decide (0 ≤ m) && decide (m ≤ 1000)) && (decide (0 ≤ d) && decide (d ≤ 1000)))) := rfl
          rcases k1 : (decide (0 ≤ s) && decide (s ≤ 15)) with _ | _
          · have K1 := upTo k1
            obtain rfl : false = r := by rw [← HR2.out]; exact (List.all_eq_false.2 ⟨_, List.mem_of_getElem? HIX.out, by rw [hpe, k1]; simp⟩).symm
            clear hpe k1
            go_wp2_with (fail)
            go_at_call 34
            refine (c_isUpTo _ _ _ K1.out _).mono ?_
            rintro e w1 ⟨rfl, rfl⟩
            go_wp2_with (fail)
            go_ret
            exact ⟨rfl, below_join HB.out HX.out HB.out.size⟩
          · have K1 := upTo k1
            rcases k2 : (decide (0 ≤ m) && decide (m ≤ 1000)) with _ | _
            · have K2 := upTo k2
              obtain rfl : false = r := by rw [← HR2.out]; exact (List.all_eq_false.2 ⟨_, List.mem_of_getElem? HIX.out, by rw [hpe, k1, k2]; simp⟩).symm
              clear hpe k1 k2
              go_wp2_with (fail)
              go_at_call 34
              refine (c_isUpTo _ _ _ K1.out _).mono ?_
              rintro e w1 ⟨rfl, rfl⟩
              go_wp2_with (fail)
              go_at_call 34
              refine (c_isUpTo _ _ _ K2.out _).mono ?_
              rintro e w1 ⟨rfl, rfl⟩
              go_wp2_with (fail)
              go_ret
              exact ⟨rfl, below_join HB.out HX.out HB.out.size⟩
            · have K2 := upTo k2
              rcases k3 : (decide (0 ≤ d) && decide (d ≤ 1000)) with _ | _
              · have K3 := upTo k3
                obtain rfl : false = r := by rw [← HR2.out]; exact (List.all_eq_false.2 ⟨_, List.mem_of_getElem? HIX.out, by rw [hpe, k1, k2, k3]; simp⟩).symm
                clear hpe k1 k2 k3
                go_wp2_with (fail)
                go_at_call 34
                refine (c_isUpTo _ _ _ K1.out _).mono ?_
                rintro e w1 ⟨rfl, rfl⟩
                go_wp2_with (fail)
                go_at_call 34
                refine (c_isUpTo _ _ _ K2.out _).mono ?_
                rintro e w1 ⟨rfl, rfl⟩
                go_wp2_with (fail)
                go_at_call 34
                refine (c_isUpTo _ _ _ K3.out _).mono ?_
                rintro e w1 ⟨rfl, rfl⟩
                go_wp2_with (fail)
                go_ret
                exact ⟨rfl, below_join HB.out HX.out HB.out.size⟩
              · have K3 := upTo k3
                have HN := Lib.hid (all_take_succ hA.out HIX.out (by rw [hpe, k1, k2, k3]; rfl))
                clear hpe k1 k2 k3
                go_wp2_with (fail)
                go_at_call 34
                refine (c_isUpTo _ _ _ K1.out _).mono ?_
                rintro e w1 ⟨rfl, rfl⟩
                go_wp2_with (fail)
                go_at_call 34
                refine (c_isUpTo _ _ _ K2.out _).mono ?_
                rintro e w1 ⟨rfl, rfl⟩
                go_wp2_with (fail)
                go_at_call 34
                refine (c_isUpTo _ _ _ K3.out _).mono ?_
                rintro e w1 ⟨rfl, rfl⟩
                go_wp2_with (fail)
                go_roundw
                case rel => exact ⟨k + 1, by omega, by go_num, HN, HX⟩
                case measure => simp only [intOf]; omega
        · obtain rfl : k = ps.length := by omega
          have hrr : r = true := by
            rw [← HR2.out]
            have := hA.out
            rw [List.take_length] at this
            exact this
          subst hrr
          go_wp2_with (fail)
          go_ret
          exact ⟨rfl, below_join HB.out hB.out HB.out.size⟩
    · obtain rfl : false = r := by rw [← HR.out, h1, decide_eq_false g]; rfl
      clear h1
      obtain ⟨x0, x1⟩ := HC.out
      go_enter Try.func32, Try.ntmps32
      go_wp2_with (fail)
      rw [← hW]
      clear hW
      go_at_call 34
      refine (c_isUpTo _ _ _ H1.out _).mono ?_
      rintro e w1 ⟨rfl, rfl⟩
      go_wp2_with (fail)
      go_ret
      exact ⟨rfl, HB.out⟩
end Go.Proofs.Ytpokpgnclohiiaa.v6

namespace Go.Proofs.Ytpokpgnclohiiaa.v6
open Go.RowKit
set_option maxRecDepth 100000

theorem inOk_bad {ins : List (List Int)} {k : Nat} {l : List Int} (h : ins[k]? = some l) (hl : liOk l = false) : inOk ins = false := by
  have : ins.all liOk = false := by
    rw [List.all_eq_false]
    exact ⟨l, List.mem_of_getElem? h, by rw [hl]; simp⟩
  unfold inOk
  rw [this]; simp
theorem liOk_bad {l : List Int} {k : Nat} {x : Int} (h : l[k]? = some x) (hx : nmOk x = false) : liOk l = false := by
  have : l.all nmOk = false := by
    rw [List.all_eq_false]
    exact ⟨x, List.mem_of_getElem? h, by rw [hx]; simp⟩
  unfold liOk
  rw [this]; simp
set_option maxHeartbeats 8000000 in
theorem c_areInputs (ins : List (List Int)) (I : Value) (w : World) (hI : LiSl w I ins) (r : Bool) (hr : inOk ins = r) :
    Calls Try.prog 33 #[I] w fun e w' => e = .returned (.bool r) ∧ w = w' := by
  have HI := Lib.hid hI
  obtain ⟨A, c, rfl, hc1, hc2⟩ := hI.shape
  unfold maxLen at hc2
  have HR := Lib.hid hr
  clear hI hr
  by_cases g : ins.length ≤ 16
  · go_enter Try.func33, Try.ntmps33
    go_wp2_with (fail)
    go_loopw [12] (fun i wr => ∃ k : Nat, k ≤ ins.length ∧ i = .int .i64 (k : Int) ∧ Hid ((ins.take k).all liOk = true) ∧ wr = w) (fun i _ => ins.length - (intOf i).toNat)
    case atStart => exact ⟨0, Nat.zero_le _, rfl, Lib.hid rfl, rfl⟩
    case round =>
      obtain ⟨k, hk, rfl, hA, rfl⟩ := hrel
      have hki : ((k : Nat) : Int).toNat = k := by omega
      by_cases hlt : k < ins.length
      · obtain ⟨l, hx⟩ : ∃ l, ins[k]? = some l := ⟨_, List.getElem?_eq_getElem hlt⟩
        obtain ⟨b, o, c', u, e, -, -, -, hu, hL⟩ := HI.out.at_ hx
        injection e with e1 e2 e3
        clear e2
        subst e1 e3
        have HL := Lib.hid hL
        have HX := Lib.hid hx
        obtain ⟨A2, d, rfl, hd1, hd2⟩ := hL.shape
        unfold maxLen at hd2
        clear hL hx
        by_cases g2 : l.length ≤ 1000
        · go_wp2_with (fail)
          have HLT := Lib.hid hlt
          go_loopw [21] (fun i wr' => ∃ j : Nat, j ≤ l.length ∧ i = .int .i64 (j : Int) ∧ Hid ((l.take j).all nmOk = true) ∧ wr' = wr) (fun i _ => l.length - (intOf i).toNat)
          case atStart => exact ⟨0, Nat.zero_le _, rfl, Lib.hid rfl, rfl⟩
          case round =>
            obtain ⟨j, hj, rfl, hA2, rfl⟩ := hrel
            have hji : ((j : Nat) : Int).toNat = j := by omega
            by_cases hjl : j < l.length
            · obtain ⟨x, hx⟩ : ∃ x, l[j]? = some x := ⟨_, List.getElem?_eq_getElem hjl⟩
              obtain ⟨b2, o2, d', e, -, -, -, hcx⟩ := HL.out.at_ hx
              injection e with e1 e2 e3
              clear e2
              subst e1 e3
              have HXX := Lib.hid hx
              clear hx
              rcases k1 : (decide (0 ≤ x) && decide (x ≤ 100000000)) with _ | _
              · have K1 := upTo k1
                obtain rfl : false = r := by rw [← HR.out]; exact (inOk_bad HX.out (liOk_bad HXX.out k1)).symm
                clear k1
                go_wp2_with (fail)
                go_at_call 34
                refine (c_isUpTo _ _ _ K1.out _).mono ?_
                rintro e w1 ⟨rfl, rfl⟩
                go_wp2_with (fail)
                go_ret
                exact ⟨rfl, rfl⟩
              · have K1 := upTo k1
                have HN := Lib.hid (all_take_succ hA2.out HXX.out k1)
                clear k1
                go_wp2_with (fail)
                go_at_call 34
                refine (c_isUpTo _ _ _ K1.out _).mono ?_
                rintro e w1 ⟨rfl, rfl⟩
                go_wp2_with (fail)
                go_roundw
                case rel => exact ⟨j + 1, by omega, by go_num, HN, (by first | trivial | rfl)⟩
                case measure => simp only [intOf]; omega
            · have hjj : j = l.length := by omega
              have HN := Lib.hid (all_take_succ hA.out HX.out (by
                have := hA2.out
                rw [hjj, List.take_length] at this
                unfold liOk
                rw [this, decide_eq_true g2]; rfl))
              have hge : ((l.length : Nat) : Int) ≤ (j : Int) := by omega
              clear hjj
              go_wp2_with (fail)
              go_roundw
              case rel => exact ⟨k + 1, by omega, by go_num, HN, (by first | trivial | rfl)⟩
              case measure => simp only [intOf]; omega
        · obtain rfl : false = r := by
            rw [← HR.out]
            refine (inOk_bad HX.out ?_).symm
            unfold liOk
            rw [decide_eq_false g2]; rfl
          go_wp2_with (fail)
          go_ret
          exact ⟨rfl, rfl⟩
      · obtain rfl : k = ins.length := by omega
        have hrr : r = true := by
          rw [← HR.out]
          have := hA.out
          rw [List.take_length] at this
          unfold inOk
          rw [this, decide_eq_true g]; rfl
        subst hrr
        go_wp2_with (fail)
        go_ret
        exact ⟨rfl, rfl⟩
  · obtain rfl : false = r := by
      rw [← HR.out]
      unfold inOk
      rw [decide_eq_false g]; rfl
    go_enter Try.func33, Try.ntmps33
    go_wp2_with (fail)
    go_ret
    exact ⟨rfl, rfl⟩
end Go.Proofs.Ytpokpgnclohiiaa.v6

namespace Go.Proofs.Ytpokpgnclohiiaa.v6
open Go.RowKit
set_option maxRecDepth 100000

set_option maxHeartbeats 8000000 in
theorem c_fault (C : Int) (ps : List (Int × Int × Int)) (s : Int) (ins : List (List Int)) (n : Int) (P I : Value) (w : World) (hP : PtSl w P ps) (hI : LiSl w I ins) (r : Int) (hr : fltL C ps s ins n = r) :
    Calls Try.prog 24 #[lnV C P, .int .i64 s, I, .int .i64 n] w fun e w' => e = .returned (.int .i64 r) ∧ Below w.heap.size w w' := by
  obtain ⟨W, hW⟩ : ∃ W, W = w.alloc (.cells #[.int .i64 C, P] 53) := ⟨_, rfl⟩
  have B0 : Below w.heap.size w W := by subst hW; exact (Below.refl _ _).alloc (Nat.le_refl _) _
  have HB := Lib.hid B0
  have HP := Lib.hid (hP.on B0 (Nat.le_refl _))
  have HI := Lib.hid (hI.on B0 (Nat.le_refl _))
  clear hP hI B0
  unfold fltL at hr
  have HV := Lib.hid (fun (b : Bool) (hb : lnOk C ps = b) => c_Valid C ps P W HP.out b hb)
  unfold lnV at HV ⊢
  rcases k1 : lnOk C ps with _ | _
  · have K1 := Lib.hid k1
    rw [k1, if_neg (by decide)] at hr
    subst hr
    clear k1
    go_enter Try.func24, Try.ntmps24
    go_wp2_with (fail)
    rw [← hW]
    clear hW
    go_at_call 32
    refine (HV.out _ K1.out).mono ?_
    rintro e w1 ⟨rfl, b1⟩
    have HI1 := Lib.hid (HI.out.on b1 (Nat.le_refl _))
    have HB1 := Lib.hid (below_join HB.out b1 HB.out.size)
    clear b1
    go_wp2_with (fail)
    go_ret
    exact ⟨rfl, HB1.out⟩
  · have K1 := Lib.hid k1
    rw [k1, if_pos rfl] at hr
    clear k1
    rcases k2 : inOk ins with _ | _
    · have K2 := Lib.hid k2
      rw [k2, Bool.false_and, Bool.false_and, if_neg (by decide)] at hr
      subst hr
      clear k2
      go_enter Try.func24, Try.ntmps24
      go_wp2_with (fail)
      rw [← hW]
      clear hW
      go_at_call 32
      refine (HV.out _ K1.out).mono ?_
      rintro e w1 ⟨rfl, b1⟩
      have HI1 := Lib.hid (HI.out.on b1 (Nat.le_refl _))
      have HB1 := Lib.hid (below_join HB.out b1 HB.out.size)
      clear b1
      go_wp2_with (fail)
      go_at_call 33
      refine (c_areInputs _ _ _ HI1.out _ K2.out).mono ?_
      rintro e w2 ⟨rfl, rfl⟩
      go_wp2_with (fail)
      go_ret
      exact ⟨rfl, HB1.out⟩
    · have K2 := Lib.hid k2
      rw [k2, Bool.true_and] at hr
      clear k2
      rcases k3 : (decide (0 ≤ n) && decide (n ≤ 1000)) with _ | _
      · have K3 := upTo k3
        rw [k3, Bool.false_and, if_neg (by decide)] at hr
        subst hr
        clear k3
        go_enter Try.func24, Try.ntmps24
        go_wp2_with (fail)
        rw [← hW]
        clear hW
        go_at_call 32
        refine (HV.out _ K1.out).mono ?_
        rintro e w1 ⟨rfl, b1⟩
        have HI1 := Lib.hid (HI.out.on b1 (Nat.le_refl _))
        have HB1 := Lib.hid (below_join HB.out b1 HB.out.size)
        clear b1
        go_wp2_with (fail)
        go_at_call 33
        refine (c_areInputs _ _ _ HI1.out _ K2.out).mono ?_
        rintro e w2 ⟨rfl, rfl⟩
        go_wp2_with (fail)
        go_at_call 34
        refine (c_isUpTo _ _ _ K3.out _).mono ?_
        rintro e w2 ⟨rfl, rfl⟩
        go_wp2_with (fail)
        go_ret
        exact ⟨rfl, HB1.out⟩
      · have K3 := upTo k3
        rw [k3, Bool.true_and] at hr
        clear k3
        rcases k4 : (decide (0 ≤ s) && decide (s ≤ 100000000)) with _ | _
        · have K4 := upTo k4
          rw [k4, if_neg (by decide)] at hr
          subst hr
          clear k4
          go_enter Try.func24, Try.ntmps24
          go_wp2_with (fail)
          rw [← hW]
          clear hW
          go_at_call 32
          refine (HV.out _ K1.out).mono ?_
          rintro e w1 ⟨rfl, b1⟩
          have HI1 := Lib.hid (HI.out.on b1 (Nat.le_refl _))
          have HB1 := Lib.hid (below_join HB.out b1 HB.out.size)
          clear b1
          go_wp2_with (fail)
          go_at_call 33
          refine (c_areInputs _ _ _ HI1.out _ K2.out).mono ?_
          rintro e w2 ⟨rfl, rfl⟩
          go_wp2_with (fail)
          go_at_call 34
          refine (c_isUpTo _ _ _ K3.out _).mono ?_
          rintro e w2 ⟨rfl, rfl⟩
          go_wp2_with (fail)
          go_at_call 34
          refine (c_isUpTo _ _ _ K4.out _).mono ?_
          rintro e w2 ⟨rfl, rfl⟩
          go_wp2_with (fail)
          go_ret
          exact ⟨rfl, HB1.out⟩
        · have K4 := upTo k4
          rw [k4, if_pos rfl] at hr
          subst hr
          clear k4
          go_enter Try.func24, Try.ntmps24
          go_wp2_with (fail)
          rw [← hW]
          clear hW
          go_at_call 32
          refine (HV.out _ K1.out).mono ?_
          rintro e w1 ⟨rfl, b1⟩
          have HI1 := Lib.hid (HI.out.on b1 (Nat.le_refl _))
          have HB1 := Lib.hid (below_join HB.out b1 HB.out.size)
          clear b1
          go_wp2_with (fail)
          go_at_call 33
          refine (c_areInputs _ _ _ HI1.out _ K2.out).mono ?_
          rintro e w2 ⟨rfl, rfl⟩
          go_wp2_with (fail)
          go_at_call 34
          refine (c_isUpTo _ _ _ K3.out _).mono ?_
          rintro e w2 ⟨rfl, rfl⟩
          go_wp2_with (fail)
          go_at_call 34
          refine (c_isUpTo _ _ _ K4.out _).mono ?_
          rintro e w2 ⟨rfl, rfl⟩
          go_wp2_with (fail)
          go_ret
          exact ⟨rfl, HB1.out⟩
end Go.Proofs.Ytpokpgnclohiiaa.v6

namespace Go.Proofs.Ytpokpgnclohiiaa.v6
open Go.RowKit
set_option maxRecDepth 100000

theorem flt_cases {C : Int} {ps : List (Int × Int × Int)} {s : Int} {ins : List (List Int)} {n : Int} (h : fltL C ps s ins n = 0) : lnOk C ps = true ∧ inOk ins = true ∧ (0 ≤ n ∧ n ≤ 1000) ∧ (0 ≤ s ∧ s ≤ 100000000) := by
  unfold fltL at h
  by_cases h1 : lnOk C ps = true
  · rw [if_pos h1] at h
    by_cases h2 : (inOk ins && (decide (0 ≤ n) && decide (n ≤ 1000)) && (decide (0 ≤ s) && decide (s ≤ 100000000))) = true
    · simp only [Bool.and_eq_true, decide_eq_true_eq] at h2
      exact ⟨h1, h2.1.1, h2.1.2, h2.2⟩
    · rw [if_neg h2] at h; omega
  · rw [if_neg h1] at h; omega
theorem lnOk_iff {C : Int} {ps : List (Int × Int × Int)} : lnOk C ps = true ↔ (0 ≤ C ∧ C ≤ 100000000) ∧ ps.length ≤ 16 ∧ ps.all ptOk = true := by
  unfold lnOk
  simp only [Bool.and_eq_true, decide_eq_true_eq]
theorem retTT {fn : Func} {a : Act} {W : World} {R : Ending → World → Prop} {i j : Nat} {x y : Value} (hfn : fn.results = #[.tmp i, .tmp j]) (hi : a.tmps[i]?.getD undef = x) (hj : a.tmps[j]?.getD undef = y) (hd : a.defers = [])
    (hR : R (.returned (.tuple #[x, y])) W) : bodyPost Try.prog fn R .ret a W :=
  bodyPost_ret (v := .tuple #[x, y]) (by simp [results, hfn, hi, hj, go_sem]) hd hR
end Go.Proofs.Ytpokpgnclohiiaa.v6

namespace Go.Proofs.Ytpokpgnclohiiaa.v6
open Go.RowKit Go.Shelf

/-- The cells of some blocks stand. -/
structure KpG (Gd : Nat → Prop) (X Y : World) : Prop where
  size : X.heap.size ≤ Y.heap.size
  same : ∀ (k : Nat) (cs : Array Value) (t : TypeId) (fr : Nat × Nat), Gd k → X.heap[k]? = some (.cells cs t fr) → Y.heap[k]? = some (.cells cs t fr)
/-- An iterator's own steps: S: where its blocks begin; m: how many boxes of its own it has. -/
structure OwnIt (S m : Nat) (X Y : World) : Prop where
  os : Y.os = X.os
  tape : Y.tape = X.tape
  output : Y.output = X.output
  size : X.heap.size ≤ Y.heap.size
  same : ∀ (k : Nat) (o : Obj), X.heap[k]? = some o → (k < S ∨ (o.isCells = true ∧ S + m ≤ k)) → Y.heap[k]? = some o
/-- What a round that goes on keeps: the cells of some blocks and of the iterator's boxes; what is no cells from S on. -/
structure KpIt (S m : Nat) (Gd : Nat → Prop) (X Y : World) : Prop where
  size : X.heap.size ≤ Y.heap.size
  cells : ∀ (k : Nat) (cs : Array Value) (t : TypeId) (fr : Nat × Nat), (Gd k ∨ (S ≤ k ∧ k < S + m)) → X.heap[k]? = some (.cells cs t fr) → Y.heap[k]? = some (.cells cs t fr)
  others : ∀ (k : Nat) (o : Obj), S ≤ k → X.heap[k]? = some o → o.isCells = false → Y.heap[k]? = some o
section
variable {Gd : Nat → Prop} {S m : Nat} {X Y Z : World}
theorem at_lt {X : World} {b : Nat} {o : Obj} (h : X.heap[b]? = some o) : b < X.heap.size := (Array.getElem?_eq_some_iff.1 h).1
theorem KpG.refl (X : World) : KpG Gd X X := ⟨Nat.le_refl _, fun _ _ _ _ _ h => h⟩
theorem KpG.trans (h : KpG Gd X Y) (k : KpG Gd Y Z) : KpG Gd X Z := ⟨Nat.le_trans h.size k.size, fun i cs t fr g hi => k.same i cs t fr g (h.same i cs t fr g hi)⟩
theorem KpG.of_below {B : Nat} (h : Below B X Y) (hB : X.heap.size ≤ B) : KpG Gd X Y := ⟨h.size, fun k _ _ _ _ hk => (h.block k (Nat.lt_of_lt_of_le (at_lt hk) hB)).trans hk⟩
theorem OwnIt.refl (X : World) : OwnIt S m X X := ⟨rfl, rfl, rfl, Nat.le_refl _, fun _ _ h _ => h⟩
theorem OwnIt.trans (h : OwnIt S m X Y) (k : OwnIt S m Y Z) : OwnIt S m X Z := ⟨k.os.trans h.os, k.tape.trans h.tape, k.output.trans h.output, Nat.le_trans h.size k.size, fun i o hi ho => k.same i o (h.same i o hi ho) ho⟩
theorem OwnIt.of_below {B : Nat} (h : Below B X Y) (hB : X.heap.size ≤ B) : OwnIt S m X Y := ⟨h.os, h.tape, h.output, h.size, fun k _ hk _ => (h.block k (Nat.lt_of_lt_of_le (at_lt hk) hB)).trans hk⟩
/-- The steps of an iterator within another one's. -/
theorem OwnIt.outer {S' m' : Nat} (h : OwnIt S' m' X Y) (hS : S ≤ S') (hm : m' = 0) : OwnIt S m X Y := ⟨h.os, h.tape, h.output, h.size, fun k o hk ho => h.same k o hk (by
  subst hm
  rcases Nat.lt_or_ge k S' with h1 | h1
  · exact .inl h1
  · rcases ho with h2 | h2
    · omega
    · exact .inr ⟨h2.1, h1⟩)⟩
theorem put_else {W : World} {l k : Nat} {o' : Obj} {o : Obj} (hk : W.heap[k]? = some o) (hne : k ≠ l) : (W.putObj l o').heap[k]? = some o := (World.putObj_heap_other hne).trans hk
theorem put_here {W : World} {l : Nat} {o : Obj} (o' : Obj) (hl : W.heap[l]? = some o) : (W.putObj l o').heap[l]? = some o' := World.putObj_heap_same (Array.getElem?_eq_some_iff.1 hl).1
theorem put_cells {l : Nat} {o o' : Obj} {k : Nat} {cs : Array Value} {T : TypeId} {fr : Nat × Nat} (hk : X.heap[k]? = some (.cells cs T fr)) (hl : X.heap[l]? = some o) (ho : o.isCells = false) : (X.putObj l o').heap[k]? = some (.cells cs T fr) :=
  put_else hk (fun e => by subst e; rw [hl] at hk; cases hk; cases ho)
theorem OwnIt.put {l : Nat} {o : Obj} (o' : Obj) (hS : S ≤ l) (hl : X.heap[l]? = some o) (ho : o.isCells = false) : OwnIt S m X (X.putObj l o') :=
  ⟨rfl, rfl, rfl, by simp, fun k u hk hu => put_else hk (fun e => by
    subst e
    rw [hl] at hk; cases hk
    rcases hu with h | h
    · omega
    · rw [ho] at h; cases h.1)⟩
theorem OwnIt.store {b : Nat} (h : S ≤ b) (h2 : b < S + m) (x : Value) (o : Nat) : OwnIt S m X (X.setCell ⟨b, o, none⟩ x) :=
  ⟨rfl, rfl, rfl, by simp [World.setCell], fun k u hk hu => by
    have hne : k ≠ b := by rcases hu with h1 | h1 <;> omega
    rw [Below.heap_setCell _ ⟨b, o, none⟩ x k hne]; exact hk⟩
theorem KpG.put {l : Nat} {o : Obj} (o' : Obj) (hl : X.heap[l]? = some o) (ho : o.isCells = false) : KpG Gd X (X.putObj l o') :=
  ⟨by simp, fun k cs t fr _ hk => put_cells hk hl ho⟩
theorem KpIt.refl (X : World) : KpIt S m Gd X X := ⟨Nat.le_refl _, fun _ _ _ _ _ h => h, fun _ _ _ h _ => h⟩
theorem KpIt.trans (h : KpIt S m Gd X Y) (k : KpIt S m Gd Y Z) : KpIt S m Gd X Z :=
  ⟨Nat.le_trans h.size k.size, fun i cs t fr g hi => k.cells i cs t fr g (h.cells i cs t fr g hi), fun i o hS hi ho => k.others i o hS (h.others i o hS hi ho) ho⟩
theorem KpIt.put {l : Nat} {o : Obj} (o' : Obj) (hS : l < S) (hl : X.heap[l]? = some o) (ho : o.isCells = false) : KpIt S m Gd X (X.putObj l o') :=
  ⟨by simp, fun k cs t fr _ hk => put_cells hk hl ho, fun k u hk hu _ => put_else hu (by omega)⟩
theorem KpIt.of_below {B : Nat} (h : Below B X Y) (hB : X.heap.size ≤ B) : KpIt S m Gd X Y :=
  ⟨h.size, fun k _ _ _ _ hk => (h.block k (Nat.lt_of_lt_of_le (at_lt hk) hB)).trans hk, fun k _ _ hk _ => (h.block k (Nat.lt_of_lt_of_le (at_lt hk) hB)).trans hk⟩
theorem KpIt.good (h : KpIt S m Gd X Y) : KpG Gd X Y := ⟨h.size, fun k cs t fr g hk => h.cells k cs t fr (.inl g) hk⟩
theorem KpIt.from (h : KpIt S m Gd X Y) : KeepsFrom S X Y := ⟨h.size, fun k o hS hk ho => h.others k o hS hk ho⟩
theorem kf_up {B B' : Nat} (h : KeepsFrom B X Y) (hB : B ≤ B') : KeepsFrom B' X Y := ⟨h.size, fun k o hk ho => h.same k o (by omega) ho⟩
theorem kf_put {B l : Nat} (o' : Obj) (hS : l < B) : KeepsFrom B X (X.putObj l o') := ⟨by simp, fun k u hk hu _ => put_else hu (by omega)⟩
theorem kf_below {A B : Nat} (h : Below B X Y) (hB : X.heap.size ≤ B) : KeepsFrom A X Y := ⟨h.size, fun k _ _ hk _ => (h.block k (Nat.lt_of_lt_of_le (at_lt hk) hB)).trans hk⟩
theorem kf_store {B b o : Nat} (x : Value) {cs : Array Value} {t : TypeId} {fr : Nat × Nat} (hb : X.heap[b]? = some (.cells cs t fr)) : KeepsFrom B X (X.setCell ⟨b, o, none⟩ x) :=
  ⟨by simp [World.setCell], fun k u _ hk hu => by
    have hne : k ≠ b := fun e => by subst e; rw [hb] at hk; cases hk; cases hu
    rw [Below.heap_setCell _ ⟨b, o, none⟩ x k hne]; exact hk⟩
theorem calls_wide {n : Nat} {P : Program} {f : FuncId} {args : Array Value} {w : World} {R : Ending → World → Prop} (h : Calls P f args w R) : CallsIn Fence.wide n P f args w R := callsIn_wide.2 h
end
/-- What an iterator is: whatever holds between two rounds and abides the iterator's own steps, holds behind all rounds, or a round has left. -/
def SeqIt {α : Type} (n : Nat) (P : Program) (g : Nat) (lb : Array Value) (m : Nat) (Gd : Nat → Prop) (ok : Array Value → α → Prop) (ts : List α) (w : World) : Prop :=
  ∀ (l : Nat) (J Jx : List α → World → Prop) (W : World), KpG Gd w W → l < W.heap.size →
    (∀ pre X Y, J pre X → OwnIt W.heap.size m X Y → J pre Y) → (∀ pre X Y, Jx pre X → OwnIt W.heap.size m X Y → Jx pre Y) →
    (∀ pre v t W1, J pre W1 → W.heap.size + m ≤ W1.heap.size → ok v t → pre ++ [t] <+: ts → YieldAt Fence.wide (n - 1) P l v W1 fun e W' =>
      (e = .returned (.bool true) ∧ J (pre ++ [t]) W' ∧ KpIt W.heap.size m Gd W1 W') ∨ (e = .returned (.bool false) ∧ Jx (pre ++ [t]) W' ∧ KeepsFrom W.heap.size W1 W')) →
    J [] W →
    CallsIn Fence.wide n P g (#[.func (.yield l) #[] #[]] ++ lb) W fun e W' => (∃ v, e = .returned v) ∧ (J ts W' ∨ ∃ pre, pre <+: ts ∧ Jx pre W')

theorem YieldAt.any {m : Nat} (m' : Nat) {P : Program} {l : Nat} {args : Array Value} {W : World} {R : Ending → World → Prop} (h : YieldAt Fence.wide m P l args W R) : YieldAt Fence.wide m' P l args W R := by
  obtain ⟨fn, tmps, assign, body, hy, hR⟩ := h
  exact ⟨fn, tmps, assign, body, hy, ⟨hR.1, fun c cs _ => hR.2 c cs (room_wide _)⟩⟩
section
variable {α : Type} {n : Nat} {P : Program}
theorem wpIn_it {g : Operand} {ps : Array Tmp} {assign body : Code} {Q : Exit → Act → World → Prop} {a : Act} {w : World}
    (h1 : 1 ≤ n) {gf : Nat} {lb : Array Value} (hg : a.eval g = .func (.func gf) #[] lb) (eg : ∀ args w, (callFunc gf args).run P w = .ok (.enter gf args) w)
    {m : Nat} {Gd : Nat → Prop} {ok : Array Value → α → Prop} {ts : List α} {w0 : World} (hseq : SeqIt (n - 1) P gf lb m Gd ok ts w0) (hb0 : KpG Gd w0 w) (hps : ∀ v t, ok v t → v.size = ps.size)
    (I : List α → World → Prop) (Ix : Code → List α → World → Prop)
    (hIE : ∀ pre X Y, I pre X → OwnIt (w.heap.size + 2) m X Y → I pre Y) (hXE : ∀ c pre X Y, Ix c pre X → OwnIt (w.heap.size + 2) m X Y → Ix c pre Y)
    (hIP : ∀ (pre : List α) (X : World) (l : Nat) (o o' : Obj), I pre X → l = w.heap.size ∨ l = w.heap.size + 1 → X.heap[l]? = some o → o.isCells = false → I pre (X.putObj l o'))
    (hXP : ∀ (c : Code) (pre : List α) (X : World) (l : Nat) (o o' : Obj), Ix c pre X → l = w.heap.size ∨ l = w.heap.size + 1 → X.heap[l]? = some o → o.isCells = false → Ix c pre (X.putObj l o'))
    (h0 : I [] w)
    (hround : ∀ (l : Nat) (pre : List α) (v : Array Value) (t : α) (W : World) (K : Act → World → Prop), pre ++ [t] <+: ts → ok v t →
      (∀ (a' : Act) (W' : World), Below W.heap.size W W' → (∀ X : World, (∃ o o' : Obj, W'.heap[l]? = some o ∧ o.isCells = false ∧ X = W'.putObj l o') → w.heap.size + 2 + m ≤ X.heap.size → I pre X → body.wpIn (Fence.wide.inRound l) (n - 1 - 1) P (ownPostG w.heap.size (KpIt (w.heap.size + 2) m Gd) I Ix (pre ++ [t]) X) a' X) → K a' W') →
      assign.wpIn (Fence.wide.inRound l) (n - 1 - 1) P (Exit.then K (fun _ _ _ => False)) { tmps := (ps.zip v).foldl (fun t (p, v) => t.setIfInBounds p v) a.tmps, defers := [] } W)
    (hdone : ∀ (D : Nat) (W : World), D = w.heap.size → I ts W → W.heap[D]? = some (.deferred (some [])) → Q .normal { a with defers := { target := .collected D, args := #[] } :: a.defers } W)
    (hstop : ∀ (D : Nat) (c : Code) (pre : List α) (W : World), D = w.heap.size → pre <+: ts → Ix c pre W → W.heap[D]? = some (.deferred (some [])) → c.wpIn Fence.wide n P Q { a with defers := { target := .collected D, args := #[] } :: a.defers } W) :
    (Code.rangeFunc g ps assign body).wpIn Fence.wide n P Q a w := by
  refine wpIn_rangeFunc fun fn hfn => ?_
  let D := w.heap.size
  let rec0 : LoopState → Option Code → Loop := fun st pe => { state := st, pending := pe, fn, tmps := a.tmps, params := ps, assign, body, defers := D }
  obtain ⟨V, hV⟩ : ∃ V, (w.alloc (.deferred (some []))).alloc (.loop (rec0 .ready none)) = V := ⟨_, rfl⟩
  have sV : (w.alloc (.deferred (some []))).heap.size = D + 1 := World.size_alloc ..
  have sV2 : V.heap.size = w.heap.size + 2 := by rw [← hV, World.size_alloc, sV]
  have lV : V.heap[D + 1]? = some (.loop (rec0 .ready none)) := by
    have := World.alloc_heap_new (w.alloc (.deferred (some []))) (.loop (rec0 .ready none))
    rwa [sV, hV] at this
  have dV : V.heap[D]? = some (.deferred (some [])) := by
    rw [← hV]
    exact (Below.heap_alloc _ _ _ (by rw [sV]; exact Nat.lt_succ_self _)).trans (World.alloc_heap_new w _)
  have bV : Below w.heap.size w V := by rw [← hV]; exact ((Below.refl _ w).alloc (Nat.le_refl _) _).alloc (by rw [sV]; exact Nat.le_succ _) _
  have iV : I [] V := hIE _ _ _ h0 (OwnIt.of_below bV (Nat.le_refl _))
  refine ⟨D + 1, [{ target := .collected D, args := #[] }], V, { target := .fn (.func gf) lb, args := #[.func (.yield (D + 1)) #[] #[]] }, V, gf, #[.func (.yield (D + 1)) #[] #[]] ++ lb, V, ?_, ?_, ?_, ?_, fun _ => h1, ?_⟩
  · rw [← hV]; exact run_enterLoop_outer _ _ _ _ _
  · simp only [resolve, hg]; simp [go_sem]
  · intro f' hf'; trivial
  · simp [invoke, go_sem, eg]
  -- between two rounds the record is ready and nothing is deferred; a round that has left lays its jump
  refine (hseq (D + 1) (fun pre W => I pre W ∧ W.heap[D + 1]? = some (.loop (rec0 .ready none)) ∧ W.heap[D]? = some (.deferred (some [])))
    (fun pre W => ∃ c, Ix c pre W ∧ W.heap[D + 1]? = some (.loop (rec0 .done (some c))) ∧ W.heap[D]? = some (.deferred (some []))) V (hb0.trans (KpG.of_below bV (Nat.le_refl _))) (by rw [sV2]; exact Nat.lt_succ_self _)
    (fun pre X Y h hE => ?_) (fun pre X Y h hE => ?_) ?_ ⟨iV, lV, dV⟩).mono ?_
  · rw [sV2] at hE
    exact ⟨hIE _ _ _ h.1 hE, hE.same _ _ h.2.1 (.inl (Nat.lt_succ_self _)), hE.same _ _ h.2.2 (.inl (by show w.heap.size < _; omega))⟩
  · rw [sV2] at hE
    obtain ⟨c, hc, hl, hd⟩ := h
    exact ⟨c, hXE _ _ _ _ hc hE, hE.same _ _ hl (.inl (Nat.lt_succ_self _)), hE.same _ _ hd (.inl (by show w.heap.size < _; omega))⟩
  · rw [sV2]
    rintro pre v t W ⟨hi, hl, hd⟩ hsz hv hpre
    refine ⟨fn, _, assign, body, run_yield hl (by simp [rec0, hps _ _ hv]), roundIn_of_wpIn hfn (hround (D + 1) pre v t W _ hpre hv fun a' W' hBW hbody => ⟨_, run_beginRound ((hBW.block _ (Array.getElem?_eq_some_iff.1 hl).1).trans hl) rfl, ?_⟩)⟩
    have hl1 := (hBW.block _ (Array.getElem?_eq_some_iff.1 hl).1).trans hl
    have hd1 := (hBW.block _ (Array.getElem?_eq_some_iff.1 hd).1).trans hd
    have hi1 := hIE pre W W' hi (OwnIt.of_below hBW (Nat.le_refl _))
    have hl2 := put_here (.loop { rec0 .ready none with state := .busy }) hl1
    have hd2 : (W'.putObj (D + 1) (.loop { rec0 .ready none with state := .busy })).heap[D]? = some (.deferred (some [])) := put_else hd1 (by omega)
    have hk2 : KpIt (w.heap.size + 2) m Gd W (W'.putObj (D + 1) (.loop { rec0 .ready none with state := .busy })) := (KpIt.of_below hBW (Nat.le_refl _)).trans (KpIt.put _ (by show w.heap.size + 1 < _; omega) hl1 rfl)
    have hk3 : KeepsFrom (w.heap.size + 2) W (W'.putObj (D + 1) (.loop { rec0 .ready none with state := .busy })) := (kf_below hBW (Nat.le_refl _)).trans (kf_put _ (by show w.heap.size + 1 < _; omega))
    refine wpIn_mono (hbody _ ⟨_, _, hl1, rfl, rfl⟩ (by simp; exact Nat.le_trans hsz hBW.size) (hIP _ _ _ _ _ hi1 (.inr rfl) hl1 rfl)) ?_
    generalize W'.putObj (D + 1) (.loop { rec0 .ready none with state := .busy }) = X at hl2 hd2 hk2 hk3
    -- the end of a round
    have fin : ∀ (jump : Option Code) (Y : World), KeepsFrom w.heap.size X Y → Y.heap[D + 1]? = some (.loop { rec0 .ready none with state := .busy }) ∧
        (Instr.endRound (D + 1) jump).run P Y = .ok (.bool jump.isNone) (Y.putObj (D + 1) (.loop (rec0 (if jump.isNone then .ready else .done) jump))) ∧
        (Y.putObj (D + 1) (.loop (rec0 (if jump.isNone then .ready else .done) jump))).heap[D + 1]? = some (.loop (rec0 (if jump.isNone then .ready else .done) jump)) ∧
        (Y.putObj (D + 1) (.loop (rec0 (if jump.isNone then .ready else .done) jump))).heap[D]? = some (.deferred (some [])) := fun jump Y hY => by
      have l3 := hY.same _ _ (Nat.le_succ _) hl2 rfl
      exact ⟨l3, run_endRound jump l3, put_here _ l3, put_else (hY.same _ _ (Nat.le_refl _) hd2 rfl) (by omega)⟩
    intro e a3 Y hp
    have left : ∀ c : Code, KeepsFrom w.heap.size X Y → Ix c (pre ++ [t]) Y → ∃ v w', (Instr.endRound (D + 1) (some c)).run P Y = .ok v w' ∧ ((Ending.returned v = .returned (.bool true) ∧ (I (pre ++ [t]) w' ∧ w'.heap[D + 1]? = some (.loop (rec0 .ready none)) ∧ w'.heap[D]? = some (.deferred (some []))) ∧ KpIt (w.heap.size + 2) m Gd W w') ∨
        (Ending.returned v = .returned (.bool false) ∧ (∃ c, Ix c (pre ++ [t]) w' ∧ w'.heap[D + 1]? = some (.loop (rec0 .done (some c))) ∧ w'.heap[D]? = some (.deferred (some []))) ∧ KeepsFrom (w.heap.size + 2) W w')) := fun c hY hx => by
      obtain ⟨l3, r3, l4, d4⟩ := fin (some c) Y hY
      exact ⟨_, _, r3, .inr ⟨rfl, ⟨c, hXP _ _ _ _ _ _ hx (.inr rfl) l3 rfl, l4, d4⟩, (hk3.trans (kf_up hY (by omega))).trans (kf_put _ (by show w.heap.size + 1 < _; omega))⟩⟩
    cases e with
    | normal =>
      obtain ⟨hY, hkp, hi3⟩ := hp
      obtain ⟨l3, r3, l4, d4⟩ := fin none Y hY
      exact ⟨_, _, r3, .inl ⟨rfl, ⟨hIP _ _ _ _ _ hi3 (.inr rfl) l3 rfl, l4, d4⟩, (hk2.trans hkp).trans (KpIt.put _ (by show w.heap.size + 1 < _; omega) l3 rfl)⟩⟩
    | ret => exact left .ret hp.1 hp.2
    | exit id => exact left (.exit id) hp.1 hp.2
    | goto t => exact left (.goto t) hp.1 hp.2
    | panic ch => exact hp.elim
    | outgrown => exact hp.elim
  · rintro e Y ⟨⟨v, rfl⟩, ⟨hi, hl, hd⟩ | ⟨pre, hpre, c, hx, hl, hd⟩⟩
    · exact ⟨none, _, run_endLoop hl (by simp [rec0]), hdone D _ rfl (hIP _ _ _ _ _ hi (.inr rfl) hl rfl) (put_else hd (by omega))⟩
    · exact ⟨some c, _, run_endLoop hl (by simp [rec0]), hstop D c pre _ rfl hpre (hXP _ _ _ _ _ _ hx (.inr rfl) hl rfl) (put_else hd (by omega))⟩
end
end Go.Proofs.Ytpokpgnclohiiaa.v6

namespace Go.Proofs.Ytpokpgnclohiiaa.v6
open Go.RowKit

set_option maxRecDepth 100000

/-- A part, as a value. -/
def ptV (p : Int × Int × Int) : Value := .agg #[.int .i64 p.1, .int .i64 p.2.1, .int .i64 p.2.2]
/-- All blocks but b stand. -/
structure But (b : Nat) (X Y : World) : Prop where
  os : Y.os = X.os
  tape : Y.tape = X.tape
  output : Y.output = X.output
  size : X.heap.size ≤ Y.heap.size
  same : ∀ (k : Nat) (o : Obj), k ≠ b → X.heap[k]? = some o → Y.heap[k]? = some o
section
variable {b : Nat} {X Y Z : World}
theorem But.refl (X : World) : But b X X := ⟨rfl, rfl, rfl, Nat.le_refl _, fun _ _ _ h => h⟩
theorem But.trans (h : But b X Y) (k : But b Y Z) : But b X Z := ⟨k.os.trans h.os, k.tape.trans h.tape, k.output.trans h.output, Nat.le_trans h.size k.size, fun i o ho hi => k.same i o ho (h.same i o ho hi)⟩
theorem But.of_below {B : Nat} (h : Below B X Y) (hB : X.heap.size ≤ B) : But b X Y := ⟨h.os, h.tape, h.output, h.size, fun k _ _ hk => (h.block k (Nat.lt_of_lt_of_le (at_lt hk) hB)).trans hk⟩
theorem But.store (x : Value) (o : Nat) : But b X (X.setCell ⟨b, o, none⟩ x) :=
  ⟨rfl, rfl, rfl, by simp [World.setCell], fun k u hne hk => by rw [Below.heap_setCell _ ⟨b, o, none⟩ x k hne]; exact hk⟩
theorem But.drew : But b X X.drew := ⟨rfl, rfl, rfl, Nat.le_refl _, fun _ _ _ h => h⟩
theorem But.below {w : World} (h : But b X Y) (k : Below w.heap.size w X) (hb : w.heap.size ≤ b) : Below w.heap.size w Y := by
  refine ⟨h.os.trans k.os, h.tape.trans k.tape, h.output.trans k.output, Nat.le_trans k.size h.size, fun i hi => ?_⟩
  have hlt : i < X.heap.size := Nat.lt_of_lt_of_le hi k.size
  have h3 := Array.getElem?_eq_getElem hlt
  have := h.same i _ (by omega) h3
  rw [this, ← h3]
  exact k.block i hi
theorem But.good {Gd : Nat → Prop} (h : But b X Y) (hg : ∀ k, Gd k → k ≠ b) : KpG Gd X Y := ⟨h.size, fun k _ _ _ g hk => h.same k _ (hg k g) hk⟩
end
section
variable {Gd : Nat → Prop} {X Y : World}
theorem cell_kept {c o : Nat} {v : Value} (h : X.cell? ⟨c, o, none⟩ = some v) (hk : KpG Gd X Y) (g : Gd c) : Y.cell? ⟨c, o, none⟩ = some v := by
  obtain ⟨ob, hob, hcl⟩ := cells_of_cell h
  cases ob with
  | cells cs t fr => exact (World.cell?_of_block (a := ⟨c, o, none⟩) ((hk.same _ _ _ _ g hob).trans hob.symm)).trans h
  | _ => cases hcl
theorem IntSl.kept {w : World} {v : Value} {l : List Int} (h : IntSl w v l) (h1 : Below w.heap.size w X) (hk : KpG Gd X Y) (hg : ∀ k, k < w.heap.size → Gd k) : IntSl Y v l := by
  obtain ⟨A, c, h1', h2, h3, h5, h4⟩ := h
  refine ⟨A, c, h1', h2, h3, h5, fun h0 => ?_⟩
  obtain ⟨b, o, e, hlt, hc⟩ := h4 h0
  exact ⟨b, o, e, Nat.lt_of_lt_of_le hlt (Nat.le_trans h1.size hk.size), fun j x hj => cell_kept ((h1.cell (p := ⟨b, o + j, none⟩) hlt).trans (hc j x hj)) hk (hg b hlt)⟩
theorem LiSl.kept {w : World} {v : Value} {ls : List (List Int)} (h : LiSl w v ls) (h1 : Below w.heap.size w X) (hk : KpG Gd X Y) (hg : ∀ k, k < w.heap.size → Gd k) : LiSl Y v ls := by
  obtain ⟨A, c, h1', h2, h3, h4⟩ := h
  refine ⟨A, c, h1', h2, h3, fun h0 => ?_⟩
  obtain ⟨b, o, e, hlt, hc⟩ := h4 h0
  refine ⟨b, o, e, Nat.lt_of_lt_of_le hlt (Nat.le_trans h1.size hk.size), fun j l hj => ?_⟩
  obtain ⟨u, hu, hl⟩ := hc j l hj
  exact ⟨u, cell_kept ((h1.cell (p := ⟨b, o + j, none⟩) hlt).trans hu) hk (hg b hlt), hl.kept h1 hk hg⟩
theorem PtSl.kept {w : World} {v : Value} {l : List (Int × Int × Int)} (h : PtSl w v l) (h1 : Below w.heap.size w X) (hk : KpG Gd X Y) (hg : ∀ k, k < w.heap.size → Gd k) : PtSl Y v l := by
  obtain ⟨A, c, h1', h2, h3, h4⟩ := h
  refine ⟨A, c, h1', h2, h3, fun h0 => ?_⟩
  obtain ⟨b, o, e, hlt, hc⟩ := h4 h0
  refine ⟨b, o, e, Nat.lt_of_lt_of_le hlt (Nat.le_trans h1.size hk.size), fun j p hj => ?_⟩
  obtain ⟨c1, c2, c3⟩ := hc j p hj
  exact ⟨cell_kept ((h1.cell (p := ⟨b, o + j * 3, none⟩) hlt).trans c1) hk (hg b hlt), cell_kept ((h1.cell (p := ⟨b, o + j * 3 + 1, none⟩) hlt).trans c2) hk (hg b hlt), cell_kept ((h1.cell (p := ⟨b, o + j * 3 + 2, none⟩) hlt).trans c3) hk (hg b hlt)⟩
end
theorem one_cell {W : World} {b : Nat} {x0 : Value} {T : TypeId} (h : W.heap[b]? = some (.cells #[x0] T (0, 0))) : W.cell? ⟨b, 0, none⟩ = some x0 := by simp [World.cell?, h]
theorem row_new (W : World) (o : Obj) (b : Nat) (hb : b = W.heap.size) : (W.alloc o).heap[b]? = some o := by subst hb; exact heap_alloc_new W o
theorem old_heap {X : World} {b : Nat} {o : Obj} (o' : Obj) (h : X.heap[b]? = some o) : (X.alloc o').heap[b]? = some o := (Below.heap_alloc _ _ _ (at_lt h)).trans h
theorem cell_of {W : World} {b i : Nat} {cs : Array Value} {T : TypeId} {fr : Nat × Nat} {v : Value} (h : W.heap[b]? = some (.cells cs T fr)) (hi : cs[i]? = some v) : W.cell? ⟨b, i, none⟩ = some v := by simp [World.cell?, h, hi]
theorem but_box {bs b : Nat} {X Y : World} {T : TypeId} {v : Value} (h : Boxed X b T v) (k : But bs X Y) (hne : b ≠ bs) : Boxed Y b T v := k.same _ _ hne h
set_option maxHeartbeats 8000000 in
theorem c_arriving1 (s : Nat) (m d t z : Int) (ins : List (List Int)) (I : Value) (bs bi bt : Nat) (hp : s ≤ 15 ∧ 0 ≤ m ∧ m ≤ 1000 ∧ 0 ≤ d ∧ d ≤ 1000) (hi : inOk ins = true) (hz : 0 ≤ z ∧ z ≤ 10000000000000) (ht : 0 ≤ t ∧ t ≤ 100000)
    (W : World) (h1 : Boxed W bs 3 (.int .i64 z)) (h2 : Boxed W bi 57 I) (h3 : Boxed W bt 3 (.int .i64 t)) (hI : ∀ X, But bs W X → LiSl X I ins) (_n1 : bi ≠ bs) (_n2 : bt ≠ bs) :
    Calls Try.prog 55 #[ptV (s, m, d), .pointer (some ⟨bs, 0, none⟩), .pointer (some ⟨bi, 0, none⟩), .pointer (some ⟨bt, 0, none⟩)] W fun e w' => (∃ v, e = .returned v) ∧ But bs W w' ∧ Boxed w' bs 3 (.int .i64 (z + m * giv ins s (t - d))) := by
  unfold ptV
  obtain ⟨g, hg⟩ : ∃ g, giv ins s (t - d) = g := ⟨_, rfl⟩
  have hg2 := giv_bounds hi s (t - d)
  rw [hg] at hg2
  have hmg : 0 ≤ m * g ∧ m * g ≤ 100000000000 := by
    refine ⟨Int.mul_nonneg hp.2.1 hg2.1, ?_⟩
    have := Int.mul_le_mul hp.2.2.1 hg2.2 hg2.1 (by omega : (0 : Int) ≤ 1000)
    omega
  have hw1 : IntKind.i64.wrap (m * g) = m * g := by rw [IntKind.wrap_i64]; omega
  have hw2 : IntKind.i64.wrap (z + m * g) = z + m * g := by rw [IntKind.wrap_i64]; omega
  have hw3 : IntKind.i64.wrap (t - d) = t - d := by rw [IntKind.wrap_i64]; omega
  obtain ⟨V, hV⟩ : ∃ V, V = W.alloc (.cells #[.int .i64 (s : Int), .int .i64 m, .int .i64 d] 82) := ⟨_, rfl⟩
  have hB : Below W.heap.size W V := by subst hV; exact (Below.refl _ _).alloc (Nat.le_refl _) _
  have HBU := Lib.hid (But.of_below (b := bs) hB (Nat.le_refl _))
  have HP := Lib.hid (show V.heap[W.heap.size]? = some (.cells #[.int .i64 (s : Int), .int .i64 m, .int .i64 d] 82 (0, 0)) by subst hV; exact heap_alloc_new _ _)
  have H1 := Lib.hid ((hB.block _ h1.lt).trans h1)
  have H2 := Lib.hid ((hB.block _ h2.lt).trans h2)
  have H3 := Lib.hid ((hB.block _ h3.lt).trans h3)
  have HG := Lib.hid (c_given s (t - d) (by omega) ins I V.drew (hI _ (HBU.out.trans But.drew)) g hg)
  rw [hg]
  have x1 : V.cell? ⟨bs, 0, none⟩ = some (.int .i64 z) := one_cell H1.out
  have f1 : V.frozen? ⟨bs, 0, none⟩ = false := (show Boxed V bs 3 (.int .i64 z) from H1.out).frozen
  have x2 : V.cell? ⟨bi, 0, none⟩ = some I := one_cell H2.out
  have x3 : V.cell? ⟨bt, 0, none⟩ = some (.int .i64 t) := one_cell H3.out
  have n3 : W.heap.size ≠ bs := by have := h1.lt; omega
  have p0 : V.cell? ⟨W.heap.size, 0, none⟩ = some (.int .i64 (s : Int)) := by simp [World.cell?, HP.out]
  have p1 : V.cell? ⟨W.heap.size, 1, none⟩ = some (.int .i64 m) := by simp [World.cell?, HP.out]
  have p2 : V.cell? ⟨W.heap.size, 2, none⟩ = some (.int .i64 d) := by simp [World.cell?, HP.out]
  clear h1 h2 h3 hI hB hg hi hg2 hmg
  go_enter Try.func55, Try.ntmps55
  go_wp2_with (fail)
  rw [← hV]
  clear hV
  refine wp_region_still_tail 13 (by kernel_rfl) (by kernel_rfl) ?_
  simp only [List.take_succ_cons, List.take_zero, List.drop_succ_cons, List.drop_zero]
  iterate 10 still_step
  refine wpStill_step (fun K hK => ?_)
  go_simp
  refine ⟨_, HG.out.mono (fun e w' h => ⟨h.1, h.2.symm⟩), hK _ ?_⟩
  clear hK K
  iterate 2 still_step
  refine wpStill_nil ?_
  change wpList _ _ _ _ _ V.drew
  have HBD := Lib.hid (HBU.out.trans (But.drew (X := V)))
  have H1D := Lib.hid (show Boxed V.drew bs 3 (.int .i64 z) from H1.out)
  have fd : V.drew.frozen? ⟨bs, 0, none⟩ = false := H1D.out.frozen
  have xd : V.drew.cell? ⟨bs, 0, none⟩ = some (.int .i64 z) := H1D.out.cell
  generalize V.drew = w2 at HBD H1D fd xd ⊢
  clear x1 x2 x3 p0 p1 p2 f1
  go_wp2_with (fail)
  exact bodyPost_end (results_none rfl _ _ _) rfl ⟨⟨_, rfl⟩, HBD.out.trans (But.store _ _), H1D.out.set _⟩
end Go.Proofs.Ytpokpgnclohiiaa.v6

namespace Go.Proofs.Ytpokpgnclohiiaa.v6
open Go.RowKit
set_option maxRecDepth 100000

theorem PtSl.but {w X Y : World} {v : Value} {l : List (Int × Int × Int)} {bs : Nat} (h : PtSl w v l) (h1 : Below w.heap.size w X) (k : But bs X Y) (hb : w.heap.size ≤ bs) : PtSl Y v l :=
  h.kept (Gd := fun k => k ≠ bs) h1 (k.good fun _ h => h) (fun k hk => by omega)
theorem LiSl.but {w X Y : World} {v : Value} {l : List (List Int)} {bs : Nat} (h : LiSl w v l) (h1 : Below w.heap.size w X) (k : But bs X Y) (hb : w.heap.size ≤ bs) : LiSl Y v l :=
  h.kept (Gd := fun k => k ≠ bs) h1 (k.good fun _ h => h) (fun k hk => by omega)
set_option maxHeartbeats 8000000 in
theorem c_eachPart (C : Int) (ps : List (Int × Int × Int)) (ins : List (List Int)) (t : Int) (hp : ps.all ptOk = true) (hl : ps.length ≤ 16) (hi : inOk ins = true) (ht : 0 ≤ t ∧ t ≤ 100000) (P I : Value) (bs bi bt : Nat) (n1 : bi ≠ bs) (n2 : bt ≠ bs)
    (w : World) (h1 : Boxed w bs 3 (.int .i64 0)) (h2 : Boxed w bi 57 I) (h3 : Boxed w bt 3 (.int .i64 t)) (hP : ∀ X, But bs w X → PtSl X P ps) (hI : ∀ X, But bs w X → LiSl X I ins) :
    Calls Try.prog 54 #[lnV C P, .func (.func 55) #[] #[.pointer (some ⟨bs, 0, none⟩), .pointer (some ⟨bi, 0, none⟩), .pointer (some ⟨bt, 0, none⟩)]] w fun e w' => (∃ v, e = .returned v) ∧ But bs w w' ∧ Boxed w' bs 3 (.int .i64 (arr ps ins t)) := by
  unfold lnV
  obtain ⟨A, c, rfl, hc1, hc2⟩ := (hP w (But.refl w)).shape
  unfold maxLen at hc2
  obtain ⟨W, hW⟩ : ∃ W, W = w.alloc (.cells #[.int .i64 C, .slice A ps.length c] 53) := ⟨_, rfl⟩
  have B0 : Below w.heap.size w W := by subst hW; exact (Below.refl _ _).alloc (Nat.le_refl _) _
  have HBU := Lib.hid (But.of_below (b := bs) B0 (Nat.le_refl _))
  have H1 := Lib.hid (show Boxed W bs 3 (.int .i64 0) from (B0.block _ h1.lt).trans h1)
  have H2 := Lib.hid h2
  have H3 := Lib.hid h3
  have HP := Lib.hid hP
  have HI := Lib.hid hI
  have HALL := Lib.hid hp
  have HIN := Lib.hid hi
  clear hP hI B0 hp hi h1 h2 h3
  go_enter Try.func54, Try.ntmps54
  go_wp2_with (fail)
  rw [← hW]
  clear hW
  go_loopw [9] (fun i wr => ∃ k : Nat, k ≤ ps.length ∧ i = .int .i64 (k : Int) ∧ Hid (But bs w wr) ∧ Hid (Boxed wr bs 3 (.int .i64 (arr (ps.take k) ins t)))) (fun i _ => ps.length - (intOf i).toNat)
  case atStart => exact ⟨0, Nat.zero_le _, rfl, HBU, H1⟩
  case round =>
    obtain ⟨k, hk, rfl, hB, hX⟩ := hrel
    have hki : ((k : Nat) : Int).toNat = k := by omega
    by_cases hlt : k < ps.length
    · obtain ⟨⟨s, m, d⟩, hx⟩ : ∃ p, ps[k]? = some p := ⟨_, List.getElem?_eq_getElem hlt⟩
      obtain ⟨g1, g2, g3, g4, g5, g6⟩ := ptOk_iff.1 (List.all_eq_true.1 HALL.out _ (List.mem_of_getElem? hx))
      have g1 : 0 ≤ s := g1
      have g2 : s ≤ 15 := g2
      have g3 : 0 ≤ m := g3
      have g4 : m ≤ 1000 := g4
      have g5 : 0 ≤ d := g5
      have g6 : d ≤ 1000 := g6
      obtain ⟨b, o, c', e, hb, -, -, y0, y1, y2⟩ := (HP.out wr hB.out).at_ hx
      injection e with e1 e2 e3
      clear e2
      subst e1 e3
      have hs := arr_take_succ hx ins t
      have hz2 := arr_bounds HIN.out (all_take HALL.out k) t
      have hlen : ((ps.take k).length : Int) ≤ 16 := by rw [List.length_take]; omega
      obtain ⟨sn, hsn⟩ : ∃ n : Nat, s = (n : Int) := ⟨s.toNat, by omega⟩
      subst hsn
      obtain ⟨z, hz⟩ : ∃ z, z = arr (ps.take k) ins t := ⟨_, rfl⟩
      rw [← hz] at hz2 hX
      have HZ := Lib.hid (show z + m * giv ins (sn : Int) (t - d) = arr (ps.take (k + 1)) ins t by rw [hs, hz])
      obtain ⟨V, hV⟩ : ∃ V, V = wr.alloc (.cells #[.int .i64 (sn : Int), .int .i64 m, .int .i64 d] 82) := ⟨_, rfl⟩
      have B1 : Below wr.heap.size wr V := by subst hV; exact (Below.refl _ _).alloc (Nat.le_refl _) _
      have HV := Lib.hid (hB.out.trans (But.of_below B1 (Nat.le_refl _)))
      have HXV := Lib.hid (show Boxed V bs 3 (.int .i64 z) from (B1.block _ hX.out.lt).trans hX.out)
      have HC := Lib.hid (c_arriving1 sn m d t z ins I bs bi bt (by omega) HIN.out (by omega) ht V HXV.out (but_box H2.out HV.out n1) (but_box H3.out HV.out n2) (fun X hX => HI.out X (HV.out.trans hX)) n1 n2)
      unfold ptV at HC
      have q0 : V.cell? ⟨wr.heap.size, 0, none⟩ = some (.int .i64 (sn : Int)) := by subst hV; exact cell_of (heap_alloc_new _ _) rfl
      have q1 : V.cell? ⟨wr.heap.size, 1, none⟩ = some (.int .i64 m) := by subst hV; exact cell_of (heap_alloc_new _ _) rfl
      have q2 : V.cell? ⟨wr.heap.size, 2, none⟩ = some (.int .i64 d) := by subst hV; exact cell_of (heap_alloc_new _ _) rfl
      clear hx hb hs hz2 hz hX B1 hlen
      rw [hV] at q0 q1 q2
      go_wp2_with (fail)
      rw [← hV]
      clear hV q0 q1 q2 y0 y1 y2
      refine HC.out.mono ?_
      rintro e w1 ⟨⟨v, rfl⟩, hb1, hx1⟩
      rw [HZ.out] at hx1
      have HB1 := Lib.hid (HV.out.trans hb1)
      have HX1 := Lib.hid hx1
      clear hb1 hx1
      go_wp2_with (fail)
      go_roundw
      case rel => exact ⟨k + 1, by omega, by go_num, HB1, HX1⟩
      case measure => simp only [intOf]; omega
    · obtain rfl : k = ps.length := by omega
      rw [List.take_length] at hX
      go_wp2_with (fail)
      exact bodyPost_end (results_none rfl _ _ _) rfl ⟨⟨_, rfl⟩, hB.out, hX.out⟩
theorem below_a4 (w : World) (o1 o2 o3 o4 : Obj) : Below w.heap.size w ((((w.alloc o1).alloc o2).alloc o3).alloc o4) :=
  ((((Below.refl _ _).alloc (Nat.le_refl _) o1).alloc (by simp) o2).alloc (by simp; omega) o3).alloc (by simp; omega) o4
set_option maxHeartbeats 8000000 in
theorem c_arriving (C : Int) (ps : List (Int × Int × Int)) (ins : List (List Int)) (t : Int) (hp : ps.all ptOk = true) (hl : ps.length ≤ 16) (hi : inOk ins = true) (ht : 0 ≤ t ∧ t ≤ 100000) (P I : Value) (w : World) (hP : PtSl w P ps) (hI : LiSl w I ins) :
    Calls Try.prog 37 #[lnV C P, I, .int .i64 t] w fun e w' => e = .returned (.int .i64 (arr ps ins t)) ∧ Below w.heap.size w w' := by
  obtain ⟨A, c, rfl, hc1, hc2⟩ := hP.shape
  obtain ⟨A2, c2, rfl, hd1, hd2⟩ := hI.shape
  unfold maxLen at hc2 hd2
  obtain ⟨W, hW⟩ : ∃ W, W = (((w.alloc (.cells #[.int .i64 C, .slice A ps.length c] 53)).alloc (.cells #[.slice A2 ins.length c2] 57)).alloc (.cells #[.int .i64 t] 3)).alloc (.cells #[.int .i64 0] 3) := ⟨_, rfl⟩
  have B0 : Below w.heap.size w W := by subst hW; exact below_a4 _ _ _ _ _
  have HB := Lib.hid B0
  have l0 : W.heap[w.heap.size]? = some (.cells #[.int .i64 C, .slice A ps.length c] 53 (0, 0)) := by subst hW; exact old_heap _ (old_heap _ (old_heap _ (heap_alloc_new _ _)))
  have H2 := Lib.hid (show Boxed W (w.heap.size + 1) 57 (.slice A2 ins.length c2) by subst hW; exact old_heap _ (old_heap _ (row_new _ _ _ (by simp))))
  have H3 := Lib.hid (show Boxed W (w.heap.size + 1 + 1) 3 (.int .i64 t) by subst hW; exact old_heap _ (row_new _ _ _ (by simp)))
  have H1 := Lib.hid (show Boxed W (w.heap.size + 1 + 1 + 1) 3 (.int .i64 0) by subst hW; exact row_new _ _ _ (by simp))
  have HE := Lib.hid (c_eachPart C ps ins t hp hl hi ht (.slice A ps.length c) (.slice A2 ins.length c2) (w.heap.size + 1 + 1 + 1) (w.heap.size + 1) (w.heap.size + 1 + 1) (by omega) (by omega) W H1.out H2.out H3.out (fun X hX => hP.but B0 hX (by omega)) (fun X hX => hI.but B0 hX (by omega)))
  unfold lnV at HE
  have x0 : W.cell? ⟨w.heap.size, 0, none⟩ = some (.int .i64 C) := cell_of l0 rfl
  have x1 : W.cell? ⟨w.heap.size, 1, none⟩ = some (.slice A ps.length c) := cell_of l0 rfl
  clear hP hI hp hi B0 l0
  unfold lnV
  rw [hW] at x0 x1
  go_enter Try.func37, Try.ntmps37
  go_wp2_with (fail)
  rw [← hW]
  clear hW x0 x1
  refine HE.out.mono ?_
  rintro e w1 ⟨⟨v, rfl⟩, hb, hx⟩
  have HB1 := Lib.hid (hb.below HB.out (by omega))
  have x1 := hx.cell
  clear hb hx
  go_wp2_with (fail)
  go_ret
  exact ⟨rfl, HB1.out⟩
end Go.Proofs.Ytpokpgnclohiiaa.v6

namespace Go.Proofs.Ytpokpgnclohiiaa.v6
open Go.RowKit Go.Shelf
attribute [local go_sem] Oper.semAt_some
set_option maxRecDepth 100000

/-- One number is yielded. -/
def okI (v : Array Value) (x : Int) : Prop := v = #[.int .i64 x]
theorem below_a3 (w : World) (o1 o2 o3 : Obj) : Below w.heap.size w (((w.alloc o1).alloc o2).alloc o3) :=
  (((Below.refl _ _).alloc (Nat.le_refl _) o1).alloc (by simp) o2).alloc (by simp; omega) o3
theorem c_arrivals (C : Int) (P I : Value) (n : Int) (w : World) (hI : ∃ A m c, I = .slice A m c) :
    Calls Try.prog 26 #[lnV C P, I, .int .i64 n] w fun e w' => e = .returned (.func (.func 36) #[] #[.pointer (some ⟨w.heap.size + 1 + 1, 0, none⟩), .pointer (some ⟨w.heap.size, 0, none⟩), .pointer (some ⟨w.heap.size + 1, 0, none⟩)]) ∧
      w' = ((w.alloc (.cells #[.int .i64 C, P] 53)).alloc (.cells #[I] 57)).alloc (.cells #[.int .i64 n] 3) := by
  obtain ⟨A, m, c, rfl⟩ := hI
  unfold lnV
  go_enter Try.func26, Try.ntmps26
  go_wp2_with (fail)
  exact bodyPost_ret (by simp [results, go_sem]) rfl ⟨rfl, rfl⟩
/-- Between two rounds of arrivals. -/
def ArI (Gd : Nat → Prop) (w : World) (S n : Nat) (ts : List Int) (J : List Int → World → Prop) (i : Value) (wr : World) : Prop :=
  ∃ (k : Nat) (pre : List Int), i = .int .i64 (k : Int) ∧ k ≤ n ∧ Hid (pre = ts.take k) ∧ Hid (KpG Gd w wr) ∧ S ≤ wr.heap.size ∧ J pre wr
theorem take_snoc {α : Type} {l : List α} {k : Nat} {x : α} (h : l[k]? = some x) : l.take (k + 1) = l.take k ++ [x] := by
  obtain ⟨hk, e⟩ := List.getElem?_eq_some_iff.1 h
  rw [List.take_succ_eq_append_getElem hk, e]
set_option maxHeartbeats 4000000 in
theorem c_arrivals1 (d : Nat) (hd : 1 ≤ d) (Gd : Nat → Prop) (bl bi bn : Nat) (C : Int) (ps : List (Int × Int × Int)) (ins : List (List Int)) (n : Nat) (hn : n ≤ 1000) (hp : ps.all ptOk = true) (hl : ps.length ≤ 16) (hi : inOk ins = true) (P I : Value)
    (w0 : World) (hP : PtSl w0 P ps) (hI : LiSl w0 I ins) (w : World) (hw : Below w0.heap.size w0 w) (hg : ∀ k, k < w0.heap.size → Gd k) (gl : Gd bl) (gi : Gd bi) (gn : Gd bn)
    (h1 : w.heap[bl]? = some (.cells #[.int .i64 C, P] 53 (0, 0))) (h2 : Boxed w bi 57 I) (h3 : Boxed w bn 3 (.int .i64 (n : Int))) :
    SeqIt d Try.prog 36 #[.pointer (some ⟨bn, 0, none⟩), .pointer (some ⟨bl, 0, none⟩), .pointer (some ⟨bi, 0, none⟩)] 0 Gd okI (amts ps ins n) w := by
  intro lp J Jx W hKW hlp hJE _ hY h0
  obtain ⟨ts, hts⟩ : ∃ ts, ts = amts ps ins n := ⟨_, rfl⟩
  have hlen : ts.length = n := by rw [hts]; exact amts_len _ _ _
  have HTS := Lib.hid (fun (k : Nat) (hk : k < n) => show ts[k]? = some (arr ps ins (k : Int)) by rw [hts]; exact amts_get _ _ hk)
  have hinit : ArI Gd w W.heap.size n ts J (.int .i64 0) W := ⟨0, [], rfl, Nat.zero_le _, Lib.hid rfl, Lib.hid hKW, Nat.le_refl _, h0⟩
  rw [← hts] at hY ⊢
  have x3 : W.cell? ⟨bn, 0, none⟩ = some (.int .i64 (n : Int)) := (show Boxed W bn 3 (.int .i64 (n : Int)) from hKW.same _ _ _ _ gn h3).cell
  have HY := Lib.hid hY
  have HJ := Lib.hid hJE
  have HI := Lib.hid hinit
  have HX := Lib.hid (fun (X : World) (hX : KpG Gd w X) => (⟨cell_of (hX.same _ _ _ _ gl h1) rfl, cell_of (hX.same _ _ _ _ gl h1) rfl, (show Boxed X bi 57 I from hX.same _ _ _ _ gi h2).cell, hP.kept hw hX hg, hI.kept hw hX hg⟩ :
    X.cell? ⟨bl, 0, none⟩ = some (.int .i64 C) ∧ X.cell? ⟨bl, 1, none⟩ = some P ∧ X.cell? ⟨bi, 0, none⟩ = some I ∧ PtSl X P ps ∧ LiSl X I ins))
  have HC := Lib.hid (fun (X : World) (t : Nat) (ht : t < n) (a : PtSl X P ps) (b : LiSl X I ins) => c_arriving C ps ins (t : Int) hp hl hi (by omega) P I X a b)
  obtain ⟨A, cA, rfl, -, -⟩ := hP.shape
  obtain ⟨A2, c2, rfl, -, -⟩ := hI.shape
  unfold lnV at HC
  clear hinit hY hJE h0 hts hp hi hP hI h1 h2 h3 hKW hw
  refine callsIn_of_wp Try.func36 rfl trivial ?_ rfl
  simp only [Try.ntmps36, List.size_toArray, List.length_cons, List.length_nil, Nat.reduceAdd, Nat.reduceSub, Array.replicate_succ, Array.replicate_zero, List.push_toArray, List.append_toArray, List.nil_append, List.cons_append]
  gi_wp2_with (fail)
  gi_loopw [7] (fun i wr => ArI Gd w W.heap.size n ts J i wr) (fun i wr => n - (intOf i).toNat)
  case atStart => exact HI.out
  case round =>
    obtain ⟨k, pre, rfl, hk, hpre, hK, hsz, hj⟩ := hrel
    have HJr := Lib.hid hj
    have hki : ((k : Nat) : Int).toNat = k := by omega
    by_cases hlt : k < n
    · obtain ⟨y0, y1, y2, hPt, hLi⟩ := HX.out wr hK.out
      have hkl : (k : Int) < (n : Int) := by omega
      have HCk := Lib.hid (HC.out wr k hlt hPt hLi)
      have HTk := Lib.hid (HTS.out k hlt)
      obtain ⟨z, hz⟩ : ∃ z, z = arr ps ins (k : Int) := ⟨_, rfl⟩
      rw [← hz] at HCk HTk
      clear hPt hLi hj hz x3
      gi_wp2_with (fail)
      refine ⟨trivial, ?_⟩
      gi_at_call 37
      refine (calls_wide HCk.out).mono ?_
      rintro e w1 ⟨rfl, b1⟩
      have HK1 := Lib.hid (hK.out.trans (KpG.of_below b1 (Nat.le_refl _)))
      have hz1 := Nat.le_trans hsz b1.size
      have HJ1 := Lib.hid (HJ.out _ _ _ HJr.out (OwnIt.of_below b1 (Nat.le_refl _)))
      have HPR := Lib.hid (show pre ++ [z] = ts.take (k + 1) by rw [hpre.out, take_snoc HTk.out])
      clear b1 y0 y1 y2
      obtain ⟨fn, tmps, assign, body, hy, hR⟩ := HY.out pre #[.int .i64 z] z w1 HJ1.out hz1 rfl (by rw [HPR.out]; exact List.take_prefix _ _)
      gi_wp2_with (fail)
      refine hR.mono ?_
      rintro e W3 (⟨rfl, hJ3, hk3⟩ | ⟨rfl, hJx3, -⟩)
      · have HJ3 := Lib.hid hJ3
        have HK3 := Lib.hid (HK1.out.trans hk3.good)
        have hz3 := Nat.le_trans hz1 hk3.size
        clear hJ3 hy hk3
        gi_wp2_with (fail)
        refine ⟨⟨k + 1, pre ++ [z], by go_num, by omega, HPR, HK3, hz3, HJ3.out⟩, ?_⟩
        simp only [intOf]; omega
      · have Hx := Lib.hid hJx3
        clear hJx3 hy
        gi_wp2_with (fail)
        refine bodyPost_ret (results_none rfl _ _ _) rfl ?_
        exact ⟨⟨_, rfl⟩, .inr ⟨_, (by rw [HPR.out]; exact List.take_prefix _ _), Hx.out⟩⟩
    · obtain rfl : k = n := by omega
      have HTE := Lib.hid (show ts = pre by rw [hpre.out, List.take_of_length_le (by omega)])
      clear hj
      gi_wp2_with (fail)
      refine bodyPost_end (results_none rfl _ _ _) rfl ?_
      exact ⟨⟨_, rfl⟩, .inl (by rw [HTE.out]; exact HJr.out)⟩
end Go.Proofs.Ytpokpgnclohiiaa.v6
