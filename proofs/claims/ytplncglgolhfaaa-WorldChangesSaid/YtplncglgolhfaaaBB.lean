/-
  DERIVED. isIndex and areFrom of the landed package, with the library's search in a list of numbers (stage 12).
-/
import Derived.Test.YtplncglgolhfaaaBA
namespace Go.Proofs.Ytplncglgolhfaaa
open Go.RowKit
set_option maxRecDepth 100000
set_option linter.unusedVariables false
set_option linter.unusedSimpArgs false

set_option maxHeartbeats 2000000 in
theorem c_isIndex (x m : Int) (r : Bool) (hr : ixB x m = r) (w : World) : Calls Try.prog 68 #[.int .i64 x, .int .i64 m] w fun e w' => e = .returned (.bool r) ∧ Below w.heap.size w w' := by
  unfold ixB at hr
  rcases h1 : decide (0 ≤ x) with _ | _
  · rw [h1] at hr
    obtain rfl : false = r := hr
    go_enter Try.func68, Try.ntmps68
    go_wp2
    go_ret
    exact ⟨rfl, Below.refl _ _⟩
  · rw [h1] at hr
    obtain rfl : decide (x < m) = r := hr
    go_enter Try.func68, Try.ntmps68
    go_wp2
    go_ret
    exact ⟨rfl, Below.refl _ _⟩
set_option maxHeartbeats 2000000 in
theorem c_out (lo hi x : Int) (a b : Nat) (r : Bool) (hr : outB lo hi x = r) (w : World) (ha : w.cell? ⟨a, 0, none⟩ = some (.int .i64 lo)) (hb : w.cell? ⟨b, 0, none⟩ = some (.int .i64 hi)) :
    Calls Try.prog 90 #[.int .i64 x, .pointer (some ⟨a, 0, none⟩), .pointer (some ⟨b, 0, none⟩)] w fun e w' => e = .returned (.bool r) ∧ Below w.heap.size w w' := by
  unfold outB at hr
  rcases h1 : decide (x < lo) with _ | _
  · rw [h1] at hr
    obtain rfl : decide (hi < x) = r := hr
    go_enter Try.func90, Try.ntmps90
    go_wp2
    go_ret
    exact ⟨rfl, Below.refl _ _⟩
  · rw [h1] at hr
    obtain rfl : true = r := hr
    go_enter Try.func90, Try.ntmps90
    go_wp2
    go_ret
    exact ⟨rfl, Below.refl _ _⟩
/-- The place of the first element that is bad. -/
def fidx {α : Type} (p : α → Bool) : List α → Int
  | [] => -1
  | x :: l => if p x = true then 0 else if fidx p l = -1 then -1 else fidx p l + 1
theorem fidx_range {α : Type} (p : α → Bool) (l : List α) : fidx p l = -1 ∨ 0 ≤ fidx p l := by
  induction l with
  | nil => exact .inl rfl
  | cons x l ih =>
    unfold fidx
    split
    · right; omega
    · split
      · exact .inl rfl
      · right; omega
theorem fidx_at {α : Type} (p : α → Bool) : ∀ (l : List α) (k : Nat) (x : α), (∀ i y, i < k → l[i]? = some y → p y = false) → l[k]? = some x → p x = true → fidx p l = k := by
  intro l
  induction l with
  | nil => intro k x _ h; simp at h
  | cons y l ih =>
    intro k x h1 h2 h3
    unfold fidx
    cases k with
    | zero => simp at h2; subst h2; rw [if_pos h3]; rfl
    | succ k =>
      have h0 := h1 0 y (by omega) rfl
      rw [if_neg (by simp [h0]), ih k x (fun i z hi hz => h1 (i + 1) z (by omega) (by simpa using hz)) (by simpa using h2) h3, if_neg (by omega)]
      omega
theorem fidx_none {α : Type} (p : α → Bool) : ∀ (l : List α), (∀ (i : Nat) (y : α), l[i]? = some y → p y = false) → fidx p l = -1 := by
  intro l
  induction l with
  | nil => intro _; rfl
  | cons y l ih =>
    intro h1
    have h0 := h1 0 y rfl
    unfold fidx
    rw [if_neg (by simp [h0]), ih (fun i z hz => h1 (i + 1) z (by simpa using hz)), if_pos rfl]
theorem fidx_any {α : Type} (p : α → Bool) (l : List α) : decide (0 ≤ fidx p l) = l.any p := by
  induction l with
  | nil => rfl
  | cons x l ih =>
    unfold fidx
    rw [List.any_cons]
    split
    · rename_i h; rw [h]; rfl
    · rename_i h
      rw [Bool.not_eq_true] at h
      rw [h, Bool.false_or, ← ih]
      rcases fidx_range p l with h2 | h2
      · rw [if_pos h2, h2]
      · rw [if_neg (by omega), decide_eq_true h2, decide_eq_true (by omega)]
theorem inRw {w : World} {b o : Nat} {c : Nat} {l : List Int} (h : Rw 1 inF w (some ⟨b, o, none⟩) c l) {j : Nat} {x : Int} (hj : l[j]? = some x) : w.cell? ⟨b, o + j, none⟩ = some (.int .i64 x) := by
  obtain ⟨b', o', e, -, h0⟩ := h.at_ hj
  injection e with e
  injection e with e1 e2
  subst e1 e2
  have := h0 0 (by omega)
  simpa [inF] using this
set_option maxHeartbeats 4000000 in
theorem c_IF_int (lo hi : Int) (a b : Nat) (A : Option Addr) (c : Nat) (l : List Int) (w : World) (ha : w.cell? ⟨a, 0, none⟩ = some (.int .i64 lo)) (hb : w.cell? ⟨b, 0, none⟩ = some (.int .i64 hi)) (hla : a < w.heap.size) (hlb : b < w.heap.size) (h : Rw 1 inF w A c l) (y : Int) (hy : fidx (outB lo hi) l = y) :
    Calls Try.prog 100 #[.slice A l.length c, .func (.func 90) #[] #[.pointer (some ⟨a, 0, none⟩), .pointer (some ⟨b, 0, none⟩)]] w fun e w' => e = .returned (.int .i64 y) ∧ Below w.heap.size w w' := by
  have H := Lib.hid h
  have HY := Lib.hid hy
  have HA := Lib.hid ha
  have HB := Lib.hid hb
  have hc1 := h.1
  have hc2 := h.2.1
  unfold maxLen at hc2
  clear h hy ha hb
  go_enter Try.func100, Try.ntmps100
  go_wp2_with (fail)
  go_loopw [8] (fun i wr => ∃ k : Nat, k ≤ l.length ∧ i = .int .i64 (k : Int) ∧ Hid (∀ i y, i < k → l[i]? = some y → outB lo hi y = false) ∧ Hid (Below w.heap.size w wr)) (fun i _ => l.length - (intOf i).toNat)
  case atStart => exact ⟨0, Nat.zero_le _, rfl, Lib.hid (fun i y hi => absurd hi (by omega)), Lib.hid (Below.refl _ _)⟩
  case round =>
    obtain ⟨k, hk, rfl, hun, hB⟩ := hrel
    by_cases hlt : k < l.length
    · obtain ⟨x, hx⟩ : ∃ x, l[k]? = some x := ⟨_, List.getElem?_eq_getElem hlt⟩
      have HK := H.out
      obtain ⟨p, o, rfl, -, -⟩ := HK.at_ hx
      have p1 := inRw (HK.on hB.out (Nat.le_refl _)) hx
      have HX := Lib.hid hx
      have hki : ((k : Nat) : Int).toNat = k := by omega
      have hlt' : (k : Int) < ((l.length : Nat) : Int) := by omega
      have HA1 := Lib.hid ((hB.out.cell (p := ⟨a, 0, none⟩) hla).trans HA.out)
      have HB1 := Lib.hid ((hB.out.cell (p := ⟨b, 0, none⟩) hlb).trans HB.out)
      have HC := Lib.hid (fun (r : Bool) (hr : outB lo hi x = r) => c_out lo hi x a b r hr wr HA1.out HB1.out)
      clear hx HK
      rcases hp : outB lo hi x with _ | _
      · have HP := Lib.hid hp
        clear hp
        go_wp2_with (go_at_call 90; refine (HC.out _ HP.out).mono ?_; rintro e w1 ⟨rfl, b1⟩; have HB1 := Lib.hid (below_join hB.out b1 hB.out.size); clear b1 p1)
        go_roundw
        case rel => exact ⟨k + 1, by omega, by go_num, Lib.hid (fun i y hi hy => by
          rcases Nat.lt_or_ge i k with h | h
          · exact hun.out i y h hy
          · obtain rfl : i = k := by omega
            have := HX.out
            rw [hy] at this
            injection this with this
            subst this
            exact HP.out), HB1⟩
        case measure => simp only [intOf]; omega
      · have HKY := Lib.hid (show (k : Int) = y by rw [← HY.out]; exact (fidx_at _ l k _ hun.out HX.out hp).symm)
        have HP := Lib.hid hp
        clear hp
        go_wp2_with (go_at_call 90; refine (HC.out _ HP.out).mono ?_; rintro e w1 ⟨rfl, b1⟩; have HB1 := Lib.hid (below_join hB.out b1 hB.out.size); clear b1 p1)
        go_ret
        exact ⟨(show Ending.returned (.int .i64 (k : Int)) = .returned (.int .i64 y) by rw [HKY.out]), HB1.out⟩
    · obtain rfl : k = l.length := by omega
      have HKY := Lib.hid (show (-1 : Int) = y by rw [← HY.out, fidx_none _ l (fun i y hy => hun.out i y (List.getElem?_eq_some_iff.1 hy).1 hy)])
      go_wp2_with (fail)
      go_ret
      exact ⟨(show Ending.returned (.int .i64 (-1)) = .returned (.int .i64 y) by rw [HKY.out]), hB.out⟩
set_option maxHeartbeats 4000000 in
theorem c_CF_int (lo hi : Int) (a b : Nat) (A : Option Addr) (c : Nat) (l : List Int) (w : World) (ha : w.cell? ⟨a, 0, none⟩ = some (.int .i64 lo)) (hb : w.cell? ⟨b, 0, none⟩ = some (.int .i64 hi)) (hla : a < w.heap.size) (hlb : b < w.heap.size) (h : Rw 1 inF w A c l) (r : Bool) (hr : l.any (outB lo hi) = r) :
    Calls Try.prog 91 #[.slice A l.length c, .func (.func 90) #[] #[.pointer (some ⟨a, 0, none⟩), .pointer (some ⟨b, 0, none⟩)]] w fun e w' => e = .returned (.bool r) ∧ Below w.heap.size w w' := by
  obtain ⟨y, hy⟩ : ∃ y, fidx (outB lo hi) l = y := ⟨_, rfl⟩
  have HC := Lib.hid (c_IF_int lo hi a b A c l w ha hb hla hlb h y hy)
  have HR := Lib.hid (show decide (0 ≤ y) = r by rw [← hy, fidx_any, hr])
  clear hy hr h ha hb
  go_enter Try.func91, Try.ntmps91
  go_wp2_with (go_at_call 100; refine HC.out.mono ?_; rintro e w1 ⟨rfl, b1⟩; have HB1 := Lib.hid b1; clear b1)
  go_ret
  exact ⟨(show Ending.returned (.bool (decide (0 ≤ y))) = .returned (.bool r) by rw [HR.out]), HB1.out⟩
set_option maxHeartbeats 4000000 in
theorem c_areFrom (lo hi : Int) (A : Option Addr) (c : Nat) (l : List Int) (w : World) (h : Rw 1 inF w A c l) (r : Bool) (hr : areB lo hi l = r) :
    Calls Try.prog 66 #[.int .i64 lo, .int .i64 hi, .slice A l.length c] w fun e w' => e = .returned (.bool r) ∧ Below w.heap.size w w' := by
  obtain ⟨W, hW⟩ : ∃ W, W = (w.alloc (.cells #[.int .i64 lo] 3)).alloc (.cells #[.int .i64 hi] 3) := ⟨_, rfl⟩
  have B0 : Below w.heap.size w W := by subst hW; exact ((Below.refl _ _).alloc (Nat.le_refl _) _).alloc (by simp [World.size_alloc]) _
  have h0 : W.heap[w.heap.size]? = some (.cells #[.int .i64 lo] 3 (0, 0)) := by
    subst hW
    exact (Below.heap_alloc _ _ _ (by simp [World.size_alloc])).trans (heap_alloc_new _ _)
  have h1 : W.heap[w.heap.size + 1]? = some (.cells #[.int .i64 hi] 3 (0, 0)) := by
    subst hW
    have := heap_alloc_new (w.alloc (.cells #[.int .i64 lo] 3)) (.cells #[.int .i64 hi] 3)
    rwa [World.size_alloc] at this
  have HC := Lib.hid (c_CF_int lo hi w.heap.size (w.heap.size + 1) A c l W (cell_of h0 rfl) (cell_of h1 rfl) (at_lt h0) (at_lt h1) (h.on B0 (Nat.le_refl _)) (!r) (by rw [← hr]; unfold areB; simp))
  have HB0 := Lib.hid B0
  clear h hr h0 h1 B0
  go_enter Try.func66, Try.ntmps66
  go_wp2_with (fail)
  rw [← hW]
  go_at_call 91
  refine HC.out.mono ?_
  rintro e w1 ⟨rfl, b1⟩
  have HB1 := Lib.hid (below_join HB0.out b1 HB0.out.size)
  clear b1 hW
  go_wp2_with (fail)
  go_ret
  exact ⟨by simp, HB1.out⟩
end Go.Proofs.Ytplncglgolhfaaa
