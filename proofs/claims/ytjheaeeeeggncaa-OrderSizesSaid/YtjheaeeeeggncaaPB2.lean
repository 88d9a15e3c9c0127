/-
  DERIVED. Several texts in one.
-/
import Derived.Test.YtjheaeeeeggncaaPB1
import Derived.Laws.MakeOwn
import Derived.RangeFuncNested
import Derived.RangeFuncBound
import Derived.RangeFuncCalls
import Derived.RangeFuncLeaves
import Derived.RangeFuncBox
import Derived.Shelf.Abstract
import Derived.Shelf.RegionOpen
import Derived.OwnWalkIn
import Derived.TacticsInMore
import Derived.LoopNIn
import Derived.LoopIn
set_option linter.unusedVariables false
set_option linter.unusedSimpArgs false

namespace Go.Proofs.Ytjheaeeeeggncaa
open Go.RowKit
set_option maxRecDepth 100000
set_option linter.unusedVariables false
set_option linter.unusedSimpArgs false

/-- The first place at which something holds, or -1. -/
def fidx {α : Type} (p : α → Bool) : List α → Int
  | [] => -1
  | x :: l => if p x = true then 0 else if fidx p l = -1 then -1 else fidx p l + 1
theorem fidx_range {α : Type} (p : α → Bool) (l : List α) : fidx p l = -1 ∨ 0 ≤ fidx p l := by
  induction l with
  | nil => exact .inl rfl
  | cons x l ih =>
    unfold fidx
    split
    · right; omega
    · split
      · exact .inl rfl
      · right; omega
theorem fidx_at {α : Type} (p : α → Bool) : ∀ (l : List α) (k : Nat) (x : α), (∀ i y, i < k → l[i]? = some y → p y = false) → l[k]? = some x → p x = true → fidx p l = k := by
  intro l
  induction l with
  | nil => intro k x _ h; simp at h
  | cons y l ih =>
    intro k x h1 h2 h3
    unfold fidx
    cases k with
    | zero => simp at h2; subst h2; rw [if_pos h3]; rfl
    | succ k =>
      have h0 := h1 0 y (by omega) rfl
      rw [if_neg (by simp [h0]), ih k x (fun i z hi hz => h1 (i + 1) z (by omega) (by simpa using hz)) (by simpa using h2) h3, if_neg (by omega)]
      omega
theorem fidx_none {α : Type} (p : α → Bool) : ∀ (l : List α), (∀ (i : Nat) (y : α), l[i]? = some y → p y = false) → fidx p l = -1 := by
  intro l
  induction l with
  | nil => intro _; rfl
  | cons y l ih =>
    intro h1
    have h0 := h1 0 y rfl
    unfold fidx
    rw [if_neg (by simp [h0]), ih (fun i z hz => h1 (i + 1) z (by simpa using hz)), if_pos rfl]
theorem fidx_any {α : Type} (p : α → Bool) (l : List α) : decide (0 ≤ fidx p l) = l.any p := by
  induction l with
  | nil => rfl
  | cons x l ih =>
    unfold fidx
    rw [List.any_cons]
    split
    · rename_i h; rw [h]; rfl
    · rename_i h
      rw [Bool.not_eq_true] at h
      rw [h, Bool.false_or, ← ih]
      rcases fidx_range p l with h2 | h2
      · rw [if_pos h2, h2]
      · rw [if_neg (by omega), decide_eq_true h2, decide_eq_true (by omega)]
/-- A list is not strictly ascending. -/
def disB : List Int → Bool
  | x :: y :: l => decide (y ≤ x) || disB (y :: l)
  | _ => false
theorem disB_iff : ∀ {l : List Int}, disB l = true ↔ ∃ (k : Nat) (x y : Int), l[k]? = some x ∧ l[k + 1]? = some y ∧ y ≤ x := by
  intro l
  induction l with
  | nil => constructor; · intro h; cases h
           · rintro ⟨k, x, y, h, -⟩; simp at h
  | cons a l ih =>
    cases l with
    | nil => constructor; · intro h; cases h
             · rintro ⟨k, x, y, -, h, -⟩; simp at h
    | cons b l =>
      rw [disB, Bool.or_eq_true, decide_eq_true_iff, ih]
      constructor
      · rintro (h | ⟨k, x, y, h1, h2, h3⟩)
        · exact ⟨0, a, b, rfl, rfl, h⟩
        · exact ⟨k + 1, x, y, by simpa using h1, by simpa using h2, h3⟩
      · rintro ⟨k, x, y, h1, h2, h3⟩
        cases k with
        | zero => simp at h1 h2; subst h1 h2; exact .inl h3
        | succ k => exact .inr ⟨k, x, y, by simpa using h1, by simpa using h2, h3⟩
set_option maxHeartbeats 4000000 in
theorem c_isDisordered (A : Option Addr) (c : Nat) (l : List Int) (r : Bool) (hr : disB l = r) (w : World) (h : Rv 1 inV w A c l) :
    Calls Try.prog 73 #[.slice A l.length c] w fun e w' => e = .returned (.bool r) ∧ Below w.heap.size w w' := by
  have H := Lib.hid h
  have HR := Lib.hid hr
  have k1 := h.1; have k2 := h.2.1
  unfold maxLen at k2
  clear h hr
  go_enter Try.func73, Try.ntmps73
  go_wp2_with (fail)
  go_loopw [3] (fun i wr => ∃ k : Nat, (k ≤ l.length ∨ k = 1) ∧ 1 ≤ k ∧ i = .int .i64 (k : Int) ∧ Hid (Below w.heap.size w wr) ∧ Hid (∀ j a b, j + 1 < k → l[j]? = some a → l[j + 1]? = some b → a < b)) (fun i _ => l.length - (intOf i).toNat)
  case atStart => exact ⟨1, .inr rfl, by omega, rfl, Lib.hid (Below.refl _ _), Lib.hid (fun j a b hj => absurd hj (by omega))⟩
  case round =>
    obtain ⟨k, hk, hk1, rfl, hB, hasc⟩ := hrel
    by_cases hlt : k < l.length
    · obtain ⟨m, hm⟩ : ∃ m, k = m + 1 := ⟨k - 1, by omega⟩
      obtain ⟨x, hx⟩ : ∃ x, l[m]? = some x := ⟨_, List.getElem?_eq_getElem (by omega)⟩
      obtain ⟨y, hy⟩ : ∃ y, l[k]? = some y := ⟨_, List.getElem?_eq_getElem hlt⟩
      obtain ⟨b, o, rfl, -, -⟩ := H.out.at_ hx
      have f0 := inV_at (H.out.on hB.out (Nat.le_refl _)) hx
      have f1 := inV_at (H.out.on hB.out (Nat.le_refl _)) hy
      have hk2 : ((k : Nat) : Int) < (l.length : Int) := by omega
      have hk3 : IntKind.i64.wrap (((k : Nat) : Int) - 1) = (m : Int) := by rw [show ((k : Nat) : Int) - 1 = (m : Int) by omega]; exact wrap_in (by omega) (by omega)
      have hk0 : (0 : Int) ≤ (m : Int) := by omega
      have hk4 : ((m : Nat) : Int) < (l.length : Int) := by omega
      have hi1 : ((m : Nat) : Int).toNat = m := by omega
      have hi2 : ((k : Nat) : Int).toNat = k := by omega
      have HM := Lib.hid hm
      have HXX := Lib.hid hx
      have HYY := Lib.hid hy
      clear hm hx hy
      rcases hL : decide (y ≤ x) with _ | _
      · have HL := Lib.hid (of_decide_eq_false hL)
        have HN := Lib.hid (show ∀ j a b, j + 1 < k + 1 → l[j]? = some a → l[j + 1]? = some b → a < b from fun j a b hj ha hb => by
          have hM := HM.out
          by_cases e : j + 1 < k
          · exact hasc.out j a b e ha hb
          · obtain rfl : j = m := by omega
            rw [HXX.out] at ha
            rw [← hM, HYY.out] at hb
            injection ha with ha
            injection hb with hb
            have := HL.out
            omega)
        go_wp2_with (fail)
        go_quiet (fail)
        go_wp2_with (fail)
        go_roundw
        case rel => exact ⟨k + 1, .inl (by omega), by omega, by go_num, Lib.hid (below_drewN hB.out), HN⟩
        case measure => simp only [intOf]; omega
      · obtain rfl : true = r := by
          rw [← HR.out]
          exact (disB_iff.2 ⟨m, x, y, HXX.out, by rw [← HM.out]; exact HYY.out, of_decide_eq_true hL⟩).symm
        go_wp2_with (fail)
        go_quiet (fail)
        go_wp2_with (fail)
        go_ret
        exact ⟨rfl, below_drewN hB.out⟩
    · obtain rfl : false = r := by
        rw [← HR.out]
        refine ((Bool.eq_false_iff).2 fun h => ?_).symm
        obtain ⟨j, x, y, h1, h2, h3⟩ := disB_iff.1 h
        have := hasc.out j x y (by have := (List.getElem?_eq_some_iff.1 h2).1; omega) h1 h2
        omega
      have hk2 : ¬ ((k : Nat) : Int) < (l.length : Int) := by omega
      go_wp2_with (fail)
      go_ret
      exact ⟨rfl, hB.out⟩
set_option maxHeartbeats 4000000 in
theorem c_IF_list (A : Option Addr) (c : Nat) (l : List LsV) (w : World) (h : LsAt w A c l) (y : Int) (hy : fidx (fun x => disB x.l) l = y) :
    Calls Try.prog 87 #[.slice A l.length c, .func (.func 73) #[] #[]] w fun e w' => e = .returned (.int .i64 y) ∧ Below w.heap.size w w' := by
  have H := Lib.hid h
  have HY := Lib.hid hy
  have hc1 := h.1.1
  have hc2 := h.1.2.1
  unfold maxLen at hc2
  clear h hy
  go_enter Try.func87, Try.ntmps87
  go_wp2_with (fail)
  go_loopw [8] (fun i wr => ∃ k : Nat, k ≤ l.length ∧ i = .int .i64 (k : Int) ∧ Hid (∀ i y, i < k → l[i]? = some y → disB y.l = false) ∧ Hid (Below w.heap.size w wr)) (fun i _ => l.length - (intOf i).toNat)
  case atStart => exact ⟨0, Nat.zero_le _, rfl, Lib.hid (fun i y hi => absurd hi (by omega)), Lib.hid (Below.refl _ _)⟩
  case round =>
    obtain ⟨k, hk, rfl, hun, hB⟩ := hrel
    by_cases hlt : k < l.length
    · obtain ⟨x, hx⟩ : ∃ x, l[k]? = some x := ⟨_, List.getElem?_eq_getElem hlt⟩
      have HK := H.out.on hB.out (Nat.le_refl _)
      obtain ⟨pb, o, rfl, -, -⟩ := HK.1.at_ hx
      have y0 := ls_at HK.1 hx
      have HXX := Lib.hid hx
      have hki : ((k : Nat) : Int).toNat = k := by omega
      have hlt' : (k : Int) < ((l.length : Nat) : Int) := by omega
      have HC := Lib.hid (fun (r : Bool) (hr : disB x.l = r) => c_isDisordered x.A x.c x.l r hr wr (HK.2 x (List.mem_of_getElem? hx)))
      clear hx HK
      rcases hp : disB x.l with _ | _
      · have HP := Lib.hid hp
        clear hp
        go_wp2_with (go_at_call 73; refine (HC.out _ HP.out).mono ?_; rintro e w1 ⟨rfl, b1⟩; have HB1 := Lib.hid (below_join hB.out b1 hB.out.size); clear b1 y0)
        go_roundw
        case rel => exact ⟨k + 1, by omega, by go_num, Lib.hid (fun i y hi hy => by
          rcases Nat.lt_or_ge i k with h | h
          · exact hun.out i y h hy
          · obtain rfl : i = k := by omega
            have := HXX.out
            rw [hy] at this
            injection this with this
            subst this
            exact HP.out), HB1⟩
        case measure => simp only [intOf]; omega
      · have HKY := Lib.hid (show (k : Int) = y by rw [← HY.out]; exact (fidx_at _ l k _ hun.out HXX.out hp).symm)
        have HP := Lib.hid hp
        clear hp
        go_wp2_with (go_at_call 73; refine (HC.out _ HP.out).mono ?_; rintro e w1 ⟨rfl, b1⟩; have HB1 := Lib.hid (below_join hB.out b1 hB.out.size); clear b1 y0)
        go_ret
        exact ⟨(show Ending.returned (.int .i64 (k : Int)) = .returned (.int .i64 y) by rw [HKY.out]), HB1.out⟩
    · obtain rfl : k = l.length := by omega
      have HKY := Lib.hid (show (-1 : Int) = y by rw [← HY.out, fidx_none _ l (fun i y hy => hun.out i y (List.getElem?_eq_some_iff.1 hy).1 hy)])
      go_wp2_with (fail)
      go_ret
      exact ⟨(show Ending.returned (.int .i64 (-1)) = .returned (.int .i64 y) by rw [HKY.out]), hB.out⟩
set_option maxHeartbeats 4000000 in
theorem c_CF_list (A : Option Addr) (c : Nat) (l : List LsV) (w : World) (h : LsAt w A c l) (r : Bool) (hr : l.any (fun x => disB x.l) = r) :
    Calls Try.prog 72 #[.slice A l.length c, .func (.func 73) #[] #[]] w fun e w' => e = .returned (.bool r) ∧ Below w.heap.size w w' := by
  obtain ⟨y, hy⟩ : ∃ y, fidx (fun x : LsV => disB x.l) l = y := ⟨_, rfl⟩
  have HC := Lib.hid (c_IF_list A c l w h y hy)
  have HR := Lib.hid (show decide (0 ≤ y) = r by rw [← hy, fidx_any, hr])
  clear hy hr h
  go_enter Try.func72, Try.ntmps72
  go_wp2_with (go_at_call 87; refine HC.out.mono ?_; rintro e w1 ⟨rfl, b1⟩; have HB1 := Lib.hid b1; clear b1)
  go_ret
  exact ⟨(show Ending.returned (.bool (decide (0 ≤ y))) = .returned (.bool r) by rw [HR.out]), HB1.out⟩
/-- Each list names others. -/
def NmOk (xs : List LsV) : Prop := ∀ (o : Nat) (x : LsV), xs[o]? = some x → ∀ i ∈ x.l, 0 ≤ i ∧ i < xs.length ∧ i ≠ o
set_option maxHeartbeats 4000000 in
theorem c_nameOthers (A : Option Addr) (c : Nat) (xs : List LsV) (r : Bool) (hr : r = true ↔ NmOk xs) (w : World) (h : LsAt w A c xs) :
    Calls Try.prog 74 #[.slice A xs.length c] w fun e w' => e = .returned (.bool r) ∧ Below w.heap.size w w' := by
  have H := Lib.hid h
  have HR := Lib.hid hr
  have k1 := h.1.1; have k2 := h.1.2.1
  unfold maxLen at k2
  clear h hr
  go_enter Try.func74, Try.ntmps74
  go_wp2_with (fail)
  go_loopw [9] (fun i wr => ∃ k : Nat, k ≤ xs.length ∧ i = .int .i64 (k : Int) ∧ Hid (Below w.heap.size w wr) ∧ Hid (∀ (o : Nat) (x : LsV), o < k → xs[o]? = some x → ∀ i ∈ x.l, 0 ≤ i ∧ i < xs.length ∧ i ≠ o)) (fun i _ => xs.length - (intOf i).toNat)
  case atStart => exact ⟨0, Nat.zero_le _, rfl, Lib.hid (Below.refl _ _), Lib.hid (fun o x ho => absurd ho (by omega))⟩
  case round =>
    obtain ⟨k, hk, rfl, hB, hok⟩ := hrel
    have hki : ((k : Nat) : Int).toNat = k := by omega
    by_cases hlt : k < xs.length
    · obtain ⟨x, hx⟩ : ∃ x, xs[k]? = some x := ⟨_, List.getElem?_eq_getElem hlt⟩
      have HK := H.out.on hB.out (Nat.le_refl _)
      obtain ⟨pb, o, rfl, -, -⟩ := HK.1.at_ hx
      have y0 := ls_at HK.1 hx
      have HXX := Lib.hid hx
      have HXL := Lib.hid (H.out.2 x (List.mem_of_getElem? hx))
      have j1 := HXL.out.1; have j2 := HXL.out.2.1
      unfold maxLen at j2
      have hlt' : (k : Int) < ((xs.length : Nat) : Int) := by omega
      clear hx HK
      go_wp2_with (fail)
      clear y0
      go_loopw [16] (fun i wr => ∃ t : Nat, t ≤ x.l.length ∧ i = .int .i64 (t : Int) ∧ Hid (Below w.heap.size w wr) ∧ Hid (∀ j z, j < t → x.l[j]? = some z → 0 ≤ z ∧ z < xs.length ∧ z ≠ k)) (fun i _ => x.l.length - (intOf i).toNat)
      case atStart => exact ⟨0, Nat.zero_le _, rfl, hB, Lib.hid (fun j z hj => absurd hj (by omega))⟩
      case round =>
        obtain ⟨t, ht, rfl, hC, hot⟩ := hrel
        have hti : ((t : Nat) : Int).toNat = t := by omega
        by_cases hlt2 : t < x.l.length
        · obtain ⟨z, hz⟩ : ∃ z, x.l[t]? = some z := ⟨_, List.getElem?_eq_getElem hlt2⟩
          have HL := HXL.out.on hC.out (Nat.le_refl _)
          obtain ⟨b2, o2, e2, -, -⟩ := HL.at_ hz
          rw [e2] at HL
          have y1 := inV_at HL hz
          have htl : (t : Int) < ((x.l.length : Nat) : Int) := by omega
          have HZ := Lib.hid hz
          clear hz HL
          rw [e2]
          have hno : ¬ (0 ≤ z ∧ z < (xs.length : Int) ∧ z ≠ (k : Int)) → r = false := fun hn => by
            rw [Bool.eq_false_iff]
            intro hr
            exact hn (HR.out.1 hr k x HXX.out z (List.mem_of_getElem? HZ.out))
          have HNO := Lib.hid hno
          clear hno
          rcases d1 : decide (z < 0) with _ | _
          · rcases d2 : decide ((xs.length : Int) ≤ z) with _ | _
            · rcases d3 : (z == (k : Int)) with _ | _
              · have HOT := Lib.hid (show ∀ j z, j < t + 1 → x.l[j]? = some z → 0 ≤ z ∧ z < (xs.length : Int) ∧ z ≠ (k : Int) from fun j u hj hu => by
                  rcases Nat.lt_or_ge j t with h | h
                  · exact hot.out j u h hu
                  · obtain rfl : j = t := by omega
                    rw [HZ.out] at hu
                    injection hu with hu
                    subst hu
                    have e1 := of_decide_eq_false d1
                    have e2 := of_decide_eq_false d2
                    have e3 : z ≠ (k : Int) := by simpa using d3
                    exact ⟨by omega, by omega, e3⟩)
                go_wp2_with (fail)
                go_roundw
                case rel => exact ⟨t + 1, by omega, by go_num, hC, HOT⟩
                case measure => simp only [intOf]; omega
              · obtain rfl : r = false := HNO.out (fun h => h.2.2 (by simpa using d3))
                go_wp2_with (fail)
                go_ret
                exact ⟨rfl, hC.out⟩
            · obtain rfl : r = false := HNO.out (fun h => by have := of_decide_eq_true d2; omega)
              go_wp2_with (fail)
              go_ret
              exact ⟨rfl, hC.out⟩
          · obtain rfl : r = false := HNO.out (fun h => by have := of_decide_eq_true d1; omega)
            go_wp2_with (fail)
            go_ret
            exact ⟨rfl, hC.out⟩
        · obtain rfl : t = x.l.length := by omega
          have HOK := Lib.hid (show ∀ (o : Nat) (y : LsV), o < k + 1 → xs[o]? = some y → ∀ i ∈ y.l, 0 ≤ i ∧ i < xs.length ∧ i ≠ o from fun o y ho hy i hi => by
            rcases Nat.lt_or_ge o k with h | h
            · exact hok.out o y h hy i hi
            · obtain rfl : o = k := by omega
              rw [HXX.out] at hy
              injection hy with hy
              subst hy
              obtain ⟨j, hj⟩ := List.getElem?_of_mem hi
              exact hot.out j i (List.getElem?_eq_some_iff.1 hj).1 hj)
          go_wp2_with (fail)
          go_roundw
          case rel => exact ⟨k + 1, by omega, by go_num, hC, HOK⟩
          case measure => simp only [intOf]; omega
    · obtain rfl : k = xs.length := by omega
      obtain rfl : r = true := HR.out.2 fun o x hx => hok.out o x (List.getElem?_eq_some_iff.1 hx).1 hx
      go_wp2_with (fail)
      go_ret
      exact ⟨rfl, hB.out⟩
end Go.Proofs.Ytjheaeeeeggncaa

namespace Go.Proofs.Ytjheaeeeeggncaa
open Go.RowKit
set_option maxRecDepth 100000
set_option linter.unusedVariables false
set_option linter.unusedSimpArgs false

/-- A row of sets. -/
def bsN (n : Nat) (f : Nat → Nat) : List Value := (List.range n).map fun i => .int .u16 ((f i : Nat) : Int)
theorem bsN_len (n : Nat) (f : Nat → Nat) : (bsN n f).length = n := by simp [bsN]
theorem bsN_at {n i : Nat} (f : Nat → Nat) (h : i < n) : (bsN n f)[i]? = some (.int .u16 ((f i : Nat) : Int)) := by simp [bsN, h]
theorem bsN_set {n i : Nat} {f f' : Nat → Nat} (hi : i < n) (h : ∀ j, j < n → j ≠ i → f' j = f j) : (bsN n f).set i (.int .u16 ((f' i : Nat) : Int)) = bsN n f' := by
  apply List.ext_getElem?
  intro j
  rw [List.getElem?_set]
  by_cases e : i = j
  · subst e; rw [if_pos rfl, bsN_len, if_pos hi, bsN_at _ hi]
  · rw [if_neg e]
    by_cases hj : j < n
    · rw [bsN_at _ hj, bsN_at _ hj, h j hj (fun x => e x.symm)]
    · rw [List.getElem?_eq_none (by rw [bsN_len]; omega), List.getElem?_eq_none (by rw [bsN_len]; omega)]
theorem bsN_congr {n : Nat} {f f' : Nat → Nat} (h : ∀ j, j < n → f' j = f j) : bsN n f' = bsN n f := List.map_congr_left fun j hj => by rw [h j (List.mem_range.1 hj)]
def Blk (w : World) (g n : Nat) (f : Nat → Nat) : Prop := w.heap[g]? = some (.cells (bsN n f).toArray 72 (0, 0))
theorem Blk.at_ {w : World} {g n i : Nat} {f : Nat → Nat} (h : Blk w g n f) (hi : i < n) : w.cell? ⟨g, i, none⟩ = some (.int .u16 ((f i : Nat) : Int)) := cell_of h (by rw [List.getElem?_toArray]; exact bsN_at f hi)
theorem Blk.set {w : World} {g n i : Nat} {f f' : Nat → Nat} (h : Blk w g n f) (hi : i < n) (hf : ∀ j, j < n → j ≠ i → f' j = f j) : Blk (w.setCell ⟨g, i, none⟩ (.int .u16 ((f' i : Nat) : Int))) g n f' := by
  have := set_field (o := i) h (.int .u16 ((f' i : Nat) : Int))
  unfold Blk
  rw [this, List.setIfInBounds_toArray, bsN_set hi hf]
theorem Blk.congr {w : World} {g n : Nat} {f f' : Nat → Nat} (h : Blk w g n f) (hf : ∀ j, j < n → f' j = f j) : Blk w g n f' := by unfold Blk; rw [bsN_congr hf]; exact h
theorem Blk.drewN {w : World} {g n m : Nat} {f : Nat → Nat} (h : Blk w g n f) : Blk (w.drewN m) g n f := h
/-- The bits of a list. -/
def bitsL (l : List Int) : Nat := l.foldl (fun s i => s ||| 1 <<< i.toNat) 0
theorem bitsL_take {l : List Int} {t : Nat} {z : Int} (h : l[t]? = some z) : bitsL (l.take (t + 1)) = bitsL (l.take t) ||| 1 <<< z.toNat := by
  rw [List.take_add_one, h]; simp [bitsL]
theorem bitsL_lt {l : List Int} (h : ∀ z ∈ l, 0 ≤ z ∧ z < 12) : bitsL l < 2 ^ 12 := by
  have : ∀ (l : List Int) (s : Nat), (∀ z ∈ l, 0 ≤ z ∧ z < 12) → s < 2 ^ 12 → l.foldl (fun s i => s ||| 1 <<< i.toNat) s < 2 ^ 12 := by
    intro l
    induction l with
    | nil => intro s _ hs; exact hs
    | cons x l ih =>
      intro s hl hs
      have hx := hl x (by simp)
      exact ih _ (fun z hz => hl z (by simp [hz])) (Nat.or_lt_two_pow hs (by rw [Nat.one_shiftLeft]; exact Nat.pow_lt_pow_right (by omega) (by omega)))
  exact this l 0 h (by decide)
theorem bitsL_tb (l : List Int) (k : Nat) : (bitsL l).testBit k = true ↔ ∃ z ∈ l, z.toNat = k := by
  have : ∀ (l : List Int) (s : Nat), (l.foldl (fun s i => s ||| 1 <<< i.toNat) s).testBit k = true ↔ s.testBit k = true ∨ ∃ z ∈ l, z.toNat = k := by
    intro l
    induction l with
    | nil => intro s; simp
    | cons x l ih =>
      intro s
      rw [List.foldl_cons, ih, tb_or, tb_one, Bool.or_eq_true, decide_eq_true_iff, or_assoc]
      simp
  have h := this l 0
  rw [Nat.zero_testBit] at h
  unfold bitsL
  simpa using h
def lAt (xs : List LsV) (j : Nat) : List Int := (xs[j]?.map (·.l)).getD []
/-- The lists up to one, and that one up to an element. -/
def dirF (xs : List LsV) (k t : Nat) : Nat → Nat := fun j => if j < k then bitsL (lAt xs j) else if j = k then bitsL ((lAt xs j).take t) else 0
theorem dirF_next {xs : List LsV} {k t : Nat} (h : (lAt xs k).length ≤ t) : ∀ j, dirF xs (k + 1) 0 j = dirF xs k t j := fun j => by
  unfold dirF
  by_cases h1 : j < k
  · rw [if_pos h1, if_pos (by omega)]
  · by_cases h2 : j = k
    · subst h2; rw [if_pos (by omega), if_neg h1, if_pos rfl, List.take_of_length_le h]
    · rw [if_neg (by omega), if_neg h1, if_neg h2]
      split
      · rw [List.take_zero]; rfl
      · rfl
theorem wIn_lt {f : Nat → Nat} {m : Nat} (h : ∀ j, f j < 2 ^ 12) : ∀ p j, wIn f m p j < 2 ^ 12 := fun p j => by
  rw [wIn_eq]
  split
  · exact Nat.or_lt_two_pow (h j) (h m)
  · exact h j
theorem wAll_lt {f : Nat → Nat} {n : Nat} (h : ∀ j, f j < 2 ^ 12) : ∀ m j, wAll f n m j < 2 ^ 12
  | 0, j => h j
  | m + 1, j => wIn_lt (fun j => wAll_lt h m j) n j
def dirA (xs : List LsV) (j : Nat) : Nat := bitsL (lAt xs j)
theorem el_info : (Try.prog.info? 72).map (fun i => (i.zero, i.size, i.bytes)) = some (some (.int .u16 0), 1, 2) := by kernel_rfl
theorem mk_before (n : Nat) (h0 : n ≤ 100) : ∀ w : World, (Instr.makeSlice 64 (.int .i64 (n : Int)) (.int .i64 (n : Int))).run Try.prog w = .ok (.slice (some ⟨w.heap.size, 0, none⟩) n n) (w.alloc (.cells (bsN n fun _ => 0).toArray 72)) := by
  obtain ⟨i0, hi0, hz0, hz1, hz2⟩ := info_parts el_info
  intro w
  have h := run_make (P := Try.prog) w 64 72 i0 (.int .u16 0) Try.underlying64 hi0 hz0 .i64 .i64 (n : Int) (n : Int) (by omega) (by omega) (by rw [hz2]; omega) (by omega)
  rw [hz1] at h
  have e : (bsN n fun _ => 0).toArray = madeCells (Value.int .u16 0).cells n := by
    apply Array.toList_inj.1
    rw [show (Value.int .u16 0).cells = #[.int .u16 0] from rfl, toList_madeCells_one]
    apply List.ext_getElem?
    intro j
    by_cases hj : j < n
    · show (bsN n fun _ => 0)[j]? = _
      rw [bsN_at _ hj]; simp [hj]
    · show (bsN n fun _ => 0)[j]? = _
      rw [List.getElem?_eq_none (by rw [bsN_len]; omega)]; simp; omega
  rw [e]
  simpa using h
set_option maxHeartbeats 16000000 in
theorem c_follow (A : Option Addr) (c : Nat) (xs : List LsV) (hn : xs.length ≤ 12) (hok : NmOk xs) (w : World) (h : LsAt w A c xs) :
    Calls Try.prog 75 #[.slice A xs.length c] w fun e w' => ∃ g, e = .returned (.slice (some ⟨g, 0, none⟩) xs.length xs.length) ∧ w.heap.size ≤ g ∧ Blk w' g xs.length (wAll (dirA xs) xs.length xs.length) ∧ Below w.heap.size w w' := by
  have H := Lib.hid h
  have HO := Lib.hid hok
  have k1 := h.1.1; have k2 := h.1.2.1
  unfold maxLen at k2
  have hmk := mk_before xs.length (by omega)
  obtain ⟨g, hg⟩ : ∃ g, w.heap.size = g := ⟨_, rfl⟩
  have HG := Lib.hid hg
  have HB0 := Lib.hid (show Below g w (w.alloc (.cells (bsN xs.length fun _ => 0).toArray 72)) by rw [← hg]; exact (Below.refl _ _).alloc (Nat.le_refl _) _)
  have HK0 := Lib.hid (show Blk (w.alloc (.cells (bsN xs.length fun _ => 0).toArray 72)) g xs.length (dirF xs 0 0) from by
    refine Blk.congr (f := fun _ => 0) (by rw [← hg]; exact box_new _ _ _) (fun j hj => ?_)
    unfold dirF
    rw [if_neg (by omega)]
    split
    · rfl
    · rfl)
  have HDL := Lib.hid (show ∀ k t j, dirF xs k t j < 2 ^ 12 from fun k t j => by
    have hb : ∀ z ∈ lAt xs j, 0 ≤ z ∧ z < 12 := fun z hz => by
      unfold lAt at hz
      cases hx : xs[j]? with
      | none => rw [hx] at hz; simp at hz
      | some x => rw [hx] at hz; have := hok j x hx z (by simpa using hz); omega
    unfold dirF
    split
    · exact bitsL_lt hb
    · split
      · exact bitsL_lt fun z hz => hb z (List.mem_of_mem_take hz)
      · decide)
  clear h hok
  go_enter Try.func75, Try.ntmps75
  go_wp2_with (fail)
  clear hmk hg
  go_loopw [15] (fun i wr => ∃ k : Nat, k ≤ xs.length ∧ i = .int .i64 (k : Int) ∧ Hid (Below g w wr) ∧ Hid (Blk wr g xs.length (dirF xs k 0))) (fun i _ => xs.length - (intOf i).toNat)
  case atStart => exact ⟨0, Nat.zero_le _, rfl, HB0, HK0⟩
  case round =>
    obtain ⟨k, hk, rfl, hB, hF⟩ := hrel
    have hki : ((k : Nat) : Int).toNat = k := by omega
    by_cases hlt : k < xs.length
    · obtain ⟨x, hx⟩ : ∃ x, xs[k]? = some x := ⟨_, List.getElem?_eq_getElem hlt⟩
      have HK := H.out.on hB.out (by rw [HG.out]; exact Nat.le_refl _)
      obtain ⟨pb, o, rfl, -, -⟩ := HK.1.at_ hx
      have y0 := ls_at HK.1 hx
      have HXX := Lib.hid hx
      have HLA := Lib.hid (show lAt xs k = x.l by unfold lAt; rw [hx]; rfl)
      have HXL := Lib.hid (H.out.2 x (List.mem_of_getElem? hx))
      have j1 := HXL.out.1; have j2 := HXL.out.2.1
      unfold maxLen at j2
      have hlt' : (k : Int) < ((xs.length : Nat) : Int) := by omega
      clear hx HK
      go_wp2_with (fail)
      clear y0
      go_loopw [22] (fun i wr => ∃ t : Nat, t ≤ x.l.length ∧ i = .int .i64 (t : Int) ∧ Hid (Below g w wr) ∧ Hid (Blk wr g xs.length (dirF xs k t))) (fun i _ => x.l.length - (intOf i).toNat)
      case atStart => exact ⟨0, Nat.zero_le _, rfl, hB, hF⟩
      case round =>
        obtain ⟨t, ht, rfl, hC, hT⟩ := hrel
        have hti : ((t : Nat) : Int).toNat = t := by omega
        by_cases hlt2 : t < x.l.length
        · obtain ⟨z, hz⟩ : ∃ z, x.l[t]? = some z := ⟨_, List.getElem?_eq_getElem hlt2⟩
          have HL := HXL.out.on hC.out (by rw [HG.out]; exact Nat.le_refl _)
          obtain ⟨b2, o2, e2, -, -⟩ := HL.at_ hz
          rw [e2] at HL
          have y1 := inV_at HL hz
          have htl : (t : Int) < ((x.l.length : Nat) : Int) := by omega
          have hzb := HO.out k x HXX.out z (List.mem_of_getElem? hz)
          obtain ⟨u, rfl⟩ : ∃ u : Nat, z = u := ⟨z.toNat, by omega⟩
          have hu : u < 12 := by omega
          have b0 := hT.out.at_ hlt
          have b1 := frz hT.out k
          obtain ⟨s, hs⟩ : ∃ s, dirF xs k t k = s := ⟨_, rfl⟩
          have hs12 := HDL.out k t k
          have HS := Lib.hid (show dirF xs k (t + 1) k = s ||| 1 <<< u by
            rw [← hs]
            unfold dirF
            rw [if_neg (by omega), if_pos rfl, if_neg (by omega), if_pos rfl, HLA.out, bitsL_take hz]
            rfl)
          rw [hs] at b0 hs12
          have HST := Lib.hid (show Blk (wr.setCell ⟨g, k, none⟩ (.int .u16 ((s ||| 1 <<< u : Nat) : Int))) g xs.length (dirF xs k (t + 1)) by
            rw [← HS.out]
            refine hT.out.set hlt fun j hj hne => ?_
            unfold dirF
            split
            · rfl
            · simp [hne])
          have HBT := Lib.hid (hC.out.setCell (p := ⟨g, k, none⟩) (Nat.le_refl _) (.int .u16 ((s ||| 1 <<< u : Nat) : Int)))
          clear hz HL hs hzb
          rw [e2]
          obtain ⟨v, hv⟩ : ∃ v, s ||| 1 <<< u = v := ⟨_, rfl⟩
          rw [hv] at HST HBT
          have HVV := Lib.hid hv
          clear hv
          go_wp2_with (go_at_call 80; refine (c_with s u (by omega) hu _).mono ?_; rintro e w1 ⟨rfl, hw1⟩; rw [HVV.out, hw1]; clear hw1 w1)
          go_roundw
          case rel => exact ⟨t + 1, by omega, by go_num, HBT, HST⟩
          case measure => simp only [intOf]; omega
        · obtain rfl : t = x.l.length := by omega
          have HN := Lib.hid (hT.out.congr fun j _ => dirF_next (xs := xs) (k := k) (t := x.l.length) (by rw [HLA.out]; exact Nat.le_refl _) j)
          go_wp2_with (fail)
          go_roundw
          case rel => exact ⟨k + 1, by omega, by go_num, hC, HN⟩
          case measure => simp only [intOf]; omega
    · obtain rfl : k = xs.length := by omega
      have HW0 := Lib.hid (show Blk wr g xs.length (wAll (dirA xs) xs.length 0) from hF.out.congr fun j hj => by
        show dirA xs j = dirF xs xs.length 0 j
        unfold dirF
        rw [if_pos hj]
        rfl)
      have HAL := Lib.hid (show ∀ j, dirA xs j < 2 ^ 12 from fun j => by
        have := HDL.out (j + 1) 0 j
        unfold dirF at this
        rw [if_pos (by omega)] at this
        exact this)
      clear HDL HK0 HB0
      go_wp2_with (fail)
      go_loopw [39] (fun i wr => ∃ m : Nat, m ≤ xs.length ∧ i = .int .i64 (m : Int) ∧ Hid (Below g w wr) ∧ Hid (Blk wr g xs.length (wAll (dirA xs) xs.length m))) (fun i _ => xs.length - (intOf i).toNat)
      case atStart => exact ⟨0, Nat.zero_le _, rfl, hB, HW0⟩
      case round =>
        obtain ⟨m, hm, rfl, hC, hW⟩ := hrel
        have hmi : ((m : Nat) : Int).toNat = m := by omega
        by_cases hlt : m < xs.length
        · have hlt' : (m : Int) < ((xs.length : Nat) : Int) := by omega
          go_wp2_with (fail)
          go_loopw [44] (fun i wr => ∃ p : Nat, p ≤ xs.length ∧ i = .int .i64 (p : Int) ∧ Hid (Below g w wr) ∧ Hid (Blk wr g xs.length (wIn (wAll (dirA xs) xs.length m) m p))) (fun i _ => xs.length - (intOf i).toNat)
          case atStart => exact ⟨0, Nat.zero_le _, rfl, hC, hW⟩
          case round =>
            obtain ⟨p, hp, rfl, hD, hP⟩ := hrel
            have hpi : ((p : Nat) : Int).toNat = p := by omega
            by_cases hlt2 : p < xs.length
            · have hpl : (p : Int) < ((xs.length : Nat) : Int) := by omega
              have b0 := hP.out.at_ hlt2
              have b1 := hP.out.at_ hlt
              have b2 := frz hP.out p
              obtain ⟨F, hF0⟩ : ∃ F, wIn (wAll (dirA xs) xs.length m) m p = F := ⟨_, rfl⟩
              have HNX := Lib.hid (show ∀ j, wIn (wAll (dirA xs) xs.length m) m (p + 1) j = if j = p then (if (F p).testBit m then F p ||| F m else F p) else F j from fun j => by rw [← hF0]; rfl)
              have hs12 : F p < 2 ^ 12 := by rw [← hF0]; exact wIn_lt (fun j => wAll_lt HAL.out m j) p p
              have hq12 : F m < 2 ^ 12 := by rw [← hF0]; exact wIn_lt (fun j => wAll_lt HAL.out m j) p m
              rw [hF0] at b0 b1 hP
              clear hF0
              rcases hb : (F p).testBit m with _ | _
              · have HB := Lib.hid (show (decide (0 ≤ (m : Int)) && (F p).testBit ((m : Nat) : Int).toNat) = false by rw [hmi, hb]; simp)
                have HPN := Lib.hid (hP.out.congr (f' := wIn (wAll (dirA xs) xs.length m) m (p + 1)) fun j _ => by
                  rw [HNX.out, hb]
                  split
                  · rename_i e; rw [e]; rfl
                  · rfl)
                obtain ⟨s, hs⟩ : ∃ s, F p = s := ⟨_, rfl⟩
                rw [hs] at b0 hs12 HB
                clear hb hs
                go_wp2_with (go_at_call 76; refine (c_has s (by omega) (m : Int) false HB.out _).mono ?_; rintro e w1 ⟨rfl, hw1⟩; rw [hw1]; clear hw1 w1)
                go_roundw
                case rel => exact ⟨p + 1, by omega, by go_num, hD, HPN⟩
                case measure => simp only [intOf]; omega
              · have HB := Lib.hid (show (decide (0 ≤ (m : Int)) && (F p).testBit ((m : Nat) : Int).toNat) = true by rw [hmi, hb]; simp)
                have HPS := Lib.hid (fun (X : World) (hX : Blk X g xs.length F) => (show Blk (X.setCell ⟨g, p, none⟩ (.int .u16 ((F p ||| F m : Nat) : Int))) g xs.length (wIn (wAll (dirA xs) xs.length m) m (p + 1)) by
                  have e : F p ||| F m = wIn (wAll (dirA xs) xs.length m) m (p + 1) p := by rw [HNX.out, if_pos rfl, hb, if_pos rfl]
                  rw [e]
                  exact hX.set hlt2 fun j _ hne => by rw [HNX.out, if_neg hne]))
                obtain ⟨s, hs⟩ : ∃ s, F p = s := ⟨_, rfl⟩
                obtain ⟨q, hq⟩ : ∃ q, F m = q := ⟨_, rfl⟩
                rw [hs] at b0 hs12 HB HPS
                rw [hq] at b1 hq12 HPS
                have hor := bits_or16 s q (by omega) (by omega)
                obtain ⟨v, hv⟩ : ∃ v, s ||| q = v := ⟨_, rfl⟩
                rw [hv] at hor HPS
                clear hb hs hq hv
                go_wp2_with (go_at_call 76; refine (c_has s (by omega) (m : Int) true HB.out _).mono ?_; rintro e w1 ⟨rfl, hw1⟩; rw [hw1]; clear hw1 w1)
                go_region
                all_goals go_wp2_with (fail)
                all_goals exact ⟨⟨p + 1, by omega, by go_num, Lib.hid (hD.out.setCell (p := ⟨g, p, none⟩) (Nat.le_refl _) _).drew, Lib.hid (HPS.out wr hP.out)⟩, by simp only [intOf]; omega⟩
            · obtain rfl : p = xs.length := by omega
              go_wp2_with (fail)
              go_roundw
              case rel => exact ⟨m + 1, by omega, by go_num, hD, hP⟩
              case measure => simp only [intOf]; omega
        · obtain rfl : m = xs.length := by omega
          go_wp2_with (fail)
          go_ret
          have e := HG.out
          exact ⟨g, rfl, by omega, hW.out, by rw [e]; exact hC.out⟩
end Go.Proofs.Ytjheaeeeeggncaa

namespace Go.Proofs.Ytjheaeeeeggncaa
open Go.RowKit
set_option maxRecDepth 100000
set_option linter.unusedVariables false
set_option linter.unusedSimpArgs false

/-- The order that lists say. -/
def ordF (xs : List LsV) : Nat → Nat := wAll (dirA xs) xs.length xs.length
def Loop (xs : List LsV) : Prop := ∃ i, i < xs.length ∧ (ordF xs i).testBit i = true
open Classical in
/-- The error of lists. -/
noncomputable def rdN (xs : List LsV) : Int := if 12 < xs.length ∨ xs.any (fun x => disB x.l) = true then 1 else if ¬ NmOk xs then 2 else if Loop xs then 12 else 0
theorem dirA_lt {xs : List LsV} (hn : xs.length ≤ 12) (hok : NmOk xs) (j : Nat) : dirA xs j < 2 ^ 12 := by
  refine bitsL_lt fun z hz => ?_
  unfold lAt at hz
  cases hx : xs[j]? with
  | none => rw [hx] at hz; simp at hz
  | some x => rw [hx] at hz; have := hok j x hx z (by simpa using hz); omega
theorem ordF_lt {xs : List LsV} (hn : xs.length ≤ 12) (hok : NmOk xs) (j : Nat) : ordF xs j < 2 ^ 12 := wAll_lt (dirA_lt hn hok) _ j
/-- What read answers. -/
def RdTo (w : World) (xs : List LsV) (e : Ending) (w' : World) : Prop :=
  ((rdN xs ≠ 0 ∧ e = .returned (.tuple #[.slice none 0 0, .int .i64 (rdN xs)])) ∨ (rdN xs = 0 ∧ xs.length ≤ 12 ∧ NmOk xs ∧ ¬ Loop xs ∧ ∃ g, e = .returned (.tuple #[.slice (some ⟨g, 0, none⟩) xs.length xs.length, .int .i64 0]) ∧ w.heap.size ≤ g ∧ Blk w' g xs.length (ordF xs))) ∧ Below w.heap.size w w'
theorem rd_err {w w' : World} {xs : List LsV} {n : Int} (h : rdN xs = n) (hn : n ≠ 0) (hb : Below w.heap.size w w') : RdTo w xs (.returned (.tuple #[.slice none 0 0, .int .i64 n])) w' := ⟨.inl ⟨by rw [h]; exact hn, by rw [h]⟩, hb⟩
set_option maxHeartbeats 8000000 in
theorem c_read (A : Option Addr) (c : Nat) (xs : List LsV) (w : World) (h : LsAt w A c xs) : Calls Try.prog 48 #[.slice A xs.length c] w (RdTo w xs) := by
  have H := Lib.hid h
  have k1 := h.1.1; have k2 := h.1.2.1
  unfold maxLen at k2
  clear h
  obtain ⟨R, hR⟩ : ∃ R, R = RdTo w xs := ⟨_, rfl⟩
  rw [← hR]
  have HRR := Lib.hid hR
  clear hR
  have HE := Lib.hid (show ∀ (n : Int) (X : World), rdN xs = n → n ≠ 0 → Below w.heap.size w X → R (.returned (.tuple #[.slice none 0 0, .int .i64 n])) X from fun n X h hn hb => by rw [HRR.out]; exact rd_err h hn hb)
  have HB0 := Lib.hid (Below.refl w.heap.size w)
  by_cases h12 : 12 < xs.length
  · have hd : decide ((12 : Int) < (xs.length : Int)) = true := decide_eq_true (by omega)
    have HL := Lib.hid h12
    clear h12
    go_enter Try.func48, Try.ntmps48
    go_wp2_with (fail)
    exact HE.out 1 w (by unfold rdN; rw [if_pos (.inl HL.out)]) (by decide) HB0.out
  have hd : decide ((12 : Int) < (xs.length : Int)) = false := decide_eq_false (by omega)
  obtain ⟨r, hr⟩ : ∃ r, xs.any (fun x => disB x.l) = r := ⟨_, rfl⟩
  have HR := Lib.hid hr
  clear hr
  go_enter Try.func48, Try.ntmps48
  go_wp2_with (fail)
  go_at_call 72
  refine (c_CF_list A c xs w H.out r HR.out).mono ?_
  rintro e w1 ⟨rfl, b1⟩
  have K1 := Lib.hid b1
  clear b1
  cases r
  rotate_left
  · go_wp2_with (fail)
    exact HE.out 1 w1 (by unfold rdN; rw [if_pos (.inr HR.out)]) (by decide) K1.out
  have HN1 := Lib.hid (show ¬ (12 < xs.length ∨ xs.any (fun x => disB x.l) = true) by rw [HR.out]; simp; omega)
  obtain ⟨r2, hr2⟩ : ∃ b : Bool, b = true ↔ NmOk xs := by
    rcases Classical.em (NmOk xs) with h | h
    · exact ⟨true, by simp [h]⟩
    · exact ⟨false, by simp [h]⟩
  have HR2 := Lib.hid hr2
  clear hr2
  go_wp2_with (fail)
  go_at_call 74
  refine (c_nameOthers A c xs r2 HR2.out w1 (H.out.on K1.out (Nat.le_refl _))).mono ?_
  rintro e w2 ⟨rfl, b2⟩
  have K2 := Lib.hid (below_join K1.out b2 K1.out.size)
  clear b2
  cases r2
  · go_wp2_with (fail)
    exact HE.out 2 w2 (by unfold rdN; rw [if_neg HN1.out, if_pos (fun h => by have := HR2.out.2 h; cases this)]) (by decide) K2.out
  have HOK := Lib.hid (HR2.out.1 (by trivial))
  have HLEN := Lib.hid (show xs.length ≤ 12 by omega)
  go_wp2_with (fail)
  go_at_call 75
  refine (c_follow A c xs HLEN.out HOK.out w2 (H.out.on K2.out (Nat.le_refl _))).mono ?_
  rintro e w3 ⟨g, rfl, hg, hblk, b3⟩
  have K3 := Lib.hid (below_join K2.out b3 K2.out.size)
  have HBK := Lib.hid (show Blk w3 g xs.length (ordF xs) from hblk)
  have HGE := Lib.hid (show w.heap.size ≤ g from Nat.le_trans K2.out.size hg)
  clear b3 hblk hg hd
  go_wp2_with (fail)
  go_loopw [23] (fun i wr => ∃ k : Nat, k ≤ xs.length ∧ i = .int .i64 (k : Int) ∧ Hid (Below w.heap.size w wr) ∧ Hid (Blk wr g xs.length (ordF xs)) ∧ Hid (∀ j, j < k → (ordF xs j).testBit j = false)) (fun i _ => xs.length - (intOf i).toNat)
  case atStart => exact ⟨0, Nat.zero_le _, rfl, K3, HBK, Lib.hid (fun j hj => absurd hj (by omega))⟩
  case round =>
    obtain ⟨k, hk, rfl, hC, hF, hno⟩ := hrel
    have hki : ((k : Nat) : Int).toNat = k := by omega
    by_cases hlt : k < xs.length
    · have hkl : (k : Int) < ((xs.length : Nat) : Int) := by omega
      have b0 := hF.out.at_ hlt
      have hs12 := ordF_lt HLEN.out HOK.out k
      rcases hb : (ordF xs k).testBit k with _ | _
      · have HB := Lib.hid (show (decide (0 ≤ (k : Int)) && (ordF xs k).testBit ((k : Nat) : Int).toNat) = false by rw [hki, hb]; simp)
        have HNN := Lib.hid (show ∀ j, j < k + 1 → (ordF xs j).testBit j = false from fun j hj => by
          rcases Nat.lt_or_ge j k with h | h
          · exact hno.out j h
          · obtain rfl : j = k := by omega
            exact hb)
        obtain ⟨s, hs⟩ : ∃ s, ordF xs k = s := ⟨_, rfl⟩
        rw [hs] at b0 hs12 HB
        clear hb hs
        go_wp2_with (go_at_call 76; refine (c_has s (by omega) (k : Int) false HB.out _).mono ?_; rintro e w1 ⟨rfl, hw1⟩; rw [hw1]; clear hw1 w1)
        go_roundw
        case rel => exact ⟨k + 1, by omega, by go_num, hC, hF, HNN⟩
        case measure => simp only [intOf]; omega
      · have HB := Lib.hid (show (decide (0 ≤ (k : Int)) && (ordF xs k).testBit ((k : Nat) : Int).toNat) = true by rw [hki, hb]; simp)
        have HLP := Lib.hid (show Loop xs from ⟨k, hlt, hb⟩)
        obtain ⟨s, hs⟩ : ∃ s, ordF xs k = s := ⟨_, rfl⟩
        rw [hs] at b0 hs12 HB
        clear hb hs
        go_wp2_with (go_at_call 76; refine (c_has s (by omega) (k : Int) true HB.out _).mono ?_; rintro e w1 ⟨rfl, hw1⟩; rw [hw1]; clear hw1 w1)
        exact HE.out 12 wr (by unfold rdN; rw [if_neg HN1.out, if_neg (fun h => h HOK.out), if_pos HLP.out]) (by decide) hC.out
    · obtain rfl : k = xs.length := by omega
      have HNL := Lib.hid (show ¬ Loop xs from fun ⟨i, hi, hb⟩ => by rw [hno.out i hi] at hb; cases hb)
      go_wp2_with (fail)
      rw [HRR.out]
      exact ⟨.inr ⟨by unfold rdN; rw [if_neg HN1.out, if_neg (fun h => h HOK.out), if_neg HNL.out], HLEN.out, HOK.out, HNL.out, g, rfl, HGE.out, hF.out⟩, hC.out⟩
end Go.Proofs.Ytjheaeeeeggncaa

namespace Go.Proofs.Ytjheaeeeeggncaa
open Go.RowKit
set_option maxRecDepth 100000
set_option linter.unusedVariables false
set_option linter.unusedSimpArgs false

set_option maxHeartbeats 4000000 in
theorem c_enabled (g n : Nat) (f : Nat → Nat) (hn : n ≤ 12) (hf : ∀ j, f j < 2 ^ 12) (s : Nat) (hs : s < 2 ^ 12) (w : World) (h : Blk w g n f) :
    Calls Try.prog 59 #[.slice (some ⟨g, 0, none⟩) n n, .int .u16 (s : Int)] w fun e w' => e = .returned (.int .u16 ((setB (enB f s) n : Nat) : Int)) ∧ w' = w := by
  have H := Lib.hid h
  have HF := Lib.hid hf
  clear h hf
  go_enter Try.func59, Try.ntmps59
  go_wp2_with (fail)
  go_loopw [5, 9] (fun v i wr => ∃ k : Nat, k ≤ n ∧ v = .int .u16 ((setB (enB f s) k : Nat) : Int) ∧ i = .int .i64 (k : Int) ∧ wr = w) (fun _ i _ => n - (intOf i).toNat)
  case atStart => exact ⟨0, Nat.zero_le _, rfl, rfl, rfl⟩
  case round =>
    obtain ⟨k, hk, rfl, rfl, rfl⟩ := hrel
    have hki : ((k : Nat) : Int).toNat = k := by omega
    obtain ⟨v, hv⟩ : ∃ v, setB (enB f s) k = v := ⟨_, rfl⟩
    have hvl : v < 2 ^ 12 := by rw [← hv]; exact Nat.lt_of_lt_of_le (setB_lt _ _) (Nat.pow_le_pow_right (by omega) (by omega))
    have HV := Lib.hid hv
    rw [hv]
    clear hv
    by_cases hlt : k < n
    · have hkl : (k : Int) < (n : Int) := by omega
      have b0 := H.out.at_ hlt
      have hq := HF.out k
      have HNX := Lib.hid (show setB (enB f s) (k + 1) = if enB f s k = true then v ||| 1 <<< k else v by rw [← HV.out]; rfl)
      rcases hb : s.testBit k with _ | _
      · have HB := Lib.hid (show (decide (0 ≤ (k : Int)) && s.testBit ((k : Nat) : Int).toNat) = false by rw [hki, hb]; simp)
        rcases hc : decide (f k &&& s = f k) with _ | _
        · have HE := Lib.hid (show setB (enB f s) (k + 1) = v by rw [HNX.out, if_neg (by unfold enB; rw [hb, hc]; simp)])
          obtain ⟨q, hq0⟩ : ∃ q, f k = q := ⟨_, rfl⟩
          rw [hq0] at b0 hq hc
          have HC := Lib.hid hc
          clear hb hc hq0
          go_wp2_with first
            | (go_at_call 76; refine (c_has s (by omega) (k : Int) false HB.out _).mono ?_; rintro e w1 ⟨rfl, hw1⟩; rw [hw1]; clear hw1 w1)
            | (go_at_call 79; refine (c_contains s q (by omega) (by omega) false HC.out _).mono ?_; rintro e w1 ⟨rfl, hw1⟩; rw [hw1]; clear hw1 w1)
          go_roundw
          case rel => exact ⟨k + 1, by omega, by rw [HE.out], by go_num, trivial⟩
          case measure => simp only [intOf]; omega
        · have HE := Lib.hid (show setB (enB f s) (k + 1) = v ||| 1 <<< k by rw [HNX.out, if_pos (by unfold enB; rw [hb, hc]; rfl)])
          obtain ⟨q, hq0⟩ : ∃ q, f k = q := ⟨_, rfl⟩
          rw [hq0] at b0 hq hc
          have HC := Lib.hid hc
          clear hb hc hq0
          go_wp2_with first
            | (go_at_call 76; refine (c_has s (by omega) (k : Int) false HB.out _).mono ?_; rintro e w1 ⟨rfl, hw1⟩; rw [hw1]; clear hw1 w1)
            | (go_at_call 79; refine (c_contains s q (by omega) (by omega) true HC.out _).mono ?_; rintro e w1 ⟨rfl, hw1⟩; rw [hw1]; clear hw1 w1)
            | (go_at_call 80; refine (c_with v k (by omega) (by omega) _).mono ?_; rintro e w1 ⟨rfl, hw1⟩; rw [hw1]; clear hw1 w1)
          go_roundw
          case rel => exact ⟨k + 1, by omega, by rw [HE.out], by go_num, trivial⟩
          case measure => simp only [intOf]; omega
      · have HB := Lib.hid (show (decide (0 ≤ (k : Int)) && s.testBit ((k : Nat) : Int).toNat) = true by rw [hki, hb]; simp)
        have HE := Lib.hid (show setB (enB f s) (k + 1) = v by rw [HNX.out, if_neg (by unfold enB; rw [hb]; simp)])
        clear hb
        go_wp2_with (go_at_call 76; refine (c_has s (by omega) (k : Int) true HB.out _).mono ?_; rintro e w1 ⟨rfl, hw1⟩; rw [hw1]; clear hw1 w1)
        go_roundw
        case rel => exact ⟨k + 1, by omega, by rw [HE.out], by go_num, trivial⟩
        case measure => simp only [intOf]; omega
    · obtain rfl : k = n := by omega
      go_wp2_with (fail)
      go_ret
      exact ⟨(show Ending.returned (.int .u16 (v : Int)) = .returned (.int .u16 ((setB (enB f s) k : Nat) : Int)) by rw [HV.out]), rfl⟩
theorem all16 {n : Nat} (hn : n ≤ 12) : IntKind.u16.wrap (IntKind.u16.wrap (2 ^ n) - 1) = ((2 ^ n - 1 : Nat) : Int) := by
  have h1 : (2 : Nat) ^ n ≤ 4096 := Nat.le_trans (Nat.pow_le_pow_right (by omega) hn) (by decide)
  have h0 : 1 ≤ (2 : Nat) ^ n := Nat.one_le_two_pow
  have h2 : IntKind.u16.wrap ((2 : Int) ^ n) = ((2 ^ n : Nat) : Int) := by
    have e : ((2 : Int) ^ n) = ((2 ^ n : Nat) : Int) := by simp
    rw [e]
    exact wrap16 _ (by omega)
  rw [h2, show (((2 ^ n : Nat) : Int) - 1) = ((2 ^ n - 1 : Nat) : Int) by omega]
  exact wrap16 _ (by omega)
set_option maxHeartbeats 4000000 in
theorem c_all (A : Option Addr) (c n : Nat) (hn : n ≤ 12) (w : World) :
    Calls Try.prog 78 #[.slice A n c] w fun e w' => e = .returned (.int .u16 ((2 ^ n - 1 : Nat) : Int)) ∧ w' = w := by
  have hb := all16 hn
  obtain ⟨v, hv⟩ : ∃ v : Nat, 2 ^ n - 1 = v := ⟨_, rfl⟩
  rw [hv] at hb ⊢
  clear hv
  go_enter Try.func78, Try.ntmps78
  go_wp2_with (fail)
  go_ret
  exact ⟨rfl, rfl⟩
set_option maxHeartbeats 4000000 in
theorem c_setOf (A : Option Addr) (c n : Nat) (hn : n ≤ 12) (x y : Int) (r : Bool) (hr : r = true ↔ 0 ≤ x ∧ x < 2 ^ n) (hy : y = if r = true then x else 0) (w : World) :
    Calls Try.prog 54 #[.slice A n c, .int .i64 x] w fun e w' => e = .returned (.tuple #[.int .u16 y, .bool r]) ∧ w' = w := by
  have h1 : (2 : Nat) ^ n ≤ 4096 := Nat.le_trans (Nat.pow_le_pow_right (by omega) hn) (by decide)
  have h0 : 1 ≤ (2 : Nat) ^ n := Nat.one_le_two_pow
  have hp : (2 : Int) ^ n = ((2 ^ n : Nat) : Int) := by simp
  obtain ⟨v, hv⟩ : ∃ v : Nat, 2 ^ n - 1 = v := ⟨_, rfl⟩
  have HV := Lib.hid hv
  have hlt : r = true ↔ (0 ≤ x ∧ x ≤ (v : Int)) := by rw [hr, hp]; omega
  have hv2 : v < 4096 := by omega
  clear hv h1 h0 hp hr
  have HA := Lib.hid (c_all A c n hn w)
  rw [HV.out] at HA
  rcases d1 : decide (x < 0) with _ | _
  · rcases d2 : decide ((v : Int) < x) with _ | _
    · have e1 := of_decide_eq_false d1
      have e2 := of_decide_eq_false d2
      have hw : IntKind.u16.wrap x = x := by
        obtain ⟨k, rfl⟩ : ∃ k : Nat, x = k := ⟨x.toNat, by omega⟩
        exact wrap16 _ (by omega)
      obtain rfl : r = true := hlt.2 ⟨by omega, by omega⟩
      obtain rfl : y = x := by rw [hy]; rfl
      clear e1 e2 hlt hy
      go_enter Try.func54, Try.ntmps54
      go_wp2_with (go_at_call 78; refine HA.out.mono ?_; rintro e w1 ⟨rfl, hw1⟩; rw [hw1]; clear hw1 w1)
      go_ret2
      exact ⟨rfl, rfl⟩
    · have e2 := of_decide_eq_true d2
      obtain rfl : r = false := Bool.eq_false_iff.2 fun h => by have := hlt.1 h; omega
      obtain rfl : y = 0 := by rw [hy]; rfl
      clear e2 hlt hy
      go_enter Try.func54, Try.ntmps54
      go_wp2_with (go_at_call 78; refine HA.out.mono ?_; rintro e w1 ⟨rfl, hw1⟩; rw [hw1]; clear hw1 w1)
      go_ret2
      exact ⟨rfl, rfl⟩
  · have e1 := of_decide_eq_true d1
    obtain rfl : r = false := Bool.eq_false_iff.2 fun h => by have := hlt.1 h; omega
    obtain rfl : y = 0 := by rw [hy]; rfl
    clear e1 hlt hy
    go_enter Try.func54, Try.ntmps54
    go_wp2_with (fail)
    go_ret2
    exact ⟨rfl, rfl⟩
end Go.Proofs.Ytjheaeeeeggncaa

namespace Go.Proofs.Ytjheaeeeeggncaa
open Go.RowKit
set_option maxRecDepth 100000
set_option linter.unusedVariables false
set_option linter.unusedSimpArgs false

set_option maxHeartbeats 4000000 in
theorem c_orValid (A : Option Addr) (c : Nat) (xs : List LsV) (w : World) (h : LsAt w A c xs) : Calls Try.prog 18 #[.slice A xs.length c] w fun e w' => e = .returned (.int .i64 (rdN xs)) ∧ Below w.heap.size w w' := by
  have HC := Lib.hid (c_read A c xs w h)
  obtain ⟨N, hN⟩ : ∃ N, rdN xs = N := ⟨_, rfl⟩
  have HN := Lib.hid hN
  rw [hN]
  clear hN h
  go_enter Try.func18, Try.ntmps18
  go_wp2_with (fail)
  go_at_call 48
  refine HC.out.mono ?_
  rintro e w1 ⟨⟨hn, rfl⟩ | ⟨hn, -, -, -, g, rfl, -, -⟩, bb⟩
  · rw [HN.out]
    have HB := Lib.hid bb
    clear bb hn
    go_wp2_with (fail)
    go_ret
    exact ⟨rfl, HB.out⟩
  · obtain rfl : N = 0 := by rw [← HN.out, hn]
    have HB := Lib.hid bb
    clear bb hn
    go_wp2_with (fail)
    go_ret
    exact ⟨rfl, HB.out⟩
end Go.Proofs.Ytjheaeeeeggncaa

namespace Go.Proofs.Ytjheaeeeeggncaa
open Go.RowKit
set_option maxRecDepth 100000
set_option linter.unusedVariables false
set_option linter.unusedSimpArgs false

/-- A row of sets as numbers. -/
def bsI (n : Nat) (f : Nat → Nat) : List Value := (List.range n).map fun i => .int .i64 ((f i : Nat) : Int)
theorem bsI_len (n : Nat) (f : Nat → Nat) : (bsI n f).length = n := by simp [bsI]
theorem bsI_at {n i : Nat} (f : Nat → Nat) (h : i < n) : (bsI n f)[i]? = some (.int .i64 ((f i : Nat) : Int)) := by simp [bsI, h]
theorem bsI_set {n i : Nat} {f f' : Nat → Nat} (hi : i < n) (h : ∀ j, j < n → j ≠ i → f' j = f j) : (bsI n f).set i (.int .i64 ((f' i : Nat) : Int)) = bsI n f' := by
  apply List.ext_getElem?
  intro j
  rw [List.getElem?_set]
  by_cases e : i = j
  · subst e; rw [if_pos rfl, bsI_len, if_pos hi, bsI_at _ hi]
  · rw [if_neg e]
    by_cases hj : j < n
    · rw [bsI_at _ hj, bsI_at _ hj, h j hj (fun x => e x.symm)]
    · rw [List.getElem?_eq_none (by rw [bsI_len]; omega), List.getElem?_eq_none (by rw [bsI_len]; omega)]
theorem bsI_congr {n : Nat} {f f' : Nat → Nat} (h : ∀ j, j < n → f' j = f j) : bsI n f' = bsI n f := List.map_congr_left fun j hj => by rw [h j (List.mem_range.1 hj)]
def Bki (w : World) (g n : Nat) (f : Nat → Nat) : Prop := w.heap[g]? = some (.cells (bsI n f).toArray 3 (0, 0))
theorem Bki.at_ {w : World} {g n i : Nat} {f : Nat → Nat} (h : Bki w g n f) (hi : i < n) : w.cell? ⟨g, i, none⟩ = some (.int .i64 ((f i : Nat) : Int)) := cell_of h (by rw [List.getElem?_toArray]; exact bsI_at f hi)
theorem Bki.set {w : World} {g n i : Nat} {f f' : Nat → Nat} (h : Bki w g n f) (hi : i < n) (hf : ∀ j, j < n → j ≠ i → f' j = f j) : Bki (w.setCell ⟨g, i, none⟩ (.int .i64 ((f' i : Nat) : Int))) g n f' := by
  have := set_field (o := i) h (.int .i64 ((f' i : Nat) : Int))
  unfold Bki
  rw [this, List.setIfInBounds_toArray, bsI_set hi hf]
theorem Bki.congr {w : World} {g n : Nat} {f f' : Nat → Nat} (h : Bki w g n f) (hf : ∀ j, j < n → f' j = f j) : Bki w g n f' := by unfold Bki; rw [bsI_congr hf]; exact h
theorem mk_ints (n : Nat) (h0 : n ≤ 100) : ∀ w : World, (Instr.makeSlice 33 (.int .i64 (n : Int)) (.int .i64 (n : Int))).run Try.prog w = .ok (.slice (some ⟨w.heap.size, 0, none⟩) n n) (w.alloc (.cells (bsI n fun _ => 0).toArray 3)) := by
  obtain ⟨i0, hi0, hz0, hz1, hz2⟩ := info_parts int_info
  intro w
  have h := run_make (P := Try.prog) w 33 3 i0 (.int .i64 0) Try.underlying33 hi0 hz0 .i64 .i64 (n : Int) (n : Int) (by omega) (by omega) (by rw [hz2]; omega) (by omega)
  rw [hz1] at h
  have e : (bsI n fun _ => 0).toArray = madeCells (Value.int .i64 0).cells n := by
    apply Array.toList_inj.1
    rw [show (Value.int .i64 0).cells = #[.int .i64 0] from rfl, toList_madeCells_one]
    apply List.ext_getElem?
    intro j
    by_cases hj : j < n
    · show (bsI n fun _ => 0)[j]? = _
      rw [bsI_at _ hj]; simp [hj]
    · show (bsI n fun _ => 0)[j]? = _
      rw [List.getElem?_eq_none (by rw [bsI_len]; omega)]; simp; omega
  rw [e]
  simpa using h
theorem rIn_snoc (i : Nat) : ∀ (l : List Nat) (f : Nat → Nat) (k : Nat), rIn f i (l ++ [k]) = fun j => if j = i then rIn f i l i ||| (1 <<< k ||| rIn f i l k) else rIn f i l j
  | [], f, k => rfl
  | x :: l, f, k => rIn_snoc i l _ k
theorem rIn_lt {f : Nat → Nat} {i : Nat} (hf : ∀ j, f j < 2 ^ 12) : ∀ (l : List Nat), (∀ k ∈ l, k < 12) → ∀ j, rIn f i l j < 2 ^ 12 := by
  intro l
  induction l generalizing f with
  | nil => intro _ j; exact hf j
  | cons k l ih =>
    intro h j
    refine ih (fun j => ?_) (fun x hx => h x (by simp [hx])) j
    split
    · exact Nat.or_lt_two_pow (hf i) (Nat.or_lt_two_pow (by rw [Nat.one_shiftLeft]; exact Nat.pow_lt_pow_right (by omega) (h k (by simp))) (hf k))
    · exact hf j
def natsL (l : List Int) : List Nat := l.map Int.toNat
def lstF (xs : List LsV) (j : Nat) : List Nat := natsL (lAt xs j)
theorem lst_ok {xs : List LsV} (hn : xs.length ≤ 12) (hok : NmOk xs) (j k : Nat) (h : k ∈ lstF xs j) : k < 12 := by
  unfold lstF natsL at h
  obtain ⟨z, hz, rfl⟩ := List.mem_map.1 h
  unfold lAt at hz
  cases hx : xs[j]? with
  | none => rw [hx] at hz; simp at hz
  | some x => rw [hx] at hz; have := hok j x hx z (by simpa using hz); omega
theorem rRound_lt {xs : List LsV} (hn : xs.length ≤ 12) (hok : NmOk xs) {f : Nat → Nat} (hf : ∀ j, f j < 2 ^ 12) : ∀ p j, rRound (lstF xs) f p j < 2 ^ 12
  | 0, j => hf j
  | p + 1, j => rIn_lt (rRound_lt hn hok hf p) _ (fun k hk => lst_ok hn hok p k hk) j
theorem rAll_lt {xs : List LsV} (hn : xs.length ≤ 12) (hok : NmOk xs) (n : Nat) : ∀ r j, rAll (lstF xs) n r j < 2 ^ 12
  | 0, j => by show 0 < 2 ^ 12; decide
  | r + 1, j => rRound_lt hn hok (rAll_lt hn hok n r) n j
theorem bits_or64 (a b : Nat) (ha : a < 65536) (hb : b < 65536) : bits .or .i64 (a : Int) (b : Int) = ((a ||| b : Nat) : Int) := by
  have hx : a ||| b < 2 ^ 16 := Nat.or_lt_two_pow (by omega) (by omega)
  have h1 : (BitVec.ofInt 64 (a : Int)).toNat = a := by rw [BitVec.ofInt_natCast, BitVec.toNat_ofNat]; exact Nat.mod_eq_of_lt (by omega)
  have h2 : (BitVec.ofInt 64 (b : Int)).toNat = b := by rw [BitVec.ofInt_natCast, BitVec.toNat_ofNat]; exact Nat.mod_eq_of_lt (by omega)
  show IntKind.i64.wrap ((BitVec.ofInt 64 (a : Int) ||| BitVec.ofInt 64 (b : Int)).toNat : Int) = _
  rw [BitVec.toNat_or, h1, h2]
  exact wrap_in (by omega) (by omega)
theorem shl64 {k : Nat} (h : k < 12) : IntKind.i64.wrap ((2 : Int) ^ k) = ((1 <<< k : Nat) : Int) := by
  have h1 : (2 : Nat) ^ k < 4096 := Nat.lt_of_lt_of_le (Nat.pow_lt_pow_right (by omega) h) (by decide)
  rw [show ((2 : Int) ^ k) = ((2 ^ k : Nat) : Int) by simp, Nat.one_shiftLeft]
  generalize (2 : Nat) ^ k = v at h1
  exact wrap_in (by omega) (by omega)
set_option maxHeartbeats 16000000 in
theorem c_before (A : Option Addr) (c : Nat) (xs : List LsV) (hn : xs.length ≤ 12) (hok : NmOk xs) (w : World) (h : LsAt w A c xs) :
    Calls Try.prog 50 #[.slice A xs.length c] w fun e w' => ∃ g, e = .returned (.slice (some ⟨g, 0, none⟩) xs.length xs.length) ∧ w.heap.size ≤ g ∧ Bki w' g xs.length (rAll (lstF xs) xs.length xs.length) ∧ Below w.heap.size w w' := by
  have H := Lib.hid h
  have HO := Lib.hid hok
  have HLN := Lib.hid hn
  have k1 := h.1.1; have k2 := h.1.2.1
  unfold maxLen at k2
  have hmk := mk_ints xs.length (by omega)
  obtain ⟨g, hg⟩ : ∃ g, w.heap.size = g := ⟨_, rfl⟩
  have HG := Lib.hid hg
  have HB0 := Lib.hid (show Below g w (w.alloc (.cells (bsI xs.length fun _ => 0).toArray 3)) by rw [← hg]; exact (Below.refl _ _).alloc (Nat.le_refl _) _)
  have HK0 := Lib.hid (show Bki (w.alloc (.cells (bsI xs.length fun _ => 0).toArray 3)) g xs.length (rAll (lstF xs) xs.length 0) from by rw [← hg]; exact box_new _ _ _)
  clear h hok
  go_enter Try.func50, Try.ntmps50
  go_wp2_with (fail)
  clear hmk hg
  go_loopw [12] (fun i wr => ∃ q : Nat, q ≤ xs.length ∧ i = .int .i64 (q : Int) ∧ Hid (Below g w wr) ∧ Hid (Bki wr g xs.length (rAll (lstF xs) xs.length q))) (fun i _ => xs.length - (intOf i).toNat)
  case atStart => exact ⟨0, Nat.zero_le _, rfl, HB0, HK0⟩
  case round =>
    obtain ⟨q, hq, rfl, hB0, hF0⟩ := hrel
    have hqi : ((q : Nat) : Int).toNat = q := by omega
    by_cases hltq : q < xs.length
    · have hql : (q : Int) < ((xs.length : Nat) : Int) := by omega
      obtain ⟨f0, hf0⟩ : ∃ f0, rAll (lstF xs) xs.length q = f0 := ⟨_, rfl⟩
      have HF0 := Lib.hid hf0
      have HL0 := Lib.hid (show ∀ j, f0 j < 2 ^ 12 by rw [← hf0]; exact rAll_lt HLN.out HO.out _ q)
      rw [hf0] at hF0
      clear hf0
      go_wp2_with (fail)
      go_loopw [16] (fun i wr => ∃ k : Nat, k ≤ xs.length ∧ i = .int .i64 (k : Int) ∧ Hid (Below g w wr) ∧ Hid (Bki wr g xs.length (rRound (lstF xs) f0 k))) (fun i _ => xs.length - (intOf i).toNat)
      case atStart => exact ⟨0, Nat.zero_le _, rfl, hB0, hF0⟩
      case round =>
        obtain ⟨k, hk, rfl, hB, hF⟩ := hrel
        have hki : ((k : Nat) : Int).toNat = k := by omega
        by_cases hlt : k < xs.length
        · obtain ⟨x, hx⟩ : ∃ x, xs[k]? = some x := ⟨_, List.getElem?_eq_getElem hlt⟩
          have HK := H.out.on hB.out (by rw [HG.out]; exact Nat.le_refl _)
          obtain ⟨pb, o, rfl, -, -⟩ := HK.1.at_ hx
          have y0 := ls_at HK.1 hx
          have HXX := Lib.hid hx
          have HLA := Lib.hid (show lstF xs k = natsL x.l by unfold lstF lAt; rw [hx]; rfl)
          have HXL := Lib.hid (H.out.2 x (List.mem_of_getElem? hx))
          have j1 := HXL.out.1; have j2 := HXL.out.2.1
          unfold maxLen at j2
          have hlt' : (k : Int) < ((xs.length : Nat) : Int) := by omega
          obtain ⟨f1, hf1⟩ : ∃ f1, rRound (lstF xs) f0 k = f1 := ⟨_, rfl⟩
          have HN1 := Lib.hid (show rRound (lstF xs) f0 (k + 1) = rIn f1 k (natsL x.l) by rw [rRound, hf1, HLA.out])
          have HL1 := Lib.hid (show ∀ j, f1 j < 2 ^ 12 by rw [← hf1]; exact rRound_lt HLN.out HO.out HL0.out k)
          rw [hf1] at hF
          clear hf1 hx HK
          go_wp2_with (fail)
          clear y0
          go_loopw [24] (fun i wr => ∃ t : Nat, t ≤ x.l.length ∧ i = .int .i64 (t : Int) ∧ Hid (Below g w wr) ∧ Hid (Bki wr g xs.length (rIn f1 k (natsL (x.l.take t))))) (fun i _ => x.l.length - (intOf i).toNat)
          case atStart => exact ⟨0, Nat.zero_le _, rfl, hB, hF⟩
          case round =>
            obtain ⟨t, ht, rfl, hC, hT⟩ := hrel
            have hti : ((t : Nat) : Int).toNat = t := by omega
            by_cases hlt2 : t < x.l.length
            · obtain ⟨z, hz⟩ : ∃ z, x.l[t]? = some z := ⟨_, List.getElem?_eq_getElem hlt2⟩
              have HL := HXL.out.on hC.out (by rw [HG.out]; exact Nat.le_refl _)
              obtain ⟨b2, o2, e2, -, -⟩ := HL.at_ hz
              rw [e2] at HL
              have y1 := inV_at HL hz
              have htl : (t : Int) < ((x.l.length : Nat) : Int) := by omega
              have hzb := HO.out k x HXX.out z (List.mem_of_getElem? hz)
              have hzn := HLN.out
              obtain ⟨u, rfl⟩ : ∃ u : Nat, z = u := ⟨z.toNat, by omega⟩
              have hu : u < 12 := by omega
              have hun : u < xs.length := by omega
              have hu0 : (0 : Int) ≤ (u : Int) := by omega
              have hul : (u : Int) < ((xs.length : Nat) : Int) := by omega
              have hui : ((u : Nat) : Int).toNat = u := by omega
              have b0 := hT.out.at_ hlt
              have b1 := hT.out.at_ hun
              have b3 := frz hT.out k
              obtain ⟨F, hF1⟩ : ∃ F, rIn f1 k (natsL (x.l.take t)) = F := ⟨_, rfl⟩
              have HNX := Lib.hid (show rIn f1 k (natsL (x.l.take (t + 1))) = fun j => if j = k then F k ||| (1 <<< u ||| F u) else F j by
                rw [List.take_add_one, hz, ← hF1]
                unfold natsL
                rw [List.map_append]
                exact rIn_snoc k _ f1 u)
              have hFl : ∀ j, F j < 2 ^ 12 := by
                rw [← hF1]
                exact rIn_lt HL1.out _ fun y hy => lst_ok HLN.out HO.out k y (by
                  rw [HLA.out]
                  unfold natsL at hy ⊢
                  obtain ⟨a, ha, rfl⟩ := List.mem_map.1 hy
                  exact List.mem_map.2 ⟨a, List.mem_of_mem_take ha, rfl⟩)
              rw [hF1] at b0 b1 hT
              clear hF1 hz HL hzb
              have HPS := Lib.hid (fun (X : World) (hX : Bki X g xs.length F) => (show Bki (X.setCell ⟨g, k, none⟩ (.int .i64 ((F k ||| (1 <<< u ||| F u) : Nat) : Int))) g xs.length (rIn f1 k (natsL (x.l.take (t + 1)))) by
                have e : F k ||| (1 <<< u ||| F u) = rIn f1 k (natsL (x.l.take (t + 1))) k := by rw [HNX.out]; simp only [if_true]
                rw [e]
                exact hX.set hlt fun j _ hne => by rw [HNX.out]; simp only [if_neg hne]))
              have hs12 := hFl k
              have hq12 := hFl u
              obtain ⟨s, hs⟩ : ∃ s, F k = s := ⟨_, rfl⟩
              obtain ⟨r, hr⟩ : ∃ r, F u = r := ⟨_, rfl⟩
              rw [hs] at b0 hs12 HPS
              rw [hr] at b1 hq12 HPS
              have hsh := shl64 hu
              have h1u : 1 <<< u < 4096 := by rw [Nat.one_shiftLeft]; exact Nat.lt_of_lt_of_le (Nat.pow_lt_pow_right (by omega) hu) (by decide)
              obtain ⟨p, hp⟩ : ∃ p, 1 <<< u = p := ⟨_, rfl⟩
              rw [hp] at hsh HPS h1u
              have ho1 := bits_or64 p r (by omega) (by omega)
              have hpr : p ||| r < 2 ^ 12 := Nat.or_lt_two_pow (by omega) (by omega)
              obtain ⟨p2, hp2⟩ : ∃ p2, p ||| r = p2 := ⟨_, rfl⟩
              rw [hp2] at ho1 HPS hpr
              have ho2 := bits_or64 s p2 (by omega) (by omega)
              obtain ⟨v, hv⟩ : ∃ v, s ||| p2 = v := ⟨_, rfl⟩
              rw [hv] at ho2 HPS
              clear hs hr hp hp2 hv hFl
              rw [e2]
              go_wp2_with (fail)
              go_region
              all_goals go_wp2_with (fail)
              all_goals exact ⟨⟨t + 1, by omega, by go_num, Lib.hid (hC.out.setCell (p := ⟨g, k, none⟩) (Nat.le_refl _) _).drew, Lib.hid (HPS.out wr hT.out)⟩, by simp only [intOf]; omega⟩
            · obtain rfl : t = x.l.length := by omega
              have HN := Lib.hid (show Bki wr g xs.length (rRound (lstF xs) f0 (k + 1)) by rw [HN1.out]; have := hT.out; rwa [List.take_length] at this)
              go_wp2_with (fail)
              go_roundw
              case rel => exact ⟨k + 1, by omega, by go_num, hC, HN⟩
              case measure => simp only [intOf]; omega
        · obtain rfl : k = xs.length := by omega
          have HN := Lib.hid (show Bki wr g xs.length (rAll (lstF xs) xs.length (q + 1)) by rw [rAll, HF0.out]; exact hF.out)
          go_wp2_with (fail)
          go_roundw
          case rel => exact ⟨q + 1, by omega, by go_num, hB, HN⟩
          case measure => simp only [intOf]; omega
    · obtain rfl : q = xs.length := by omega
      go_wp2_with (fail)
      go_ret
      have e := HG.out
      exact ⟨g, rfl, by omega, hF0.out, by rw [e]; exact hB0.out⟩
end Go.Proofs.Ytjheaeeeeggncaa

namespace Go.Proofs.Ytjheaeeeeggncaa
open Go.RowKit
set_option maxRecDepth 100000
set_option linter.unusedVariables false
set_option linter.unusedSimpArgs false

theorem lstF_lt {xs : List LsV} (hok : NmOk xs) (j k : Nat) (h : k ∈ lstF xs j) : k < xs.length := by
  unfold lstF natsL at h
  obtain ⟨z, hz, rfl⟩ := List.mem_map.1 h
  unfold lAt at hz
  cases hx : xs[j]? with
  | none => rw [hx] at hz; simp at hz
  | some x => rw [hx] at hz; have := hok j x hx z (by simpa using hz); omega
/-- The closure round by round is the closure by middle elements. -/
theorem rAll_ord {xs : List LsV} (hok : NmOk xs) (i : Nat) (hi : i < xs.length) : rAll (lstF xs) xs.length xs.length i = ordF xs i := by
  apply Nat.eq_of_testBit_eq
  intro k
  rw [Bool.eq_iff_iff]
  rw [rAll_iff (E := fun i k => i < xs.length ∧ k ∈ lstF xs i) (fun i k => Iff.rfl) (fun i k h => lstF_lt hok i k h.2) k]
  unfold ordF
  rw [wAll_iff (E := fun i k => i < xs.length ∧ k ∈ lstF xs i) (fun i k h => ⟨h.1, lstF_lt hok i k h.2⟩) (fun i hi k => by
    unfold dirA
    rw [bitsL_tb]
    unfold lstF natsL
    rw [List.mem_map]
    exact ⟨fun h => ⟨hi, h⟩, fun h => h.2⟩) hi k]
theorem c_before2 (A : Option Addr) (c : Nat) (xs : List LsV) (hn : xs.length ≤ 12) (hok : NmOk xs) (w : World) (h : LsAt w A c xs) :
    Calls Try.prog 50 #[.slice A xs.length c] w fun e w' => ∃ g, e = .returned (.slice (some ⟨g, 0, none⟩) xs.length xs.length) ∧ w.heap.size ≤ g ∧ Bki w' g xs.length (ordF xs) ∧ Below w.heap.size w w' :=
  (c_before A c xs hn hok w h).mono fun e w' ⟨g, h1, h2, h3, h4⟩ => ⟨g, h1, h2, h3.congr fun j hj => (rAll_ord hok j hj).symm, h4⟩
theorem bits_and64 (a b : Nat) (ha : a < 65536) (hb : b < 65536) : bits .and .i64 (a : Int) (b : Int) = ((a &&& b : Nat) : Int) := by
  have hx : a &&& b < 2 ^ 16 := Nat.and_lt_two_pow _ (by omega)
  have h1 : (BitVec.ofInt 64 (a : Int)).toNat = a := by rw [BitVec.ofInt_natCast, BitVec.toNat_ofNat]; exact Nat.mod_eq_of_lt (by omega)
  have h2 : (BitVec.ofInt 64 (b : Int)).toNat = b := by rw [BitVec.ofInt_natCast, BitVec.toNat_ofNat]; exact Nat.mod_eq_of_lt (by omega)
  show IntKind.i64.wrap ((BitVec.ofInt 64 (a : Int) &&& BitVec.ofInt 64 (b : Int)).toNat : Int) = _
  rw [BitVec.toNat_and, h1, h2]
  exact wrap_in (by omega) (by omega)
theorem has_bit64 (s k : Nat) (hs : s < 65536) (hk : k ≤ 64) : (bits BinOp.and IntKind.i64 ((s : Int) / 2 ^ k) 1 == 1) = s.testBit k := by
  have e1 : ((s : Int) / 2 ^ k) = ((s / 2 ^ k : Nat) : Int) := by simp
  have hlt : s / 2 ^ k < 65536 := Nat.lt_of_le_of_lt (Nat.div_le_self _ _) hs
  rw [e1, show (1 : Int) = ((1 : Nat) : Int) from rfl, bits_and64 _ 1 hlt (by decide), Bool.eq_iff_iff, beq_iff_eq, Int.ofNat_inj, bit_one]
set_option maxHeartbeats 16000000 in
theorem c_rrValid (A : Option Addr) (c : Nat) (xs : List LsV) (w : World) (h : LsAt w A c xs) : Calls Try.prog 19 #[.slice A xs.length c] w fun e w' => e = .returned (.int .i64 (rdN xs)) ∧ Below w.heap.size w w' := by
  have H := Lib.hid h
  have k1 := h.1.1; have k2 := h.1.2.1
  unfold maxLen at k2
  clear h
  obtain ⟨N, hN⟩ : ∃ N, rdN xs = N := ⟨_, rfl⟩
  have HN := Lib.hid hN
  rw [hN]
  clear hN
  have HB0 := Lib.hid (Below.refl w.heap.size w)
  by_cases h12 : 12 < xs.length
  · have hd : decide ((12 : Int) < (xs.length : Int)) = true := decide_eq_true (by omega)
    obtain rfl : N = 1 := by rw [← HN.out]; unfold rdN; rw [if_pos (.inl h12)]
    clear h12
    go_enter Try.func19, Try.ntmps19
    go_wp2_with (fail)
    go_ret
    exact ⟨rfl, HB0.out⟩
  have hd : decide ((12 : Int) < (xs.length : Int)) = false := decide_eq_false (by omega)
  go_enter Try.func19, Try.ntmps19
  go_wp2_with (fail)
  clear hd
  go_loopw [17] (fun i wr => ∃ k : Nat, k ≤ xs.length ∧ i = .int .i64 (k : Int) ∧ Hid (Below w.heap.size w wr) ∧ Hid (∀ (o : Nat) (x : LsV), o < k → xs[o]? = some x → disB x.l = false)) (fun i _ => xs.length - (intOf i).toNat)
  case atStart => exact ⟨0, Nat.zero_le _, rfl, HB0, Lib.hid (fun o x ho => absurd ho (by omega))⟩
  case round =>
    obtain ⟨q, hq, rfl, hB0, hok0⟩ := hrel
    have hqi : ((q : Nat) : Int).toNat = q := by omega
    by_cases hltq : q < xs.length
    · obtain ⟨u, hu⟩ : ∃ u, xs[q]? = some u := ⟨_, List.getElem?_eq_getElem hltq⟩
      have HK := H.out.on hB0.out (Nat.le_refl _)
      obtain ⟨pb, o, rfl, -, -⟩ := HK.1.at_ hu
      have y0 := ls_at HK.1 hu
      have HUU := Lib.hid hu
      have HUL := Lib.hid (H.out.2 u (List.mem_of_getElem? hu))
      have HUM := Lib.hid (List.mem_of_getElem? hu)
      have j1 := HUL.out.1; have j2 := HUL.out.2.1
      unfold maxLen at j2
      have hltq' : (q : Int) < ((xs.length : Nat) : Int) := by omega
      obtain ⟨UA, uc, l⟩ := u
      simp only at y0 j1 j2 HUL
      clear hu HK
      go_wp2_with (fail)
      clear y0
      go_loopw [5] (fun i wr => ∃ k : Nat, (k ≤ l.length ∨ k = 1) ∧ 1 ≤ k ∧ i = .int .i64 (k : Int) ∧ Hid (Below w.heap.size w wr) ∧ Hid (∀ j a b, j + 1 < k → l[j]? = some a → l[j + 1]? = some b → a < b)) (fun i _ => l.length - (intOf i).toNat)
      case atStart => exact ⟨1, .inr rfl, by omega, rfl, hB0, Lib.hid (fun j a b hj => absurd hj (by omega))⟩
      case round =>
        obtain ⟨k, hk, hk1, rfl, hB, hasc⟩ := hrel
        by_cases hlt : k < l.length
        · obtain ⟨m, hm⟩ : ∃ m, k = m + 1 := ⟨k - 1, by omega⟩
          obtain ⟨x, hx⟩ : ∃ x, l[m]? = some x := ⟨_, List.getElem?_eq_getElem (by omega)⟩
          obtain ⟨y, hy⟩ : ∃ y, l[k]? = some y := ⟨_, List.getElem?_eq_getElem hlt⟩
          obtain ⟨b, oo, e2, -, -⟩ := HUL.out.at_ hx
          have HL := HUL.out.on hB.out (Nat.le_refl _)
          rw [e2] at HL
          have f0 := inV_at HL hx
          have f1 := inV_at HL hy
          have hk2 : ((k : Nat) : Int) < (l.length : Int) := by omega
          have hk3 : IntKind.i64.wrap (((k : Nat) : Int) - 1) = (m : Int) := by rw [show ((k : Nat) : Int) - 1 = (m : Int) by omega]; exact wrap_in (by omega) (by omega)
          have hk0 : (0 : Int) ≤ (m : Int) := by omega
          have hk4 : ((m : Nat) : Int) < (l.length : Int) := by omega
          have hi1 : ((m : Nat) : Int).toNat = m := by omega
          have hi2 : ((k : Nat) : Int).toNat = k := by omega
          have HM := Lib.hid hm
          have HXX := Lib.hid hx
          have HYY := Lib.hid hy
          clear hm hx hy HL
          rw [e2]
          rcases hL : decide (y ≤ x) with _ | _
          · have HL := Lib.hid (of_decide_eq_false hL)
            have HNN := Lib.hid (show ∀ j a b, j + 1 < k + 1 → l[j]? = some a → l[j + 1]? = some b → a < b from fun j a b hj ha hb => by
              have hM := HM.out
              by_cases e : j + 1 < k
              · exact hasc.out j a b e ha hb
              · obtain rfl : j = m := by omega
                rw [HXX.out] at ha
                rw [← hM, HYY.out] at hb
                injection ha with ha
                injection hb with hb
                have := HL.out
                omega)
            go_wp2_with (fail)
            go_quiet (fail)
            go_wp2_with (fail)
            go_roundw
            case rel => exact ⟨k + 1, .inl (by omega), by omega, by go_num, Lib.hid (below_drewN hB.out), HNN⟩
            case measure => simp only [intOf]; omega
          · obtain rfl : N = 1 := by
              rw [← HN.out]
              unfold rdN
              rw [if_pos (.inr (List.any_eq_true.2 ⟨_, HUM.out, disB_iff.2 ⟨m, x, y, HXX.out, by rw [← HM.out]; exact HYY.out, of_decide_eq_true hL⟩⟩))]
            go_wp2_with (fail)
            go_quiet (fail)
            go_wp2_with (fail)
            go_ret
            exact ⟨rfl, below_drewN hB.out⟩
        · have HDN := Lib.hid (show ∀ (o : Nat) (x : LsV), o < q + 1 → xs[o]? = some x → disB x.l = false from fun o x ho hx => by
            rcases Nat.lt_or_ge o q with h | h
            · exact hok0.out o x h hx
            · obtain rfl : o = q := by omega
              rw [HUU.out] at hx
              injection hx with hx
              subst hx
              rw [Bool.eq_false_iff]
              intro h
              obtain ⟨j, x, y, h1, h2, h3⟩ := disB_iff.1 h
              have := hasc.out j x y (by have := (List.getElem?_eq_some_iff.1 h2).1; simp only at this; omega) h1 h2
              omega)
          have hk2 : ¬ ((k : Nat) : Int) < (l.length : Int) := by omega
          go_wp2_with (fail)
          go_roundw
          case rel => exact ⟨q + 1, by omega, by go_num, hB, HDN⟩
          case measure => simp only [intOf]; omega
    · obtain rfl : q = xs.length := by omega
      have HN1 := Lib.hid (show ¬ (12 < xs.length ∨ xs.any (fun x => disB x.l) = true) from fun h => by
        rcases h with h | h
        · omega
        · obtain ⟨x, hx, hd⟩ := List.any_eq_true.1 h
          obtain ⟨o, ho⟩ := List.getElem?_of_mem hx
          rw [hok0.out o x (List.getElem?_eq_some_iff.1 ho).1 ho] at hd
          cases hd)
      have HBX := Lib.hid hB0.out
      go_wp2_with (fail)
      clear hok0 hB0
      have hB1 := HBX
      go_loopw [40] (fun i wr => ∃ k : Nat, k ≤ xs.length ∧ i = .int .i64 (k : Int) ∧ Hid (Below w.heap.size w wr) ∧ Hid (∀ (o : Nat) (x : LsV), o < k → xs[o]? = some x → ∀ i ∈ x.l, 0 ≤ i ∧ i < xs.length ∧ i ≠ o)) (fun i _ => xs.length - (intOf i).toNat)
      case atStart => exact ⟨0, Nat.zero_le _, rfl, hB1, Lib.hid (fun o x ho => absurd ho (by omega))⟩
      case round =>
        obtain ⟨k, hk, rfl, hB, hok⟩ := hrel
        have hki : ((k : Nat) : Int).toNat = k := by omega
        by_cases hlt : k < xs.length
        · obtain ⟨x, hx⟩ : ∃ x, xs[k]? = some x := ⟨_, List.getElem?_eq_getElem hlt⟩
          have HK := H.out.on hB.out (Nat.le_refl _)
          obtain ⟨pb, o, e0, -, -⟩ := HK.1.at_ hx
          rw [e0] at HK
          have y0 := ls_at HK.1 hx
          have HXX := Lib.hid hx
          have HXL := Lib.hid (H.out.2 x (List.mem_of_getElem? hx))
          have j1 := HXL.out.1; have j2 := HXL.out.2.1
          unfold maxLen at j2
          have hlt' : (k : Int) < ((xs.length : Nat) : Int) := by omega
          clear hx HK
          rw [e0]
          go_wp2_with (fail)
          clear y0
          go_loopw [47] (fun i wr => ∃ t : Nat, t ≤ x.l.length ∧ i = .int .i64 (t : Int) ∧ Hid (Below w.heap.size w wr) ∧ Hid (∀ j z, j < t → x.l[j]? = some z → 0 ≤ z ∧ z < xs.length ∧ z ≠ k)) (fun i _ => x.l.length - (intOf i).toNat)
          case atStart => exact ⟨0, Nat.zero_le _, rfl, hB, Lib.hid (fun j z hj => absurd hj (by omega))⟩
          case round =>
            obtain ⟨t, ht, rfl, hC, hot⟩ := hrel
            have hti : ((t : Nat) : Int).toNat = t := by omega
            by_cases hlt2 : t < x.l.length
            · obtain ⟨z, hz⟩ : ∃ z, x.l[t]? = some z := ⟨_, List.getElem?_eq_getElem hlt2⟩
              have HL := HXL.out.on hC.out (Nat.le_refl _)
              obtain ⟨b2, o2, e2, -, -⟩ := HL.at_ hz
              rw [e2] at HL
              have y1 := inV_at HL hz
              have htl : (t : Int) < ((x.l.length : Nat) : Int) := by omega
              have HZ := Lib.hid hz
              clear hz HL
              rw [e2]
              have HNO := Lib.hid (show ¬ (0 ≤ z ∧ z < (xs.length : Int) ∧ z ≠ (k : Int)) → N = 2 from fun hn => by
                rw [← HN.out]
                unfold rdN
                rw [if_neg HN1.out, if_pos (fun h => hn (h k x HXX.out z (List.mem_of_getElem? HZ.out)))])
              rcases d1 : decide (z < 0) with _ | _
              · rcases d2 : decide ((xs.length : Int) ≤ z) with _ | _
                · rcases d3 : (z == (k : Int)) with _ | _
                  · have HOT := Lib.hid (show ∀ j z, j < t + 1 → x.l[j]? = some z → 0 ≤ z ∧ z < (xs.length : Int) ∧ z ≠ (k : Int) from fun j u hj hu => by
                      rcases Nat.lt_or_ge j t with h | h
                      · exact hot.out j u h hu
                      · obtain rfl : j = t := by omega
                        rw [HZ.out] at hu
                        injection hu with hu
                        subst hu
                        have e1 := of_decide_eq_false d1
                        have e2 := of_decide_eq_false d2
                        have e3 : z ≠ (k : Int) := by simpa using d3
                        exact ⟨by omega, by omega, e3⟩)
                    go_wp2_with (fail)
                    go_roundw
                    case rel => exact ⟨t + 1, by omega, by go_num, hC, HOT⟩
                    case measure => simp only [intOf]; omega
                  · obtain rfl : N = 2 := HNO.out (fun h => h.2.2 (by simpa using d3))
                    go_wp2_with (fail)
                    go_ret
                    exact ⟨rfl, hC.out⟩
                · obtain rfl : N = 2 := HNO.out (fun h => by have := of_decide_eq_true d2; omega)
                  go_wp2_with (fail)
                  go_ret
                  exact ⟨rfl, hC.out⟩
              · obtain rfl : N = 2 := HNO.out (fun h => by have := of_decide_eq_true d1; omega)
                go_wp2_with (fail)
                go_ret
                exact ⟨rfl, hC.out⟩
            · obtain rfl : t = x.l.length := by omega
              have HOK := Lib.hid (show ∀ (o : Nat) (y : LsV), o < k + 1 → xs[o]? = some y → ∀ i ∈ y.l, 0 ≤ i ∧ i < xs.length ∧ i ≠ o from fun o y ho hy i hi => by
                rcases Nat.lt_or_ge o k with h | h
                · exact hok.out o y h hy i hi
                · obtain rfl : o = k := by omega
                  rw [HXX.out] at hy
                  injection hy with hy
                  subst hy
                  obtain ⟨j, hj⟩ := List.getElem?_of_mem hi
                  exact hot.out j i (List.getElem?_eq_some_iff.1 hj).1 hj)
              go_wp2_with (fail)
              go_roundw
              case rel => exact ⟨k + 1, by omega, by go_num, hC, HOK⟩
              case measure => simp only [intOf]; omega
        · obtain rfl : k = xs.length := by omega
          have HNM := Lib.hid (show NmOk xs from fun o x hx => hok.out o x (List.getElem?_eq_some_iff.1 hx).1 hx)
          have HLEN := Lib.hid (show xs.length ≤ 12 by omega)
          go_wp2_with (fail)
          go_at_call 50
          refine (c_before2 A c xs HLEN.out HNM.out wr (H.out.on hB.out (Nat.le_refl _))).mono ?_
          rintro e w3 ⟨g, rfl, hg, hblk, b3⟩
          have K3 := Lib.hid (below_join hB.out b3 hB.out.size)
          have HBK := Lib.hid hblk
          clear b3 hblk hg
          go_wp2_with (fail)
          go_loopw [69] (fun i wr => ∃ k : Nat, k ≤ xs.length ∧ i = .int .i64 (k : Int) ∧ Hid (Below w.heap.size w wr) ∧ Hid (Bki wr g xs.length (ordF xs)) ∧ Hid (∀ j, j < k → (ordF xs j).testBit j = false)) (fun i _ => xs.length - (intOf i).toNat)
          case atStart => exact ⟨0, Nat.zero_le _, rfl, K3, HBK, Lib.hid (fun j hj => absurd hj (by omega))⟩
          case round =>
            obtain ⟨m, hm, rfl, hC, hF, hno⟩ := hrel
            have hmi : ((m : Nat) : Int).toNat = m := by omega
            by_cases hltm : m < xs.length
            · have hml : (m : Int) < ((xs.length : Nat) : Int) := by omega
              have b0 := hF.out.at_ hltm
              have hs12 := ordF_lt HLEN.out HNM.out m
              have hbit := has_bit64 (ordF xs m) m (by omega) (by have := HLEN.out; omega)
              rcases hb : (ordF xs m).testBit m with _ | _
              · have HNN := Lib.hid (show ∀ j, j < m + 1 → (ordF xs j).testBit j = false from fun j hj => by
                  rcases Nat.lt_or_ge j m with h | h
                  · exact hno.out j h
                  · obtain rfl : j = m := by omega
                    exact hb)
                rw [hb] at hbit
                obtain ⟨s, hs⟩ : ∃ s, ordF xs m = s := ⟨_, rfl⟩
                rw [hs] at b0 hs12 hbit
                clear hb hs
                go_wp2_with (fail)
                go_roundw
                case rel => exact ⟨m + 1, by omega, by go_num, hC, hF, HNN⟩
                case measure => simp only [intOf]; omega
              · obtain rfl : N = 12 := by
                  rw [← HN.out]
                  unfold rdN
                  rw [if_neg HN1.out, if_neg (fun h => h HNM.out), if_pos ⟨m, hltm, hb⟩]
                rw [hb] at hbit
                obtain ⟨s, hs⟩ : ∃ s, ordF xs m = s := ⟨_, rfl⟩
                rw [hs] at b0 hs12 hbit
                clear hb hs
                go_wp2_with (fail)
                go_ret
                exact ⟨rfl, hC.out⟩
            · obtain rfl : m = xs.length := by omega
              obtain rfl : N = 0 := by
                rw [← HN.out]
                unfold rdN
                rw [if_neg HN1.out, if_neg (fun h => h HNM.out), if_neg (fun ⟨i, hi, hb⟩ => by rw [hno.out i hi] at hb; cases hb)]
              go_wp2_with (fail)
              go_ret
              exact ⟨rfl, hC.out⟩
end Go.Proofs.Ytjheaeeeeggncaa

namespace Go.Proofs.Ytjheaeeeeggncaa
open Go.RowKit
set_option maxRecDepth 100000
set_option linter.unusedVariables false
set_option linter.unusedSimpArgs false

theorem lst_next (k s : Nat) : lst (k + 1) s = lst k s ++ if s.testBit k = true then [k] else [] := by
  unfold lst
  rw [List.range_succ, List.filter_append]
  by_cases h : s.testBit k = true <;> simp [h]
theorem lst_len (k s : Nat) : (lst k s).length ≤ k := by
  unfold lst
  exact Nat.le_trans (List.length_filter_le _ _) (by simp)
/-- Elements as cells. -/
def elV (l : List Nat) : List Value := l.map fun i => .int .i64 ((i : Nat) : Int)
theorem elV_snoc (l : List Nat) (k : Nat) : elV (l ++ [k]) = elV l ++ [.int .i64 (k : Int)] := by simp [elV]
set_option maxHeartbeats 8000000 in
theorem c_rrList (s : Nat) (hs : s < 2 ^ 12) (w : World) :
    Calls Try.prog 51 #[.int .i64 (s : Int)] w fun e w' => ∃ v, e = .returned v ∧ w'.ownsRow w.heap.size 3 1 v (lst 12 s).length (elV (lst 12 s)) ∧ Below w.heap.size w w' := by
  obtain ⟨i1, hi1, hz1, hz2, hz3⟩ := info_parts int_info
  go_enter Try.func51, Try.ntmps51
  go_wp2_with (fail)
  go_loopw [3, 4] (fun v i wr => ∃ k : Nat, k ≤ 12 ∧ i = .int .i64 (k : Int) ∧ Hid (Below w.heap.size w wr) ∧ Hid (wr.ownsRow w.heap.size 3 1 v (lst k s).length (elV (lst k s)))) (fun _ i _ => 12 - (intOf i).toNat)
  case atStart => exact ⟨0, by omega, rfl, Lib.hid (Below.refl _ _), Lib.hid (World.ownsRow_nil _ _ _ _)⟩
  case round =>
    obtain ⟨k, hk, rfl, hK, ho⟩ := hrel
    have hki : ((k : Nat) : Int).toNat = k := by omega
    by_cases hlt : k < 12
    · have hkl : (k : Int) < 12 := by omega
      have hbit := has_bit64 s k (by omega) (by omega)
      obtain ⟨nn, hnn⟩ : ∃ m, m = (lst k s).length := ⟨_, rfl⟩
      have hln : nn ≤ 12 := by rw [hnn]; exact Nat.le_trans (lst_len k s) (by omega)
      rw [← hnn] at ho
      have HNN := Lib.hid hnn
      obtain ⟨As, cs, rfl⟩ := own_shape ho.out
      have hz4 := hK.out.size
      clear hnn
      rcases hb : s.testBit k with _ | _
      · have HO := Lib.hid (show wr.ownsRow w.heap.size 3 1 (.slice As nn cs) (lst (k + 1) s).length (elV (lst (k + 1) s)) by
          rw [lst_next, hb]
          simp only [Bool.false_eq_true, if_false, List.append_nil]
          rw [← HNN.out]; exact ho.out)
        rw [hb] at hbit
        clear hb
        go_wp2_with (fail)
        go_roundw
        case rel => exact ⟨k + 1, by omega, by go_num, hK, HO⟩
        case measure => simp only [intOf]; omega
      · have HBB := Lib.hid hb
        rw [hb] at hbit
        clear hb
        go_wp2_with (at_builtin; refine wpList_append_lies _ rfl _ _ 33 rfl w.heap.size 3 i1 (.int .i64 0) 1 8 Try.underlying33 hi1 hz1 hz2 hz3 rfl (by decide) (.slice As nn cs) nn _ rfl (ho.out.alloc _) ⟨wr.heap.size, 0, none⟩ 1 1 [.int .i64 (k : Int)] rfl rfl (World.news_of_block (heap_alloc_new _ _)) (by simp [Value.oneCell']) (by decide) (by unfold maxLen; omega) (by omega) (by simp; omega) (wr.heap.size + 1) (by simp) ?_; intro g4 cap4 Z hown hgrow _ _; have HBZ := Lib.hid ((hK.out.alloc hK.out.size _).grown hgrow (by have := hK.out.size; simp; omega) (fun k hk => (ownsRow_lt ho.out hk).1)); have HOZ := Lib.hid hown; clear hown hgrow)
        have HO := Lib.hid (show Z.ownsRow w.heap.size 3 1 (.slice (some ⟨g4, 0, none⟩) (nn + 1) cap4) (lst (k + 1) s).length (elV (lst (k + 1) s)) by
          rw [lst_next, HBB.out]
          simp only [if_true]
          rw [List.length_append, List.length_singleton, ← HNN.out, elV_snoc]
          exact HOZ.out)
        go_roundw
        case rel => exact ⟨k + 1, by omega, by go_num, HBZ, HO⟩
        case measure => simp only [intOf]; omega
    · obtain rfl : k = 12 := by omega
      go_wp2_with (fail)
      go_ret
      exact ⟨_, rfl, ho.out, hK.out⟩
end Go.Proofs.Ytjheaeeeeggncaa

namespace Go.Proofs.Ytjheaeeeeggncaa
open Go.RowKit
set_option maxRecDepth 100000
set_option linter.unusedVariables false
set_option linter.unusedSimpArgs false

theorem li_info : (Try.prog.info? 33).map (fun i => (i.zero, i.size, i.bytes)) = some (some (.slice none 0 0), 1, 24) := by kernel_rfl
theorem own_apart {X : World} {b1 b2 s1 s2 n m : Nat} {T1 T2 : TypeId} {xs ys : List Value} {v u : Value} (h1 : X.ownsRow b1 T1 s1 v n xs) (h2 : X.ownsRow b2 T2 s2 u m ys) (hne : T1 ≠ T2) : u.ownBlock = none ∨ u.ownBlock ≠ v.ownBlock := by
  obtain ⟨-, ⟨rfl, -⟩ | ⟨g', cap', cur', rfl, -, k4, -⟩⟩ := h2
  · exact .inl rfl
  · refine .inr fun e => ?_
    obtain ⟨-, ⟨rfl, -⟩ | ⟨g, cap, cur, rfl, -, e4, -⟩⟩ := h1
    · cases e
    · have e : some g' = some g := e
      injection e with e
      subst e
      rw [e4] at k4
      injection k4 with k4
      injection k4 with _ k4
      exact hne k4
/-- A list of lists that a function makes, all its rows its own. -/
def OutL (base : Nat) (wr : World) (v : Value) (ys : List LsV) : Prop :=
  wr.ownsRow base 33 1 v ys.length (cellsV 1 lsV ys) ∧ ∀ y ∈ ys, wr.ownsRow base 3 1 (.slice y.A y.l.length y.c) y.l.length (cellsV 1 inV y.l)
theorem OutL.on {base B : Nat} {w w' : World} {v : Value} {ys : List LsV} (h : OutL base w v ys) (hb : Below B w w') (hB : w.heap.size ≤ B) : OutL base w' v ys := ⟨own_on h.1 hb hB, fun y hy => own_on (h.2 y hy) hb hB⟩
theorem OutL.push {base : Nat} {X Z : World} {v : Value} {ys : List LsV} {g4 cap : Nat} (h : OutL base X v ys) (y : LsV) (hy : X.ownsRow base 3 1 (.slice y.A y.l.length y.c) y.l.length (cellsV 1 inV y.l))
    (hown : Z.ownsRow base 33 1 (.slice (some ⟨g4, 0, none⟩) (ys.length + 1) cap) (ys.length + 1) (cellsV 1 lsV ys ++ [.slice y.A y.l.length y.c]))
    (hgrow : (X.alloc (.cells #[.slice y.A y.l.length y.c] 33)).grownBy Z v.ownBlock) : OutL base Z (.slice (some ⟨g4, 0, none⟩) (ys.length + 1) cap) (ys ++ [y]) := by
  have e : (ys ++ [y]).length = ys.length + 1 := by simp
  refine ⟨?_, fun z hz => ?_⟩
  · rw [e, cellsV_append]; exact hown
  · have hx : X.ownsRow base 3 1 (.slice z.A z.l.length z.c) z.l.length (cellsV 1 inV z.l) := by
      rcases List.mem_append.1 hz with hz | hz
      · exact h.2 z hz
      · rw [List.mem_singleton] at hz; subst hz; exact hy
    exact (hx.alloc _).kept hgrow (own_apart (h.1) hx (by decide))
theorem OutL.ls {base : Nat} {w : World} {v : Value} {ys : List LsV} (h : OutL base w v ys) : ∃ A c, v = .slice A ys.length c ∧ LsAt w A c ys := by
  obtain ⟨A, c, e, hr⟩ := own_rv h.1
  refine ⟨A, c, e, hr, fun y hy => ?_⟩
  obtain ⟨A', c', e', hr'⟩ := own_rv (h.2 y hy)
  injection e' with e1 _ e2
  rw [e1, e2]; exact hr'
def intsN (l : List Nat) : List Int := l.map fun (i : Nat) => (i : Int)
theorem elV_ints (l : List Nat) : elV l = cellsV 1 inV (intsN l) := by
  unfold elV cellsV intsN
  induction l with
  | nil => rfl
  | cons x l ih => simp [List.flatMap_cons, inV] at ih ⊢; exact ih
theorem intsN_len (l : List Nat) : (intsN l).length = l.length := by simp [intsN]
/-- Sets as lists. -/
def setsL (f : Nat → Nat) (k : Nat) : List (List Int) := (List.range k).map fun j => intsN (lst 12 (f j))
/-- What Closure and Reduce answer. -/
def LsTo (w : World) (n : Int) (L : List (List Int)) (e : Ending) (w' : World) : Prop :=
  ((n ≠ 0 ∧ e = .returned (.tuple #[.slice none 0 0, .int .i64 n])) ∨ (n = 0 ∧ ∃ v ys, e = .returned (.tuple #[v, .int .i64 0]) ∧ OutL w.heap.size w' v ys ∧ ys.map (·.l) = L)) ∧ Below w.heap.size w w'
theorem rd_zero {xs : List LsV} (h : rdN xs = 0) : xs.length ≤ 12 ∧ NmOk xs := by
  unfold rdN at h
  split at h
  · cases h
  · rename_i h1
    split at h
    · cases h
    · rename_i h2
      exact ⟨by omega, Classical.not_not.1 h2⟩
end Go.Proofs.Ytjheaeeeeggncaa

namespace Go.Proofs.Ytjheaeeeeggncaa
open Go.RowKit
set_option maxRecDepth 100000
set_option linter.unusedVariables false
set_option linter.unusedSimpArgs false

open Classical in
/-- The error of lists and a set. -/
noncomputable def askN (xs : List LsV) (x : Int) : Int := if rdN xs ≠ 0 then rdN xs else if 0 ≤ x ∧ x < ((2 ^ xs.length : Nat) : Int) then 0 else 2
theorem shl12 {k : Nat} (h : k ≤ 12) : IntKind.i64.wrap ((2 : Int) ^ k) = ((2 ^ k : Nat) : Int) := by
  have h1 : (2 : Nat) ^ k ≤ 4096 := Nat.le_trans (Nat.pow_le_pow_right (by omega) h) (by decide)
  rw [show ((2 : Int) ^ k) = ((2 ^ k : Nat) : Int) by simp]
  generalize (2 : Nat) ^ k = v at h1
  exact wrap_in (by omega) (by omega)
end Go.Proofs.Ytjheaeeeeggncaa

namespace Go.Proofs.Ytjheaeeeeggncaa
open Go.RowKit Go.Shelf
attribute [local go_sem] Oper.semAt_some
set_option maxRecDepth 100000
set_option linter.unusedVariables false
set_option linter.unusedSimpArgs false

/-- The cells of some blocks stand. -/
structure KpG (Gd : Nat → Prop) (X Y : World) : Prop where
  size : X.heap.size ≤ Y.heap.size
  same : ∀ (k : Nat) (cs : Array Value) (t : TypeId) (fr : Nat × Nat), Gd k → X.heap[k]? = some (.cells cs t fr) → Y.heap[k]? = some (.cells cs t fr)
/-- An iterator's own steps: S: where its blocks begin; m: how many boxes of its own it has. -/
structure OwnIt (S m : Nat) (X Y : World) : Prop where
  os : Y.os = X.os
  tape : Y.tape = X.tape
  output : Y.output = X.output
  size : X.heap.size ≤ Y.heap.size
  same : ∀ (k : Nat) (o : Obj), X.heap[k]? = some o → (k < S ∨ (o.isCells = true ∧ S + m ≤ k)) → Y.heap[k]? = some o
/-- What a round that goes on keeps: the cells of some blocks and of the iterator's boxes; what is no cells from S on. -/
structure KpIt (S m : Nat) (Gd : Nat → Prop) (X Y : World) : Prop where
  size : X.heap.size ≤ Y.heap.size
  cells : ∀ (k : Nat) (cs : Array Value) (t : TypeId) (fr : Nat × Nat), (Gd k ∨ (S ≤ k ∧ k < S + m)) → X.heap[k]? = some (.cells cs t fr) → Y.heap[k]? = some (.cells cs t fr)
  others : ∀ (k : Nat) (o : Obj), S ≤ k → X.heap[k]? = some o → o.isCells = false → Y.heap[k]? = some o
section
variable {Gd : Nat → Prop} {S m : Nat} {X Y Z : World}
theorem KpG.refl (X : World) : KpG Gd X X := ⟨Nat.le_refl _, fun _ _ _ _ _ h => h⟩
theorem KpG.trans (h : KpG Gd X Y) (k : KpG Gd Y Z) : KpG Gd X Z := ⟨Nat.le_trans h.size k.size, fun i cs t fr g hi => k.same i cs t fr g (h.same i cs t fr g hi)⟩
theorem KpG.of_below {B : Nat} (h : Below B X Y) (hB : X.heap.size ≤ B) : KpG Gd X Y := ⟨h.size, fun k _ _ _ _ hk => (h.block k (Nat.lt_of_lt_of_le (at_lt hk) hB)).trans hk⟩
theorem OwnIt.refl (X : World) : OwnIt S m X X := ⟨rfl, rfl, rfl, Nat.le_refl _, fun _ _ h _ => h⟩
theorem OwnIt.trans (h : OwnIt S m X Y) (k : OwnIt S m Y Z) : OwnIt S m X Z := ⟨k.os.trans h.os, k.tape.trans h.tape, k.output.trans h.output, Nat.le_trans h.size k.size, fun i o hi ho => k.same i o (h.same i o hi ho) ho⟩
theorem OwnIt.of_below {B : Nat} (h : Below B X Y) (hB : X.heap.size ≤ B) : OwnIt S m X Y := ⟨h.os, h.tape, h.output, h.size, fun k _ hk _ => (h.block k (Nat.lt_of_lt_of_le (at_lt hk) hB)).trans hk⟩
theorem put_else {W : World} {l k : Nat} {o' : Obj} {o : Obj} (hk : W.heap[k]? = some o) (hne : k ≠ l) : (W.putObj l o').heap[k]? = some o := (World.putObj_heap_other hne).trans hk
theorem put_here {W : World} {l : Nat} {o : Obj} (o' : Obj) (hl : W.heap[l]? = some o) : (W.putObj l o').heap[l]? = some o' := World.putObj_heap_same (Array.getElem?_eq_some_iff.1 hl).1
theorem put_cells {l : Nat} {o o' : Obj} {k : Nat} {cs : Array Value} {T : TypeId} {fr : Nat × Nat} (hk : X.heap[k]? = some (.cells cs T fr)) (hl : X.heap[l]? = some o) (ho : o.isCells = false) : (X.putObj l o').heap[k]? = some (.cells cs T fr) :=
  put_else hk (fun e => by subst e; rw [hl] at hk; cases hk; cases ho)
theorem OwnIt.put {l : Nat} {o : Obj} (o' : Obj) (hS : S ≤ l) (hl : X.heap[l]? = some o) (ho : o.isCells = false) : OwnIt S m X (X.putObj l o') :=
  ⟨rfl, rfl, rfl, by simp, fun k u hk hu => put_else hk (fun e => by
    subst e
    rw [hl] at hk; cases hk
    rcases hu with h | h
    · omega
    · rw [ho] at h; cases h.1)⟩
theorem OwnIt.store {b : Nat} (h : S ≤ b) (h2 : b < S + m) (x : Value) (o : Nat) : OwnIt S m X (X.setCell ⟨b, o, none⟩ x) :=
  ⟨rfl, rfl, rfl, by simp [World.setCell], fun k u hk hu => by
    have hne : k ≠ b := by rcases hu with h1 | h1 <;> omega
    rw [Below.heap_setCell _ ⟨b, o, none⟩ x k hne]; exact hk⟩
theorem KpG.put {l : Nat} {o : Obj} (o' : Obj) (hl : X.heap[l]? = some o) (ho : o.isCells = false) : KpG Gd X (X.putObj l o') :=
  ⟨by simp, fun k cs t fr _ hk => put_cells hk hl ho⟩
theorem KpIt.refl (X : World) : KpIt S m Gd X X := ⟨Nat.le_refl _, fun _ _ _ _ _ h => h, fun _ _ _ h _ => h⟩
theorem KpIt.trans (h : KpIt S m Gd X Y) (k : KpIt S m Gd Y Z) : KpIt S m Gd X Z :=
  ⟨Nat.le_trans h.size k.size, fun i cs t fr g hi => k.cells i cs t fr g (h.cells i cs t fr g hi), fun i o hS hi ho => k.others i o hS (h.others i o hS hi ho) ho⟩
theorem KpIt.put {l : Nat} {o : Obj} (o' : Obj) (hS : l < S) (hl : X.heap[l]? = some o) (ho : o.isCells = false) : KpIt S m Gd X (X.putObj l o') :=
  ⟨by simp, fun k cs t fr _ hk => put_cells hk hl ho, fun k u hk hu _ => put_else hu (by omega)⟩
theorem KpIt.of_below {B : Nat} (h : Below B X Y) (hB : X.heap.size ≤ B) : KpIt S m Gd X Y :=
  ⟨h.size, fun k _ _ _ _ hk => (h.block k (Nat.lt_of_lt_of_le (at_lt hk) hB)).trans hk, fun k _ _ hk _ => (h.block k (Nat.lt_of_lt_of_le (at_lt hk) hB)).trans hk⟩
theorem KpIt.good (h : KpIt S m Gd X Y) : KpG Gd X Y := ⟨h.size, fun k cs t fr g hk => h.cells k cs t fr (.inl g) hk⟩
theorem KpIt.from (h : KpIt S m Gd X Y) : KeepsFrom S X Y := ⟨h.size, fun k o hS hk ho => h.others k o hS hk ho⟩
theorem kf_up {B B' : Nat} (h : KeepsFrom B X Y) (hB : B ≤ B') : KeepsFrom B' X Y := ⟨h.size, fun k o hk ho => h.same k o (by omega) ho⟩
theorem kf_put {B l : Nat} (o' : Obj) (hS : l < B) : KeepsFrom B X (X.putObj l o') := ⟨by simp, fun k u hk hu _ => put_else hu (by omega)⟩
theorem kf_below {A B : Nat} (h : Below B X Y) (hB : X.heap.size ≤ B) : KeepsFrom A X Y := ⟨h.size, fun k _ _ hk _ => (h.block k (Nat.lt_of_lt_of_le (at_lt hk) hB)).trans hk⟩
theorem kf_store {B b o : Nat} (x : Value) {cs : Array Value} {t : TypeId} {fr : Nat × Nat} (hb : X.heap[b]? = some (.cells cs t fr)) : KeepsFrom B X (X.setCell ⟨b, o, none⟩ x) :=
  ⟨by simp [World.setCell], fun k u _ hk hu => by
    have hne : k ≠ b := fun e => by subst e; rw [hb] at hk; cases hk; cases hu
    rw [Below.heap_setCell _ ⟨b, o, none⟩ x k hne]; exact hk⟩
theorem calls_wide {n : Nat} {P : Program} {f : FuncId} {args : Array Value} {w : World} {R : Ending → World → Prop} (h : Calls P f args w R) : CallsIn Fence.wide n P f args w R := callsIn_wide.2 h
end
/-- What an iterator is: whatever holds between two rounds and abides the iterator's own steps, holds behind all rounds, or a round has left. -/
def SeqIt {α : Type} (n : Nat) (P : Program) (g : Nat) (fb lb : Array Value) (m : Nat) (Gd : Nat → Prop) (ok : Array Value → α → Prop) (ts : List α) (w : World) : Prop :=
  ∀ (l : Nat) (J Jx : List α → World → Prop) (W : World), KpG Gd w W → l < W.heap.size →
    (∀ pre X Y, J pre X → OwnIt W.heap.size m X Y → J pre Y) → (∀ pre X Y, Jx pre X → OwnIt W.heap.size m X Y → Jx pre Y) →
    (∀ pre v t W1, J pre W1 → W.heap.size + m ≤ W1.heap.size → ok v t → pre ++ [t] <+: ts → YieldAt Fence.wide (n - 1) P l v W1 fun e W' =>
      (e = .returned (.bool true) ∧ J (pre ++ [t]) W' ∧ KpIt W.heap.size m Gd W1 W') ∨ (e = .returned (.bool false) ∧ Jx (pre ++ [t]) W' ∧ KeepsFrom W.heap.size W1 W')) →
    J [] W →
    CallsIn Fence.wide n P g (fb ++ #[.func (.yield l) #[] #[]] ++ lb) W fun e W' => (∃ v, e = .returned v) ∧ (J ts W' ∨ ∃ pre, pre <+: ts ∧ Jx pre W')

theorem YieldAt.any {m : Nat} (m' : Nat) {P : Program} {l : Nat} {args : Array Value} {W : World} {R : Ending → World → Prop} (h : YieldAt Fence.wide m P l args W R) : YieldAt Fence.wide m' P l args W R := by
  obtain ⟨fn, tmps, assign, body, hy, hR⟩ := h
  exact ⟨fn, tmps, assign, body, hy, ⟨hR.1, fun c cs _ => hR.2 c cs (room_wide _)⟩⟩
section
variable {α : Type} {n : Nat} {P : Program}
theorem wpIn_it {g : Operand} {ps : Array Tmp} {assign body : Code} {Q : Exit → Act → World → Prop} {a : Act} {w : World}
    (h1 : 1 ≤ n) {gf : Nat} {fb lb : Array Value} (hg : a.eval g = .func (.func gf) fb lb) (eg : ∀ args w, (callFunc gf args).run P w = .ok (.enter gf args) w)
    {m : Nat} {Gd : Nat → Prop} {ok : Array Value → α → Prop} {ts : List α} {w0 : World} (hseq : SeqIt (n - 1) P gf fb lb m Gd ok ts w0) (hb0 : KpG Gd w0 w) (hps : ∀ v t, ok v t → v.size = ps.size)
    (I : List α → World → Prop) (Ix : Code → List α → World → Prop)
    (hIE : ∀ pre X Y, I pre X → OwnIt (w.heap.size + 2) m X Y → I pre Y) (hXE : ∀ c pre X Y, Ix c pre X → OwnIt (w.heap.size + 2) m X Y → Ix c pre Y)
    (hIP : ∀ (pre : List α) (X : World) (l : Nat) (o o' : Obj), I pre X → l = w.heap.size ∨ l = w.heap.size + 1 → X.heap[l]? = some o → o.isCells = false → I pre (X.putObj l o'))
    (hXP : ∀ (c : Code) (pre : List α) (X : World) (l : Nat) (o o' : Obj), Ix c pre X → l = w.heap.size ∨ l = w.heap.size + 1 → X.heap[l]? = some o → o.isCells = false → Ix c pre (X.putObj l o'))
    (h0 : I [] w)
    (hround : ∀ (l : Nat) (pre : List α) (v : Array Value) (t : α) (W : World) (K : Act → World → Prop), pre ++ [t] <+: ts → ok v t →
      (∀ (a' : Act) (W' : World), Below W.heap.size W W' → (∀ X : World, (∃ o o' : Obj, W'.heap[l]? = some o ∧ o.isCells = false ∧ X = W'.putObj l o') → w.heap.size + 2 + m ≤ X.heap.size → I pre X → body.wpIn (Fence.wide.inRound l) (n - 1 - 1) P (ownPostG w.heap.size (KpIt (w.heap.size + 2) m Gd) I Ix (pre ++ [t]) X) a' X) → K a' W') →
      assign.wpIn (Fence.wide.inRound l) (n - 1 - 1) P (Exit.then K (fun _ _ _ => False)) { tmps := (ps.zip v).foldl (fun t (p, v) => t.setIfInBounds p v) a.tmps, defers := [] } W)
    (hdone : ∀ (D : Nat) (W : World), D = w.heap.size → I ts W → W.heap[D]? = some (.deferred (some [])) → Q .normal { a with defers := { target := .collected D, args := #[] } :: a.defers } W)
    (hstop : ∀ (D : Nat) (c : Code) (pre : List α) (W : World), D = w.heap.size → pre <+: ts → Ix c pre W → W.heap[D]? = some (.deferred (some [])) → c.wpIn Fence.wide n P Q { a with defers := { target := .collected D, args := #[] } :: a.defers } W) :
    (Code.rangeFunc g ps assign body).wpIn Fence.wide n P Q a w := by
  refine wpIn_rangeFunc fun fn hfn => ?_
  let D := w.heap.size
  let rec0 : LoopState → Option Code → Go.Loop := fun st pe => { state := st, pending := pe, fn, tmps := a.tmps, params := ps, assign, body, defers := D }
  obtain ⟨V, hV⟩ : ∃ V, (w.alloc (.deferred (some []))).alloc (.loop (rec0 .ready none)) = V := ⟨_, rfl⟩
  have sV : (w.alloc (.deferred (some []))).heap.size = D + 1 := World.size_alloc ..
  have sV2 : V.heap.size = w.heap.size + 2 := by rw [← hV, World.size_alloc, sV]
  have lV : V.heap[D + 1]? = some (.loop (rec0 .ready none)) := by
    have := World.alloc_heap_new (w.alloc (.deferred (some []))) (.loop (rec0 .ready none))
    rwa [sV, hV] at this
  have dV : V.heap[D]? = some (.deferred (some [])) := by
    rw [← hV]
    exact (Below.heap_alloc _ _ _ (by rw [sV]; exact Nat.lt_succ_self _)).trans (World.alloc_heap_new w _)
  have bV : Below w.heap.size w V := by rw [← hV]; exact ((Below.refl _ w).alloc (Nat.le_refl _) _).alloc (by rw [sV]; exact Nat.le_succ _) _
  have iV : I [] V := hIE _ _ _ h0 (OwnIt.of_below bV (Nat.le_refl _))
  refine ⟨D + 1, [{ target := .collected D, args := #[] }], V, { target := .fn (.func gf) lb, args := fb ++ #[.func (.yield (D + 1)) #[] #[]] }, V, gf, fb ++ #[.func (.yield (D + 1)) #[] #[]] ++ lb, V, ?_, ?_, ?_, ?_, fun _ => h1, ?_⟩
  · rw [← hV]; exact run_enterLoop_outer _ _ _ _ _
  · simp only [resolve, hg]; simp [go_sem]
  · intro f' hf'; trivial
  · simp [invoke, go_sem, eg]
  -- between two rounds the record is ready and nothing is deferred; a round that has left lays its jump
  refine (hseq (D + 1) (fun pre W => I pre W ∧ W.heap[D + 1]? = some (.loop (rec0 .ready none)) ∧ W.heap[D]? = some (.deferred (some [])))
    (fun pre W => ∃ c, Ix c pre W ∧ W.heap[D + 1]? = some (.loop (rec0 .done (some c))) ∧ W.heap[D]? = some (.deferred (some []))) V (hb0.trans (KpG.of_below bV (Nat.le_refl _))) (by rw [sV2]; exact Nat.lt_succ_self _)
    (fun pre X Y h hE => ?_) (fun pre X Y h hE => ?_) ?_ ⟨iV, lV, dV⟩).mono ?_
  · rw [sV2] at hE
    exact ⟨hIE _ _ _ h.1 hE, hE.same _ _ h.2.1 (.inl (Nat.lt_succ_self _)), hE.same _ _ h.2.2 (.inl (by show w.heap.size < _; omega))⟩
  · rw [sV2] at hE
    obtain ⟨c, hc, hl, hd⟩ := h
    exact ⟨c, hXE _ _ _ _ hc hE, hE.same _ _ hl (.inl (Nat.lt_succ_self _)), hE.same _ _ hd (.inl (by show w.heap.size < _; omega))⟩
  · rw [sV2]
    rintro pre v t W ⟨hi, hl, hd⟩ hsz hv hpre
    refine ⟨fn, _, assign, body, run_yield hl (by simp [rec0, hps _ _ hv]), roundIn_of_wpIn hfn (hround (D + 1) pre v t W _ hpre hv fun a' W' hBW hbody => ⟨_, run_beginRound ((hBW.block _ (Array.getElem?_eq_some_iff.1 hl).1).trans hl) rfl, ?_⟩)⟩
    have hl1 := (hBW.block _ (Array.getElem?_eq_some_iff.1 hl).1).trans hl
    have hd1 := (hBW.block _ (Array.getElem?_eq_some_iff.1 hd).1).trans hd
    have hi1 := hIE pre W W' hi (OwnIt.of_below hBW (Nat.le_refl _))
    have hl2 := put_here (.loop { rec0 .ready none with state := .busy }) hl1
    have hd2 : (W'.putObj (D + 1) (.loop { rec0 .ready none with state := .busy })).heap[D]? = some (.deferred (some [])) := put_else hd1 (by omega)
    have hk2 : KpIt (w.heap.size + 2) m Gd W (W'.putObj (D + 1) (.loop { rec0 .ready none with state := .busy })) := (KpIt.of_below hBW (Nat.le_refl _)).trans (KpIt.put _ (by show w.heap.size + 1 < _; omega) hl1 rfl)
    have hk3 : KeepsFrom (w.heap.size + 2) W (W'.putObj (D + 1) (.loop { rec0 .ready none with state := .busy })) := (kf_below hBW (Nat.le_refl _)).trans (kf_put _ (by show w.heap.size + 1 < _; omega))
    refine wpIn_mono (hbody _ ⟨_, _, hl1, rfl, rfl⟩ (by simp; exact Nat.le_trans hsz hBW.size) (hIP _ _ _ _ _ hi1 (.inr rfl) hl1 rfl)) ?_
    generalize W'.putObj (D + 1) (.loop { rec0 .ready none with state := .busy }) = X at hl2 hd2 hk2 hk3
    -- the end of a round
    have fin : ∀ (jump : Option Code) (Y : World), KeepsFrom w.heap.size X Y → Y.heap[D + 1]? = some (.loop { rec0 .ready none with state := .busy }) ∧
        (Instr.endRound (D + 1) jump).run P Y = .ok (.bool jump.isNone) (Y.putObj (D + 1) (.loop (rec0 (if jump.isNone then .ready else .done) jump))) ∧
        (Y.putObj (D + 1) (.loop (rec0 (if jump.isNone then .ready else .done) jump))).heap[D + 1]? = some (.loop (rec0 (if jump.isNone then .ready else .done) jump)) ∧
        (Y.putObj (D + 1) (.loop (rec0 (if jump.isNone then .ready else .done) jump))).heap[D]? = some (.deferred (some [])) := fun jump Y hY => by
      have l3 := hY.same _ _ (Nat.le_succ _) hl2 rfl
      exact ⟨l3, run_endRound jump l3, put_here _ l3, put_else (hY.same _ _ (Nat.le_refl _) hd2 rfl) (by omega)⟩
    intro e a3 Y hp
    have left : ∀ c : Code, KeepsFrom w.heap.size X Y → Ix c (pre ++ [t]) Y → ∃ v w', (Instr.endRound (D + 1) (some c)).run P Y = .ok v w' ∧ ((Ending.returned v = .returned (.bool true) ∧ (I (pre ++ [t]) w' ∧ w'.heap[D + 1]? = some (.loop (rec0 .ready none)) ∧ w'.heap[D]? = some (.deferred (some []))) ∧ KpIt (w.heap.size + 2) m Gd W w') ∨
        (Ending.returned v = .returned (.bool false) ∧ (∃ c, Ix c (pre ++ [t]) w' ∧ w'.heap[D + 1]? = some (.loop (rec0 .done (some c))) ∧ w'.heap[D]? = some (.deferred (some []))) ∧ KeepsFrom (w.heap.size + 2) W w')) := fun c hY hx => by
      obtain ⟨l3, r3, l4, d4⟩ := fin (some c) Y hY
      exact ⟨_, _, r3, .inr ⟨rfl, ⟨c, hXP _ _ _ _ _ _ hx (.inr rfl) l3 rfl, l4, d4⟩, (hk3.trans (kf_up hY (by omega))).trans (kf_put _ (by show w.heap.size + 1 < _; omega))⟩⟩
    cases e with
    | normal =>
      obtain ⟨hY, hkp, hi3⟩ := hp
      obtain ⟨l3, r3, l4, d4⟩ := fin none Y hY
      exact ⟨_, _, r3, .inl ⟨rfl, ⟨hIP _ _ _ _ _ hi3 (.inr rfl) l3 rfl, l4, d4⟩, (hk2.trans hkp).trans (KpIt.put _ (by show w.heap.size + 1 < _; omega) l3 rfl)⟩⟩
    | ret => exact left .ret hp.1 hp.2
    | exit id => exact left (.exit id) hp.1 hp.2
    | goto t => exact left (.goto t) hp.1 hp.2
    | panic ch => exact hp.elim
    | outgrown => exact hp.elim
  · rintro e Y ⟨⟨v, rfl⟩, ⟨hi, hl, hd⟩ | ⟨pre, hpre, c, hx, hl, hd⟩⟩
    · exact ⟨none, _, run_endLoop hl (by simp [rec0]), hdone D _ rfl (hIP _ _ _ _ _ hi (.inr rfl) hl rfl) (put_else hd (by omega))⟩
    · exact ⟨some c, _, run_endLoop hl (by simp [rec0]), hstop D c pre _ rfl hpre (hXP _ _ _ _ _ _ hx (.inr rfl) hl rfl) (put_else hd (by omega))⟩
end
theorem wpListIn_append_lies {F : Fence} {n : Nat} {P : Program} (w : World) {ops : Array Oper} {rest : List Oper} {o : Oper} {a : Act} {Q : Exit → Act → World → Prop}
    (hg : o.guard = none) (s x : Operand) (t : TypeId) (hop : o.op = Op.call { callee := Callee.builtin Builtin.append, args := #[s, x], argTypes := #[t, t] })
    (base : Nat) (e : TypeId) (i : TypeInfo) (z : Value) (size bytes : Nat) (h1 : P.underlying t = some (.slice e)) (h2 : P.info? e = some i) (h3 : i.zero = some z) (h4 : i.size = size) (h5 : i.bytes = bytes) (h6 : z.cells.size = size) (h7 : 0 < size)
    (v : Value) (k : Nat) (xs : List Value) (hs : a.eval s = v) (hown : w.ownsRow base e size v k xs) (ad : Addr) (m c : Nat) (news : List Value) (hx : a.eval x = .slice (some ad) m c) (hn : news.length = m * size)
    (hc : ∀ j u, news[j]? = some u → w.cell? (ad.add j) = some u) (h1c : ∀ u ∈ news, u.oneCell' = true) (hm : 0 < m) (b1 : k + m ≤ maxLen) (b2 : (k + m) * bytes ≤ 140737488355328) (b3 : base ≤ w.heap.size) (H : Nat) (hH : w.heap.size = H)
    (hK : ∀ g cap w', w'.ownsRow base e size (.slice (some ⟨g, 0, none⟩) (k + m) cap) (k + m) (xs ++ news) → w.grownBy w' v.ownBlock → (v.ownBlock = some g ∨ g = H) → wpListIn F n P ops Q rest (a.put o.dst (.slice (some ⟨g, 0, none⟩) (k + m) cap)) w') :
    wpListIn F n P ops Q (o :: rest) a w := by
  refine wpListIn_plain hg fun K hK' => ?_
  obtain ⟨g, cap, w', hrun, r1, r2, r3, -⟩ := run_append_lies (P := P) w t o.type base e i z size bytes h1 h2 h3 h4 h5 h6 h7 v k xs hown ad m c news hn hc h1c hm b1 b2 b3 H hH
  unfold Oper.wpIn
  refine ⟨?_, ?_⟩
  · simp [Oper.about, hop, resolve, Target.leads, Sem.run_pure]
  · rw [Oper.semAt_plain F _ _ (by rw [hop]; intro c hc'; cases hc')]
    simp [execOp, hop, resolve, invoke, builtin, hs, hx, hrun, Result.andThen]
    exact hK' _ _ (hK g cap w' r1 r2 r3)

theorem below_own {w0 X Y : World} {S m : Nat} (h : Below w0.heap.size w0 X) (hE : OwnIt S m X Y) (hS : w0.heap.size ≤ S) : Below w0.heap.size w0 Y := by
  refine ⟨hE.os.trans h.os, hE.tape.trans h.tape, hE.output.trans h.output, Nat.le_trans h.size hE.size, fun k hk => ?_⟩
  have hlt : k < X.heap.size := Nat.lt_of_lt_of_le hk h.size
  have h3 := Array.getElem?_eq_getElem hlt
  have := hE.same k _ h3 (.inl (by omega))
  rw [this, ← h3]
  exact h.block k hk
theorem below_put {B l : Nat} {o' : Obj} {w X : World} (h : Below B w X) (hl : B ≤ l) : Below B w (X.putObj l o') :=
  ⟨h.os, h.tape, h.output, by simpa using h.size, fun k hk => (World.putObj_heap_other (by omega)).trans (h.block k hk)⟩
theorem own_row_kept {X Y : World} {base : Nat} {e : TypeId} {size n : Nat} {v : Value} {xs : List Value} (h : X.ownsRow base e size v n xs) (hs : ∀ g cur, v.ownBlock = some g → X.heap[g]? = some (.cells cur e (0, 0)) → Y.heap[g]? = some (.cells cur e (0, 0))) : Y.ownsRow base e size v n xs := by
  obtain ⟨k1, h | ⟨g, cap, cur, rfl, k3, k4, k⟩⟩ := h
  · exact ⟨k1, .inl h⟩
  · exact ⟨k1, .inr ⟨g, cap, cur, rfl, k3, hs g cur rfl k4, k⟩⟩
theorem take_snoc {α : Type} {l : List α} {k : Nat} {x : α} (h : l[k]? = some x) : l.take (k + 1) = l.take k ++ [x] := by
  obtain ⟨hk, e⟩ := List.getElem?_eq_some_iff.1 h
  rw [List.take_succ_eq_append_getElem hk, e]
end Go.Proofs.Ytjheaeeeeggncaa
