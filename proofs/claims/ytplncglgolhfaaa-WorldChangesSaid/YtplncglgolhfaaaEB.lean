/-
  DERIVED. Small functions of the landed package: isFrom, isIndex, compare, ascend; Less and Ascending of the specification (stage 13).
-/
import Derived.Test.YtplncglgolhfaaaEA
namespace Go.Proofs.Ytplncglgolhfaaa
open Go.RowKit
set_option maxRecDepth 100000
set_option linter.unusedVariables false
set_option linter.unusedSimpArgs false

set_option maxHeartbeats 2000000 in
theorem c_woIsFrom (lo hi n : Int) (r : Bool) (hr : inB n lo hi = r) (w : World) : Calls Try.prog 42 #[.int .i64 lo, .int .i64 hi, .int .i64 n] w fun e w' => e = .returned (.bool r) ∧ w' = w := by
  unfold inB at hr
  rcases h1 : decide (lo ≤ n) with _ | _
  · rw [h1] at hr
    obtain rfl : false = r := hr
    go_enter Try.func42, Try.ntmps42
    go_wp2
    go_ret
    exact ⟨rfl, rfl⟩
  · rw [h1] at hr
    obtain rfl : decide (n ≤ hi) = r := hr
    go_enter Try.func42, Try.ntmps42
    go_wp2
    go_ret
    exact ⟨rfl, rfl⟩
set_option maxHeartbeats 2000000 in
theorem c_woIsIndex (x m : Int) (r : Bool) (hr : ixB x m = r) (w : World) : Calls Try.prog 44 #[.int .i64 x, .int .i64 m] w fun e w' => e = .returned (.bool r) ∧ w' = w := by
  unfold ixB at hr
  rcases h1 : decide (0 ≤ x) with _ | _
  · rw [h1] at hr
    obtain rfl : false = r := hr
    go_enter Try.func44, Try.ntmps44
    go_wp2
    go_ret
    exact ⟨rfl, rfl⟩
  · rw [h1] at hr
    obtain rfl : decide (x < m) = r := hr
    go_enter Try.func44, Try.ntmps44
    go_wp2
    go_ret
    exact ⟨rfl, rfl⟩
def cmpI (x y : Int) : Int := if x < y then -1 else if y < x then 1 else 0
theorem c_cmpInt (x y : Int) (w : World) : Calls Try.prog 99 #[.int .i64 x, .int .i64 y] w fun e w' => e = .returned (.int .i64 (cmpI x y)) ∧ w' = w := by
  unfold cmpI
  have hn : ∀ (z : Int) (w : World), Calls Try.prog 107 #[.int .i64 z] w fun e w' => e = .returned (.bool false) ∧ w' = w := by
    intro z w
    go_enter Try.func107, Try.ntmps107
    go_wp2
    go_ret
    exact ⟨by simp, rfl⟩
  have HN := Lib.hid hn
  clear hn
  by_cases h1 : x < y
  · rw [if_pos h1]
    go_enter Try.func99, Try.ntmps99
    go_wp2_with (go_at_call 107; refine (HN.out _ _).mono ?_; rintro e w' ⟨rfl, rfl⟩)
    go_ret
    exact ⟨rfl, rfl⟩
  · rw [if_neg h1]
    by_cases h2 : y < x
    · rw [if_pos h2]
      go_enter Try.func99, Try.ntmps99
      go_wp2_with (go_at_call 107; refine (HN.out _ _).mono ?_; rintro e w' ⟨rfl, rfl⟩)
      go_ret
      exact ⟨rfl, rfl⟩
    · rw [if_neg h2]
      go_enter Try.func99, Try.ntmps99
      go_wp2_with (go_at_call 107; refine (HN.out _ _).mono ?_; rintro e w' ⟨rfl, rfl⟩)
      go_ret
      exact ⟨rfl, rfl⟩
set_option maxHeartbeats 2000000 in
theorem c_orInt (b : Nat) (x y : Int) (r : Int) (hr : (if x = 0 then y else x) = r) (w : World) (hb : w.heap[b]? = some (.cells #[.int .i64 x, .int .i64 y] 3 (0, 0))) :
    Calls Try.prog 98 #[.slice (some ⟨b, 0, none⟩) 2 2] w fun e w' => e = .returned (.int .i64 r) ∧ w' = w := by
  have x0 : w.cell? ⟨b, 0, none⟩ = some (.int .i64 x) := cell_of hb rfl
  have x1 : w.cell? ⟨b, 1, none⟩ = some (.int .i64 y) := cell_of hb rfl
  clear hb
  have HR := Lib.hid hr
  clear hr
  go_enter Try.func98, Try.ntmps98
  go_wp2_with (fail)
  go_loopw [8] (fun i wr => ∃ k : Nat, k ≤ 2 ∧ i = .int .i64 (k : Int) ∧ wr = w ∧ Hid ((1 ≤ k → x = 0) ∧ (2 ≤ k → y = 0))) (fun i _ => 2 - (intOf i).toNat)
  case atStart => exact ⟨0, by omega, rfl, rfl, Lib.hid ⟨by omega, by omega⟩⟩
  case round =>
    obtain ⟨k, hk, rfl, rfl, hz⟩ := hrel
    match k, hk with
    | 0, _ =>
      rcases hx : (x != 0) with _ | _
      · have HX := Lib.hid (show x = 0 by simpa using hx)
        go_wp2_with (fail)
        go_roundw
        case rel => exact ⟨1, by omega, rfl, trivial, Lib.hid ⟨fun _ => HX.out, by omega⟩⟩
        case measure => simp [intOf]
      · have HX := Lib.hid (show x = r by rw [← HR.out, if_neg (by simpa using hx)])
        go_wp2_with (fail)
        go_ret
        exact ⟨(show Ending.returned (.int .i64 x) = .returned (.int .i64 r) by rw [HX.out]), rfl⟩
    | 1, _ =>
      have HY := Lib.hid (show y = r by rw [← HR.out, if_pos (hz.out.1 (by omega))])
      rcases hy : (y != 0) with _ | _
      · have HX := Lib.hid (show y = 0 by simpa using hy)
        go_wp2_with (fail)
        go_roundw
        case rel => exact ⟨2, by omega, rfl, trivial, Lib.hid ⟨fun _ => hz.out.1 (by omega), fun _ => HX.out⟩⟩
        case measure => simp [intOf]
      · go_wp2_with (fail)
        go_ret
        exact ⟨(show Ending.returned (.int .i64 y) = .returned (.int .i64 r) by rw [HY.out]), rfl⟩
    | 2, _ =>
      have HY := Lib.hid (show 0 = r by rw [← HR.out, if_pos (hz.out.1 (by omega)), hz.out.2 (by omega)])
      go_wp2_with (fail)
      go_ret
      exact ⟨(show Ending.returned (.int .i64 0) = .returned (.int .i64 r) by rw [HY.out]), rfl⟩
def cmpR (a b : Rep) : Int := if cmpI a.svc b.svc = 0 then cmpI a.host b.host else cmpI a.svc b.svc
theorem cmpR_less (a b : Rep) : decide (0 ≤ cmpR a b) = !lessR a b := by
  have h : 0 ≤ cmpR a b ↔ ¬ lessR a b = true := by
    rw [lessR_iff]
    unfold cmpR cmpI
    repeat' split
    all_goals omega
  cases h2 : lessR a b
  · simp [h, h2]
  · simp [h, h2]
set_option maxHeartbeats 4000000 in
theorem c_compare (p q : Rep) (r : Int) (hr : cmpR p q = r) (w : World) : Calls Try.prog 81 #[.agg #[.int .i64 p.svc, .int .i64 p.host], .agg #[.int .i64 q.svc, .int .i64 q.host]] w fun e w' => e = .returned (.int .i64 r) ∧ Below w.heap.size w w' := by
  obtain ⟨W1, hW1⟩ : ∃ W, W = w.alloc (.cells #[.int .i64 p.svc, .int .i64 p.host] 41) := ⟨_, rfl⟩
  obtain ⟨W2, hW2⟩ : ∃ W, W = W1.alloc (.cells #[.int .i64 q.svc, .int .i64 q.host] 41) := ⟨_, rfl⟩
  have hs1 : W1.heap.size = w.heap.size + 1 := by rw [hW1, World.size_alloc]
  have hs2 : W2.heap.size = w.heap.size + 2 := by rw [hW2, World.size_alloc]; omega
  have b1 : W1.heap[w.heap.size]? = some (.cells #[.int .i64 p.svc, .int .i64 p.host] 41 (0, 0)) := by rw [hW1]; exact box_new _ _ _
  have b2 : W2.heap[w.heap.size]? = some (.cells #[.int .i64 p.svc, .int .i64 p.host] 41 (0, 0)) := by rw [hW2]; exact old_heap _ b1
  have b3 : W2.heap[w.heap.size + 1]? = some (.cells #[.int .i64 q.svc, .int .i64 q.host] 41 (0, 0)) := by rw [← hs1, hW2]; exact box_new _ _ _
  have HB := Lib.hid (show Below w.heap.size w W2 by rw [hW2]; exact ((hW1 ▸ (Below.refl _ _).alloc (Nat.le_refl _) _ : Below w.heap.size w W1)).alloc (by omega) _)
  have HF := Lib.hid (fun (X : World) (hX : Below W2.heap.size W2 X) => (⟨cell_of (box_on b2 hX (Nat.le_refl _)) rfl, cell_of (box_on b2 hX (Nat.le_refl _)) rfl, cell_of (box_on b3 hX (Nat.le_refl _)) rfl, cell_of (box_on b3 hX (Nat.le_refl _)) rfl⟩ : X.cell? ⟨w.heap.size, 0, none⟩ = some (.int .i64 p.svc) ∧ X.cell? ⟨w.heap.size, 1, none⟩ = some (.int .i64 p.host) ∧ X.cell? ⟨w.heap.size + 1, 0, none⟩ = some (.int .i64 q.svc) ∧ X.cell? ⟨w.heap.size + 1, 1, none⟩ = some (.int .i64 q.host)))
  have HR := Lib.hid (show (if cmpI p.svc q.svc = 0 then cmpI p.host q.host else cmpI p.svc q.svc) = r from hr)
  clear hr b1 b2 b3 hs1 hs2
  obtain ⟨x0, x1, x2, x3⟩ := HF.out W2 (Below.refl _ _)
  generalize hA : w.heap.size = A at *
  go_enter Try.func81, Try.ntmps81
  go_wp2_with (fail)
  rw [← hW1, ← hW2]
  clear hW1 hW2
  have HO := Lib.hid (c_orInt W2.heap.size (cmpI p.svc q.svc) (cmpI p.host q.host) r HR.out (W2.alloc (.cells #[.int .i64 (cmpI p.svc q.svc), .int .i64 (cmpI p.host q.host)] 3)).drew (box_new W2 _ _))
  have HK := Lib.hid (HF.out (W2.alloc (.cells #[.int .i64 (cmpI p.svc q.svc), .int .i64 (cmpI p.host q.host)] 3)).drew ((Below.refl _ _).alloc (Nat.le_refl _) _).drew)
  go_region_held3 (fun X => X.cell? ⟨A, 0, none⟩ = some (.int .i64 p.svc) ∧ X.cell? ⟨A, 1, none⟩ = some (.int .i64 p.host) ∧ X.cell? ⟨A + 1, 0, none⟩ = some (.int .i64 q.svc) ∧ X.cell? ⟨A + 1, 1, none⟩ = some (.int .i64 q.host))
    (first | exact HF.out W2 (Below.refl _ _) | exact HF.out W2.drew (Below.refl _ _).drew | exact HK.out | fail)
    (first
      | (go_at_call 99; (with_reducible refine (c_cmpInt _ _ _).mono ?_); rintro e w1 ⟨rfl, rfl⟩)
      | (go_at_call 98; refine HO.out.mono ?_; rintro e w1 ⟨rfl, rfl⟩)
      | fail)
  go_wp2_with (fail)
  go_ret
  exact ⟨rfl, below_join HB.out (((Below.refl W2.heap.size W2).alloc (Nat.le_refl _) _).drew) (by have := HB.out.size; omega)⟩
set_option maxHeartbeats 8000000 in
theorem c_ascend (A : Option Addr) (c : Nat) (l : List Rep) (r : Bool) (hr : ascB l = r) (w : World) (h : Rv 2 repV w A c l) :
    Calls Try.prog 48 #[.slice A l.length c] w fun e w' => e = .returned (.bool r) ∧ Below w.heap.size w w' := by
  have H := Lib.hid h
  have HR := Lib.hid hr
  have k1 := h.1; have k2 := h.2.1
  unfold maxLen at k2
  clear h hr
  go_enter Try.func48, Try.ntmps48
  go_wp2_with (fail)
  go_loopw [3] (fun i wr => ∃ k : Nat, (k ≤ l.length ∨ k = 1) ∧ 1 ≤ k ∧ i = .int .i64 (k : Int) ∧ Hid (Below w.heap.size w wr) ∧ Hid (∀ j a b, j + 1 < k → l[j]? = some a → l[j + 1]? = some b → lessR a b = true)) (fun i _ => l.length - (intOf i).toNat)
  case atStart => exact ⟨1, .inr rfl, by omega, rfl, Lib.hid (Below.refl _ _), Lib.hid (fun j a b hj => absurd hj (by omega))⟩
  case round =>
    obtain ⟨k, hk, hk1, rfl, hB, hasc⟩ := hrel
    by_cases hlt : k < l.length
    · obtain ⟨m, hm⟩ : ∃ m, k = m + 1 := ⟨k - 1, by omega⟩
      obtain ⟨x, hx⟩ : ∃ x, l[m]? = some x := ⟨_, List.getElem?_eq_getElem (by omega)⟩
      obtain ⟨y, hy⟩ : ∃ y, l[k]? = some y := ⟨_, List.getElem?_eq_getElem hlt⟩
      obtain ⟨b, o, rfl, -, -⟩ := H.out.at_ hx
      have HF := Lib.hid (fun (X : World) (hX : Below w.heap.size w X) => (let z := rep_at (H.out.on hX (Nat.le_refl _)) hx; let u := rep_at (H.out.on hX (Nat.le_refl _)) hy; (⟨z.1, z.2, u.1, u.2⟩ : X.cell? ⟨b, o + m * 2, none⟩ = some (.int .i64 x.svc) ∧ X.cell? ⟨b, o + m * 2 + 1, none⟩ = some (.int .i64 x.host) ∧ X.cell? ⟨b, o + k * 2, none⟩ = some (.int .i64 y.svc) ∧ X.cell? ⟨b, o + k * 2 + 1, none⟩ = some (.int .i64 y.host))))
      obtain ⟨f0, f1, f2, f3⟩ := HF.out wr hB.out
      have hk2 : ((k : Nat) : Int) < (l.length : Int) := by omega
      have hk3 : IntKind.i64.wrap (((k : Nat) : Int) - 1) = (m : Int) := by rw [show ((k : Nat) : Int) - 1 = (m : Int) by omega]; exact wrap_in (by omega) (by omega)
      have hk0 : (0 : Int) ≤ (m : Int) := by omega
      have hk4 : ((m : Nat) : Int) < (l.length : Int) := by omega
      have hi1 : ((m : Nat) : Int).toNat = m := by omega
      have hi2 : ((k : Nat) : Int).toNat = k := by omega
      have HM := Lib.hid hm
      clear hm
      have HXX := Lib.hid hx
      have HYY := Lib.hid hy
      obtain ⟨z, hz⟩ : ∃ z, cmpR x y = z := ⟨_, rfl⟩
      have HZ := Lib.hid hz
      have HC := Lib.hid (c_compare x y z hz wr.drew)
      clear hx hy hz
      go_wp2_with (fail)
      go_region_held3 (fun X => X.cell? ⟨b, o + m * 2, none⟩ = some (.int .i64 x.svc) ∧ X.cell? ⟨b, o + m * 2 + 1, none⟩ = some (.int .i64 x.host) ∧ X.cell? ⟨b, o + k * 2, none⟩ = some (.int .i64 y.svc) ∧ X.cell? ⟨b, o + k * 2 + 1, none⟩ = some (.int .i64 y.host))
        (first | exact HF.out wr hB.out | exact HF.out w1 HB1.out | fail)
        (first
          | (go_at_call 81; refine HC.out.mono ?_; rintro e w1 ⟨rfl, bb1⟩; have HB1 := Lib.hid (below_join hB.out.drew bb1 hB.out.size); clear bb1)
          | fail)
      rcases hL : lessR x y with _ | _
      · obtain rfl : false = r := by
          rw [← HR.out]
          refine ((Bool.eq_false_iff).2 fun h => ?_).symm
          have := ascB_iff.1 h m x y HXX.out (by rw [← HM.out]; exact HYY.out)
          rw [hL] at this; cases this
        have hd : decide (0 ≤ z) = true := by rw [← HZ.out, cmpR_less, hL]; rfl
        rw [hd]
        go_wp2_with (fail)
        go_ret
        exact ⟨rfl, HB1.out⟩
      · have hd : decide (0 ≤ z) = false := by rw [← HZ.out, cmpR_less, hL]; rfl
        have HN := Lib.hid (show ∀ j a b, j + 1 < k + 1 → l[j]? = some a → l[j + 1]? = some b → lessR a b = true from fun j a b hj ha hb => by
          have hM := HM.out
          by_cases e : j + 1 < k
          · exact hasc.out j a b e ha hb
          · obtain rfl : j = m := by omega
            rw [HXX.out] at ha
            rw [← hM, HYY.out] at hb
            injection ha with ha
            injection hb with hb
            subst ha hb
            exact hL)
        rw [hd]
        go_wp2_with (fail)
        go_roundw
        case rel => exact ⟨k + 1, .inl (by omega), by omega, by go_num, HB1, HN⟩
        case measure => simp only [intOf]; omega
    · obtain rfl : true = r := by
        rw [← HR.out]
        refine (ascB_iff.2 fun i a b ha hb => hasc.out i a b ?_ ha hb).symm
        have := (List.getElem?_eq_some_iff.1 hb).1
        omega
      go_wp2_with (fail)
      go_ret
      exact ⟨rfl, hB.out⟩
set_option maxHeartbeats 4000000 in
theorem c_Less (p q : Rep) (r : Bool) (hr : lessR p q = r) (w : World) : Calls Try.prog 55 #[.agg #[.int .i64 p.svc, .int .i64 p.host], .agg #[.int .i64 q.svc, .int .i64 q.host]] w fun e w' => e = .returned (.bool r) ∧ Below w.heap.size w w' := by
  obtain ⟨W1, hW1⟩ : ∃ W, W = w.alloc (.cells #[.int .i64 p.svc, .int .i64 p.host] 41) := ⟨_, rfl⟩
  obtain ⟨W2, hW2⟩ : ∃ W, W = W1.alloc (.cells #[.int .i64 q.svc, .int .i64 q.host] 41) := ⟨_, rfl⟩
  have hs1 : W1.heap.size = w.heap.size + 1 := by rw [hW1, World.size_alloc]
  have b1 : W1.heap[w.heap.size]? = some (.cells #[.int .i64 p.svc, .int .i64 p.host] 41 (0, 0)) := by rw [hW1]; exact box_new _ _ _
  have b2 : W2.heap[w.heap.size]? = some (.cells #[.int .i64 p.svc, .int .i64 p.host] 41 (0, 0)) := by rw [hW2]; exact old_heap _ b1
  have b3 : W2.heap[w.heap.size + 1]? = some (.cells #[.int .i64 q.svc, .int .i64 q.host] 41 (0, 0)) := by rw [← hs1, hW2]; exact box_new _ _ _
  have HB := Lib.hid (show Below w.heap.size w W2 by rw [hW2]; exact ((hW1 ▸ (Below.refl _ _).alloc (Nat.le_refl _) _ : Below w.heap.size w W1)).alloc (by omega) _)
  have x0 : W2.cell? ⟨w.heap.size, 0, none⟩ = some (.int .i64 p.svc) := cell_of b2 rfl
  have x1 : W2.cell? ⟨w.heap.size, 1, none⟩ = some (.int .i64 p.host) := cell_of b2 rfl
  have x2 : W2.cell? ⟨w.heap.size + 1, 0, none⟩ = some (.int .i64 q.svc) := cell_of b3 rfl
  have x3 : W2.cell? ⟨w.heap.size + 1, 1, none⟩ = some (.int .i64 q.host) := cell_of b3 rfl
  have HR := Lib.hid (show (decide (p.svc < q.svc) || (p.svc == q.svc && decide (p.host < q.host))) = r from hr)
  clear hr b1 b2 b3 hs1
  generalize hA : w.heap.size = A at *
  go_enter Try.func55, Try.ntmps55
  rcases h1 : decide (p.svc < q.svc) with _ | _
  · rcases h2 : (p.svc == q.svc) with _ | _
    · obtain rfl : false = r := by have h := HR.out; rw [h1, h2] at h; exact h
      go_wp2_with (fail)
      rw [← hW1, ← hW2]
      clear hW1 hW2
      go_wp2_with (fail)
      go_ret
      exact ⟨rfl, HB.out⟩
    · obtain rfl : decide (p.host < q.host) = r := by have h := HR.out; rw [h1, h2] at h; exact h
      go_wp2_with (fail)
      rw [← hW1, ← hW2]
      clear hW1 hW2
      go_wp2_with (fail)
      go_ret
      exact ⟨rfl, HB.out⟩
  · obtain rfl : true = r := by have h := HR.out; rw [h1] at h; exact h
    go_wp2_with (fail)
    rw [← hW1, ← hW2]
    clear hW1 hW2
    go_wp2_with (fail)
    go_ret
    exact ⟨rfl, HB.out⟩
set_option maxHeartbeats 8000000 in
theorem c_Ascending (A : Option Addr) (c : Nat) (l : List Rep) (r : Bool) (hr : ascB l = r) (w : World) (h : Rv 2 repV w A c l) :
    Calls Try.prog 50 #[.slice A l.length c] w fun e w' => e = .returned (.bool r) ∧ Below w.heap.size w w' := by
  have H := Lib.hid h
  have HR := Lib.hid hr
  have k1 := h.1; have k2 := h.2.1
  unfold maxLen at k2
  clear h hr
  go_enter Try.func50, Try.ntmps50
  go_wp2_with (fail)
  go_loopw [3] (fun i wr => ∃ k : Nat, (k ≤ l.length ∨ k = 1) ∧ 1 ≤ k ∧ i = .int .i64 (k : Int) ∧ Hid (Below w.heap.size w wr) ∧ Hid (∀ j a b, j + 1 < k → l[j]? = some a → l[j + 1]? = some b → lessR a b = true)) (fun i _ => l.length - (intOf i).toNat)
  case atStart => exact ⟨1, .inr rfl, by omega, rfl, Lib.hid (Below.refl _ _), Lib.hid (fun j a b hj => absurd hj (by omega))⟩
  case round =>
    obtain ⟨k, hk, hk1, rfl, hB, hasc⟩ := hrel
    by_cases hlt : k < l.length
    · obtain ⟨m, hm⟩ : ∃ m, k = m + 1 := ⟨k - 1, by omega⟩
      obtain ⟨x, hx⟩ : ∃ x, l[m]? = some x := ⟨_, List.getElem?_eq_getElem (by omega)⟩
      obtain ⟨y, hy⟩ : ∃ y, l[k]? = some y := ⟨_, List.getElem?_eq_getElem hlt⟩
      obtain ⟨b, o, rfl, -, -⟩ := H.out.at_ hx
      have HF := Lib.hid (fun (X : World) (hX : Below w.heap.size w X) => (let z := rep_at (H.out.on hX (Nat.le_refl _)) hx; let u := rep_at (H.out.on hX (Nat.le_refl _)) hy; (⟨z.1, z.2, u.1, u.2⟩ : X.cell? ⟨b, o + m * 2, none⟩ = some (.int .i64 x.svc) ∧ X.cell? ⟨b, o + m * 2 + 1, none⟩ = some (.int .i64 x.host) ∧ X.cell? ⟨b, o + k * 2, none⟩ = some (.int .i64 y.svc) ∧ X.cell? ⟨b, o + k * 2 + 1, none⟩ = some (.int .i64 y.host))))
      obtain ⟨f0, f1, f2, f3⟩ := HF.out wr hB.out
      have hk2 : ((k : Nat) : Int) < (l.length : Int) := by omega
      have hk3 : IntKind.i64.wrap (((k : Nat) : Int) - 1) = (m : Int) := by rw [show ((k : Nat) : Int) - 1 = (m : Int) by omega]; exact wrap_in (by omega) (by omega)
      have hk0 : (0 : Int) ≤ (m : Int) := by omega
      have hk4 : ((m : Nat) : Int) < (l.length : Int) := by omega
      have hi1 : ((m : Nat) : Int).toNat = m := by omega
      have hi2 : ((k : Nat) : Int).toNat = k := by omega
      have HM := Lib.hid hm
      clear hm
      have HXX := Lib.hid hx
      have HYY := Lib.hid hy
      obtain ⟨z, hz⟩ : ∃ z, lessR x y = z := ⟨_, rfl⟩
      have HZ := Lib.hid hz
      have HC := Lib.hid (c_Less x y z hz wr.drew)
      clear hx hy hz
      go_wp2_with (fail)
      go_region_held3 (fun X => X.cell? ⟨b, o + m * 2, none⟩ = some (.int .i64 x.svc) ∧ X.cell? ⟨b, o + m * 2 + 1, none⟩ = some (.int .i64 x.host) ∧ X.cell? ⟨b, o + k * 2, none⟩ = some (.int .i64 y.svc) ∧ X.cell? ⟨b, o + k * 2 + 1, none⟩ = some (.int .i64 y.host))
        (first | exact HF.out wr hB.out | exact HF.out w1 HB1.out | fail)
        (first
          | (go_at_call 55; refine HC.out.mono ?_; rintro e w1 ⟨rfl, bb1⟩; have HB1 := Lib.hid (below_join hB.out.drew bb1 hB.out.size); clear bb1)
          | fail)
      rcases hL : lessR x y with _ | _
      · obtain rfl : false = r := by
          rw [← HR.out]
          refine ((Bool.eq_false_iff).2 fun h => ?_).symm
          have := ascB_iff.1 h m x y HXX.out (by rw [← HM.out]; exact HYY.out)
          rw [hL] at this; cases this
        obtain rfl : false = z := by rw [← HZ.out, hL]
        go_wp2_with (fail)
        go_ret
        exact ⟨rfl, HB1.out⟩
      · obtain rfl : true = z := by rw [← HZ.out, hL]
        have HN := Lib.hid (show ∀ j a b, j + 1 < k + 1 → l[j]? = some a → l[j + 1]? = some b → lessR a b = true from fun j a b hj ha hb => by
          have hM := HM.out
          by_cases e : j + 1 < k
          · exact hasc.out j a b e ha hb
          · obtain rfl : j = m := by omega
            rw [HXX.out] at ha
            rw [← hM, HYY.out] at hb
            injection ha with ha
            injection hb with hb
            subst ha hb
            exact hL)
        go_wp2_with (fail)
        go_roundw
        case rel => exact ⟨k + 1, .inl (by omega), by omega, by go_num, HB1, HN⟩
        case measure => simp only [intOf]; omega
    · obtain rfl : true = r := by
        rw [← HR.out]
        refine (ascB_iff.2 fun i a b ha hb => hasc.out i a b ?_ ha hb).symm
        have := (List.getElem?_eq_some_iff.1 hb).1
        omega
      go_wp2_with (fail)
      go_ret
      exact ⟨rfl, hB.out⟩
end Go.Proofs.Ytplncglgolhfaaa
