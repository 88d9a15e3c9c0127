/-
  DERIVED. Bad parts: Feed (written by gen/site_BC.py).
-/
import Derived.Test.YtplncglgolhfaaaBB
namespace Go.Proofs.Ytplncglgolhfaaa
open Go.RowKit
set_option maxRecDepth 100000
set_option linter.unusedVariables false
set_option linter.unusedSimpArgs false

set_option maxHeartbeats 8000000 in
theorem c_badFeed (z0 : Int) (r : Bool) (hr : feedBad z0 = r) (w : World) :
    Calls Try.prog 65 #[.agg #[.int .i64 z0]] w fun e w' => e = .returned (.bool r) ∧ Below w.heap.size w w' := by
  obtain ⟨W, hW⟩ : ∃ W, W = w.alloc (.cells #[.int .i64 z0] 90) := ⟨_, rfl⟩
  have B0 : Below w.heap.size w W := by subst hW; exact (Below.refl _ _).alloc (Nat.le_refl _) _
  have HB0 := Lib.hid B0
  have HX := Lib.hid (show W.heap[w.heap.size]? = some (.cells #[.int .i64 z0] 90 (0, 0)) by subst hW; exact heap_alloc_new _ _)
  have HF := Lib.hid (fun (X : World) (hX : Below W.heap.size W X) => (cell_of ((hX.block _ (at_lt HX.out)).trans HX.out) rfl : X.cell? ⟨w.heap.size, 0, none⟩ = some (.int .i64 z0)))
  have HR := Lib.hid (show (!areB 0 1000000 [z0]) = r from hr)
  have KW := Lib.hid (Below.refl W.heap.size W)
  clear B0 hr
  obtain x0 := HF.out W KW.out
  rw [hW] at x0
  go_enter Try.func65, Try.ntmps65
  obtain ⟨r0, h0⟩ : ∃ b, areB 0 1000000 [z0] = b := ⟨_, rfl⟩
  have Q0 := Lib.hid h0
  clear h0
  obtain ⟨V0, hV0⟩ : ∃ X, X = W.alloc (.cells #[.int .i64 z0] 3) := ⟨_, rfl⟩
  have bV0 : Below W.heap.size W V0 := by subst hV0; exact (Below.refl _ _).alloc (Nat.le_refl _) _
  have RV0 := Lib.hid (show Rw 1 inF V0 (some ⟨w.heap.size + 1, 0, none⟩) 1 [z0] by subst hV0; have h := rw_lit [z0] (by simp [maxLen]) W; rw [show W.heap.size = w.heap.size + 1 from by rw [hW, World.size_alloc]] at h; exact h)
  have HV0 := Lib.hid (below_join KW.out bV0 KW.out.size)
  clear bV0
  go_wp2_with (fail)
  rw [← hW, ← hV0]
  clear hW hV0
  clear x0
  go_at_call 66
  refine (c_areFrom 0 1000000 (some ⟨w.heap.size + 1, 0, none⟩) 1 [z0] V0 RV0.out r0 Q0.out).mono ?_
  rintro e w1 ⟨rfl, b1⟩
  have K1 := Lib.hid (below_join HV0.out b1 HV0.out.size)
  clear b1
  cases r0
  · obtain rfl : true = r := by have h := HR.out; rw [show (areB 0 1000000 [z0]) = false from Q0.out] at h; exact h
    go_wp2_with (fail)
    go_ret
    exact ⟨rfl, below_join HB0.out K1.out HB0.out.size⟩
  · obtain rfl : false = r := by have h := HR.out; rw [show (areB 0 1000000 [z0]) = true from Q0.out] at h; exact h
    go_wp2_with (fail)
    go_ret
    exact ⟨rfl, below_join HB0.out K1.out HB0.out.size⟩
theorem rwFeed {w : World} {b o c : Nat} {l : List Int} (h : Rw 1 inF w (some ⟨b, o, none⟩) c l) {j : Nat} {z0 : Int} (hj : l[j]? = some z0) : w.cell? ⟨b, o + j, none⟩ = some (.int .i64 z0) := by
  obtain ⟨b', o', e, -, h0⟩ := h.at_ hj
  injection e with e
  injection e with e1 e2
  subst e1 e2
  exact by simpa [inF] using h0 0 (by omega)
set_option maxHeartbeats 8000000 in
theorem c_IF_Feed (A : Option Addr) (c : Nat) (l : List Int) (w : World) (h : Rw 1 inF w A c l) (y : Int) (hy : fidx (feedBad) l = y) :
    Calls Try.prog 101 #[.slice A l.length c, .func (.func 65) #[] #[]] w fun e w' => e = .returned (.int .i64 y) ∧ Below w.heap.size w w' := by
  have H := Lib.hid h
  have HY := Lib.hid hy
  have hc1 := h.1
  have hc2 := h.2.1
  unfold maxLen at hc2

  clear h hy
  go_enter Try.func101, Try.ntmps101
  go_wp2_with (fail)
  go_loopw [8] (fun i wr => ∃ k : Nat, k ≤ l.length ∧ i = .int .i64 (k : Int) ∧ Hid (∀ i y, i < k → l[i]? = some y → feedBad y = false) ∧ Hid (Below w.heap.size w wr)) (fun i _ => l.length - (intOf i).toNat)
  case atStart => exact ⟨0, Nat.zero_le _, rfl, Lib.hid (fun i y hi => absurd hi (by omega)), Lib.hid (Below.refl _ _)⟩
  case round =>
    obtain ⟨k, hk, rfl, hun, hB⟩ := hrel
    by_cases hlt : k < l.length
    · obtain ⟨z0, hx⟩ : ∃ x, l[k]? = some x := ⟨_, List.getElem?_eq_getElem hlt⟩
      have HK := H.out
      obtain ⟨pb, o, rfl, -, -⟩ := HK.at_ hx
      obtain y0 := rwFeed (HK.on hB.out (Nat.le_refl _)) hx
      have HXX := Lib.hid hx
      have hki : ((k : Nat) : Int).toNat = k := by omega
      have hlt' : (k : Int) < ((l.length : Nat) : Int) := by omega
      have HC := Lib.hid (fun (r : Bool) (hr : feedBad z0 = r) => c_badFeed z0 r hr wr)
      clear hx HK
      rcases hp : feedBad z0 with _ | _
      · have HP := Lib.hid hp
        clear hp
        go_wp2_with (go_at_call 65; refine (HC.out _ HP.out).mono ?_; rintro e w1 ⟨rfl, b1⟩; have HB1 := Lib.hid (below_join hB.out b1 hB.out.size); clear b1 y0)
        go_roundw
        case rel => exact ⟨k + 1, by omega, by go_num, Lib.hid (fun i y hi hy => by
          rcases Nat.lt_or_ge i k with h | h
          · exact hun.out i y h hy
          · obtain rfl : i = k := by omega
            have := HXX.out
            rw [hy] at this
            injection this with this
            subst this
            exact HP.out), HB1⟩
        case measure => simp only [intOf]; omega
      · have HKY := Lib.hid (show (k : Int) = y by rw [← HY.out]; exact (fidx_at _ l k _ hun.out HXX.out hp).symm)
        have HP := Lib.hid hp
        clear hp
        go_wp2_with (go_at_call 65; refine (HC.out _ HP.out).mono ?_; rintro e w1 ⟨rfl, b1⟩; have HB1 := Lib.hid (below_join hB.out b1 hB.out.size); clear b1 y0)
        go_ret
        exact ⟨(show Ending.returned (.int .i64 (k : Int)) = .returned (.int .i64 y) by rw [HKY.out]), HB1.out⟩
    · obtain rfl : k = l.length := by omega
      have HKY := Lib.hid (show (-1 : Int) = y by rw [← HY.out, fidx_none _ l (fun i y hy => hun.out i y (List.getElem?_eq_some_iff.1 hy).1 hy)])
      go_wp2_with (fail)
      go_ret
      exact ⟨(show Ending.returned (.int .i64 (-1)) = .returned (.int .i64 y) by rw [HKY.out]), hB.out⟩
set_option maxHeartbeats 4000000 in
theorem c_CF_Feed (A : Option Addr) (c : Nat) (l : List Int) (w : World) (h : Rw 1 inF w A c l) (r : Bool) (hr : l.any (feedBad) = r) :
    Calls Try.prog 92 #[.slice A l.length c, .func (.func 65) #[] #[]] w fun e w' => e = .returned (.bool r) ∧ Below w.heap.size w w' := by
  obtain ⟨y, hy⟩ : ∃ y, fidx (feedBad) l = y := ⟨_, rfl⟩
  have HC := Lib.hid (c_IF_Feed A c l w h y hy)
  have HR := Lib.hid (show decide (0 ≤ y) = r by rw [← hy, fidx_any, hr])
  clear hy hr h
  go_enter Try.func92, Try.ntmps92
  go_wp2_with (go_at_call 101; refine HC.out.mono ?_; rintro e w1 ⟨rfl, b1⟩; have HB1 := Lib.hid b1; clear b1)
  go_ret
  exact ⟨(show Ending.returned (.bool (decide (0 ≤ y))) = .returned (.bool r) by rw [HR.out]), HB1.out⟩
set_option maxHeartbeats 4000000 in
theorem c_goodFeed (lo hi : Int) (A : Option Addr) (c : Nat) (l : List Int) (w : World) (h : Rw 1 inF w A c l) (r : Bool) (hr : goodB (feedBad) lo hi l = r) :
    Calls Try.prog 73 #[.slice A l.length c, .int .i64 lo, .int .i64 hi, .func (.func 65) #[] #[]] w fun e w' => e = .returned (.bool r) ∧ Below w.heap.size w w' := by
  obtain ⟨W, hW⟩ : ∃ W, W = w.alloc (.cells #[.int .i64 (l.length : Int)] 3) := ⟨_, rfl⟩
  have B0 : Below w.heap.size w W := by subst hW; exact (Below.refl _ _).alloc (Nat.le_refl _) _
  have RW := Lib.hid (show Rw 1 inF W (some ⟨w.heap.size, 0, none⟩) 1 [(l.length : Int)] by subst hW; exact rw_lit [(l.length : Int)] (by simp [maxLen]) _)
  have HB0 := Lib.hid B0
  have H := Lib.hid h
  have hlc : (l.length : Int) ≤ 9223372036854775807 := by have h1 := h.1; have h2 := h.2.1; unfold maxLen at h2; omega

  have HR := Lib.hid (show (areB lo hi [(l.length : Int)] && !l.any (feedBad)) = r from hr)
  clear hr h B0
  obtain ⟨r1, h1⟩ : ∃ b, areB lo hi [(l.length : Int)] = b := ⟨_, rfl⟩
  have Q1 := Lib.hid h1
  clear h1
  go_enter Try.func73, Try.ntmps73
  go_wp2_with (fail)
  rw [← hW]
  go_at_call 66
  refine (c_areFrom lo hi (some ⟨w.heap.size, 0, none⟩) 1 [(l.length : Int)] W RW.out r1 Q1.out).mono ?_
  rintro e w1 ⟨rfl, b1⟩
  have K1 := Lib.hid (below_join HB0.out b1 HB0.out.size)
  clear b1 hW
  cases r1
  · obtain rfl : false = r := by have h := HR.out; rw [Q1.out] at h; exact h
    go_wp2_with (fail)
    go_ret
    exact ⟨rfl, K1.out⟩
  · obtain ⟨r2, h2⟩ : ∃ b, l.any (feedBad) = b := ⟨_, rfl⟩
    have Q2 := Lib.hid h2
    obtain rfl : (!r2) = r := by have h := HR.out; rw [Q1.out, h2] at h; exact h
    clear h2
    go_wp2_with (fail)
    go_at_call 92
    refine (c_CF_Feed A c l w1 (H.out.on K1.out (Nat.le_refl _)) r2 Q2.out).mono ?_
    rintro e w2 ⟨rfl, b2⟩
    have K2 := Lib.hid (below_join K1.out b2 K1.out.size)
    clear b2
    go_wp2_with (fail)
    go_ret
    exact ⟨rfl, K2.out⟩
end Go.Proofs.Ytplncglgolhfaaa
