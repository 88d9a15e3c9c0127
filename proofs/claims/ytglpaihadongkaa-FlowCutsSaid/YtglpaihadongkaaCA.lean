/-
  DERIVED. slices.Index and slices.Contains of numbers (stage 5).
-/
import Derived.Test.YtglpaihadongkaaBZ
set_option linter.unusedVariables false
set_option linter.unusedSimpArgs false
namespace Go.Proofs.Ytglpaihadongkaa
open Go.RowKit Go.Shelf
set_option maxRecDepth 100000
set_option linter.unusedSimpArgs false
set_option linter.unusedVariables false

set_option maxHeartbeats 4000000 in
theorem c_Index (Xv : Value) (x : Int) (xs : List Int) (w : World) (hS : IntSl w Xv xs) :
    Calls Try.prog 41 #[Xv, .int .i64 x] w fun e w' => ∃ i : Int, e = .returned (.int .i64 i) ∧ decide (0 ≤ i) = xs.contains x ∧ w' = w := by
  obtain ⟨A, c, rfl, hc1, hc2⟩ := hS.shape
  unfold maxLen at hc2
  have HS := Lib.hid hS
  clear hS
  go_enter Try.func41, Try.ntmps41
  go_wp2_with (fail)
  go_loopw [8] (fun i wr => ∃ k : Nat, k ≤ xs.length ∧ i = .int .i64 (k : Int) ∧ Hid (x ∉ xs.take k) ∧ wr = w) (fun i _ => xs.length - (intOf i).toNat)
  case atStart => exact ⟨0, Nat.zero_le _, rfl, Lib.hid (by simp), rfl⟩
  case round =>
    obtain ⟨k, hk, rfl, hno, rfl⟩ := hrel
    have hki : ((k : Nat) : Int).toNat = k := by omega
    by_cases hlt : k < xs.length
    · obtain ⟨z, hz⟩ : ∃ z, xs[k]? = some z := ⟨_, List.getElem?_eq_getElem hlt⟩
      obtain ⟨b, o, c', e, -, -, -, y0⟩ := HS.out.at_ hz
      injection e with e1 hle e2
      clear hle
      subst e1 e2
      have HZ := Lib.hid hz
      clear hz
      rcases hxz : (x == z) with _ | _
      · have hno2 := Lib.hid (show x ∉ xs.take (k + 1) by
          rw [take_snoc HZ.out, List.mem_append]
          rintro (h | h)
          · exact hno.out h
          · simp at h; rw [h] at hxz; simp at hxz)
        go_wp2_with (fail)
        go_roundw
        case rel => exact ⟨k + 1, by omega, by go_num, hno2, by first | rfl | trivial⟩
        case measure => simp only [intOf]; omega
      · have HM := Lib.hid (show xs.contains x = true by rw [List.contains_iff_mem, show x = z by simpa using hxz]; exact List.mem_of_getElem? HZ.out)
        go_wp2_with (fail)
        go_ret
        exact ⟨_, rfl, by rw [HM.out]; exact decide_eq_true (by omega), rfl⟩
    · obtain rfl : k = xs.length := by omega
      have HM := Lib.hid (show xs.contains x = false by
        have h := hno.out
        rw [List.take_length] at h
        rw [Bool.eq_false_iff]; intro h2; exact h (List.contains_iff_mem.1 h2))
      go_wp2_with (fail)
      go_ret
      exact ⟨_, rfl, by rw [HM.out]; decide, rfl⟩
theorem c_Contains (Xv : Value) (x : Int) (xs : List Int) (w : World) (hS : IntSl w Xv xs) (r : Bool) (hr : xs.contains x = r) :
    Calls Try.prog 28 #[Xv, .int .i64 x] w fun e w' => e = .returned (.bool r) ∧ w' = w := by
  have HI := Lib.hid (c_Index Xv x xs w hS)
  obtain ⟨A, c, rfl, hc1, hc2⟩ := hS.shape
  clear hS
  go_enter Try.func28, Try.ntmps28
  go_wp2_with (fail)
  go_at_call 41
  refine HI.out.mono ?_
  rintro e w1 ⟨i, rfl, hi, rfl⟩
  rw [hr] at hi
  clear HI
  subst hi
  go_wp2_with (fail)
  go_ret
  exact ⟨rfl, rfl⟩
end Go.Proofs.Ytglpaihadongkaa
