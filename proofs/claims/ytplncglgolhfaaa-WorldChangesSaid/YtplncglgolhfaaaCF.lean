/-
  DERIVED. Ints of the specification (stage 13).
-/
import Derived.Test.YtplncglgolhfaaaCB
namespace Go.Proofs.Ytplncglgolhfaaa
open Go.RowKit
set_option maxRecDepth 100000
set_option linter.unusedVariables false
set_option linter.unusedSimpArgs false

set_option maxHeartbeats 8000000 in
theorem c_Ints (A A2 : Option Addr) (c c2 : Nat) (l m : List Int) (w : World) (h : Rw 1 inF w A c l) (h2 : Rw 1 inF w A2 c2 m) (r : Bool) (hr : decide (l = m) = r) :
    Calls Try.prog 18 #[.slice A l.length c, .slice A2 m.length c2] w fun e w' => e = .returned (.bool r) ∧ Below w.heap.size w w' := by
  have H := Lib.hid h
  have H2 := Lib.hid h2
  have HR := Lib.hid hr
  have k1 := h.1; have k2 := h.2.1; have k3 := h2.1; have k4 := h2.2.1
  unfold maxLen at k2 k4
  clear h h2 hr
  by_cases hl : l.length = m.length
  · have hne : ((l.length : Int) != (m.length : Int)) = false := by rw [hl]; simp
    have HL := Lib.hid hl
    clear hl
    go_enter Try.func18, Try.ntmps18
    go_wp2_with (fail)
    go_loopw [5] (fun i wr => ∃ k : Nat, k ≤ l.length ∧ i = .int .i64 (k : Int) ∧ Hid (Below w.heap.size w wr) ∧ Hid (l.take k = m.take k)) (fun i _ => l.length - (intOf i).toNat)
    case atStart => exact ⟨0, Nat.zero_le _, rfl, Lib.hid (Below.refl _ _), Lib.hid rfl⟩
    case round =>
      obtain ⟨k, hk, rfl, hB, hsame⟩ := hrel
      have hki : ((k : Nat) : Int).toNat = k := by omega
      by_cases hlt : k < l.length
      · obtain ⟨x, hx⟩ : ∃ x, l[k]? = some x := ⟨_, List.getElem?_eq_getElem hlt⟩
        obtain ⟨y, hy⟩ : ∃ y, m[k]? = some y := ⟨_, List.getElem?_eq_getElem (by rw [← HL.out]; exact hlt)⟩
        have HK := H.out.on hB.out (Nat.le_refl _)
        have HK2 := H2.out.on hB.out (Nat.le_refl _)
        obtain ⟨b, o, rfl, -, -⟩ := HK.at_ hx
        obtain ⟨b2, o2, rfl, -, -⟩ := HK2.at_ hy
        have x0 := inRw HK hx
        have y0 := inRw HK2 hy
        have hkl : (k : Int) < (l.length : Int) := by omega
        have hkm : (k : Int) < (m.length : Int) := by have := HL.out; omega
        have HXX := Lib.hid hx
        have HYY := Lib.hid hy
        clear HK HK2 hx hy
        rcases hne2 : (x != y) with _ | _
        · have HS := Lib.hid (show l.take (k + 1) = m.take (k + 1) by
            rw [List.take_add_one, List.take_add_one, hsame.out, HXX.out, HYY.out]
            rw [bne_eq_false_iff_eq] at hne2
            rw [hne2])
          go_wp2_with (fail)
          go_quiet (fail)
          go_wp2_with (fail)
          go_roundw
          case rel => exact ⟨k + 1, by omega, by go_num, Lib.hid (below_drewN hB.out), HS⟩
          case measure => simp only [intOf]; omega
        · obtain rfl : false = r := by
            rw [← HR.out]
            refine (decide_eq_false fun e => ?_).symm
            rw [bne_iff_ne] at hne2
            refine hne2 ?_
            have h1 := HXX.out
            rw [e, HYY.out] at h1
            injection h1 with h1
            exact h1.symm
          go_wp2_with (fail)
          go_quiet (fail)
          go_wp2_with (fail)
          go_ret
          exact ⟨rfl, below_drewN hB.out⟩
      · obtain rfl : k = l.length := by omega
        obtain rfl : true = r := by
          rw [← HR.out]
          refine (decide_eq_true ?_).symm
          have h := hsame.out
          rw [List.take_length, HL.out, List.take_length] at h
          exact h
        go_wp2_with (fail)
        go_ret
        exact ⟨rfl, hB.out⟩
  · have hne : ((l.length : Int) != (m.length : Int)) = true := by rw [bne_iff_ne]; omega
    obtain rfl : false = r := by rw [← HR.out]; exact (decide_eq_false fun e => hl (by rw [e])).symm
    clear hl
    go_enter Try.func18, Try.ntmps18
    go_wp2_with (fail)
    go_ret
    exact ⟨rfl, Below.refl _ _⟩
end Go.Proofs.Ytplncglgolhfaaa
