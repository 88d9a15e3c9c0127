/-
  DERIVED. Valid, asked of the reference (stage 5).
-/
import Derived.Test.YtglpaihadongkaaCA
set_option linter.unusedVariables false
set_option linter.unusedSimpArgs false
namespace Go.Proofs.Ytglpaihadongkaa
open Go.RowKit Go.Shelf
set_option maxRecDepth 100000
set_option linter.unusedSimpArgs false
set_option linter.unusedVariables false

set_option maxHeartbeats 16000000 in
theorem d_Valid (N : Int) (L : Value) (l : List (Int × Int × Int)) (w : World) (hL : PtSl w L l) (r : Bool) (hr : ntOk N l = r) :
    Calls Try.prog 17 #[ntV N L] w fun e w' => e = .returned (.bool r) ∧ Below w.heap.size w w' := by
  obtain ⟨A, c, rfl, hc1, hc2⟩ := hL.shape
  unfold maxLen at hc2
  unfold ntV
  obtain ⟨W, hW⟩ : ∃ W, W = w.alloc (.cells #[.int .i64 N, .slice A l.length c] 24) := ⟨_, rfl⟩
  have B0 : Below w.heap.size w W := by subst hW; exact (Below.refl _ _).alloc (Nat.le_refl _) _
  have HB0 := Lib.hid B0
  have HL := Lib.hid (hL.on B0 (Nat.le_refl _))
  have HX := Lib.hid (show W.heap[w.heap.size]? = some (.cells #[.int .i64 N, .slice A l.length c] 24 (0, 0)) by subst hW; exact heap_alloc_new _ _)
  have x0 : W.cell? ⟨w.heap.size, 0, none⟩ = some (.int .i64 N) := cell_of HX.out rfl
  have x1 : W.cell? ⟨w.heap.size, 1, none⟩ = some (.slice A l.length c) := cell_of HX.out rfl
  unfold ntOk at hr
  have HR := Lib.hid hr
  clear B0 hL hr
  rw [hW] at x0 x1
  rcases h1 : decide (N < 2) with _ | _
  rotate_left
  · obtain rfl : false = r := by have := HR.out; rw [h1] at this; exact this
    go_enter Try.func17, Try.ntmps17
    go_wp2_with (fail)
    go_ret
    rw [← hW]
    exact ⟨rfl, HB0.out⟩
  rcases h2 : decide (64 < N) with _ | _
  rotate_left
  · obtain rfl : false = r := by have := HR.out; rw [h1, h2] at this; exact this
    go_enter Try.func17, Try.ntmps17
    go_wp2_with (fail)
    go_ret
    rw [← hW]
    exact ⟨rfl, HB0.out⟩
  rcases h3 : decide (128 < (l.length : Int)) with _ | _
  rotate_left
  · obtain rfl : false = r := by have := HR.out; rw [h1, h2, h3] at this; exact this
    go_enter Try.func17, Try.ntmps17
    go_wp2_with (fail)
    go_ret
    rw [← hW]
    exact ⟨rfl, HB0.out⟩
  have HA := Lib.hid (show l.all (arOk N) = r by have := HR.out; rw [h1, h2, h3] at this; exact this)
  have hl128 : l.length ≤ 128 := by have := of_decide_eq_false h3; omega
  go_enter Try.func17, Try.ntmps17
  go_wp2_with (fail)
  rw [← hW]
  clear hW x0 x1
  go_loopw [22] (fun i wr => ∃ k : Nat, k ≤ l.length ∧ i = .int .i64 (k : Int) ∧ Hid (Below W.heap.size W wr) ∧ Hid ((l.take k).all (arOk N) = true)) (fun i _ => l.length - (intOf i).toNat)
  case atStart => exact ⟨0, Nat.zero_le _, rfl, Lib.hid (Below.refl _ _), Lib.hid rfl⟩
  case round =>
    obtain ⟨k, hk, rfl, hB, hall⟩ := hrel
    have hki : ((k : Nat) : Int).toNat = k := by omega
    by_cases hlt : k < l.length
    · obtain ⟨⟨u, v, cp⟩, hx⟩ : ∃ p, l[k]? = some p := ⟨_, List.getElem?_eq_getElem hlt⟩
      obtain ⟨b, o, c', e, hb, -, -, y0, y1, y2⟩ := (HL.out.on hB.out (Nat.le_refl _)).at_ hx
      injection e with e1 hle e2
      clear hle
      subst e1 e2
      obtain ⟨V, hV⟩ : ∃ V, V = wr.alloc (.cells #[.int .i64 u, .int .i64 v, .int .i64 cp] 39) := ⟨_, rfl⟩
      have hBV : Below W.heap.size W V := by subst hV; exact hB.out.alloc hB.out.size _
      have HBV := Lib.hid hBV
      have HVA := Lib.hid (show V.heap[wr.heap.size]? = some (.cells #[.int .i64 u, .int .i64 v, .int .i64 cp] 39 (0, 0)) by subst hV; exact heap_alloc_new _ _)
      have HVN := Lib.hid ((hBV.block _ (at_lt HX.out)).trans HX.out)
      have v0 : V.cell? ⟨w.heap.size, 0, none⟩ = some (.int .i64 N) := cell_of HVN.out rfl
      have v1 : V.cell? ⟨w.heap.size, 1, none⟩ = some (.slice (some ⟨b, o, none⟩) l.length c) := cell_of HVN.out rfl
      have a0 : V.cell? ⟨wr.heap.size, 0, none⟩ = some (.int .i64 u) := cell_of HVA.out rfl
      have a1 : V.cell? ⟨wr.heap.size, 1, none⟩ = some (.int .i64 v) := cell_of HVA.out rfl
      have a2 : V.cell? ⟨wr.heap.size, 2, none⟩ = some (.int .i64 cp) := cell_of HVA.out rfl
      have HXK := Lib.hid hx
      have hzw : W.heap.size ≤ wr.heap.size := hB.out.size
      have hxw := at_lt HX.out
      clear hx hb hBV
      rw [hV] at v0 v1 a0 a1 a2
      rcases q0 : decide (u < 0) with _ | _
      rotate_left
      · have hno : arOk N (u, v, cp) = false := by
          rw [Bool.eq_false_iff]; intro h
          obtain ⟨g1, g2, g3, g4, g5⟩ := arOk_iff.1 h
          simp only at g1 g2 g3 g4 g5
          have := of_decide_eq_true q0; omega
        obtain rfl : false = r := by rw [← HA.out, all_false HXK.out hno]
        clear hno
        go_wp2_with (fail)
        rw [← hV]
        clear hV
        go_ret
        exact ⟨rfl, below_join HB0.out HBV.out HB0.out.size⟩
      rcases q1 : decide (N ≤ u) with _ | _
      rotate_left
      · have hno : arOk N (u, v, cp) = false := by
          rw [Bool.eq_false_iff]; intro h
          obtain ⟨g1, g2, g3, g4, g5⟩ := arOk_iff.1 h
          simp only at g1 g2 g3 g4 g5
          have := of_decide_eq_true q1; omega
        obtain rfl : false = r := by rw [← HA.out, all_false HXK.out hno]
        clear hno
        go_wp2_with (fail)
        rw [← hV]
        clear hV
        go_ret
        exact ⟨rfl, below_join HB0.out HBV.out HB0.out.size⟩
      rcases q2 : decide (v < 0) with _ | _
      rotate_left
      · have hno : arOk N (u, v, cp) = false := by
          rw [Bool.eq_false_iff]; intro h
          obtain ⟨g1, g2, g3, g4, g5⟩ := arOk_iff.1 h
          simp only at g1 g2 g3 g4 g5
          have := of_decide_eq_true q2; omega
        obtain rfl : false = r := by rw [← HA.out, all_false HXK.out hno]
        clear hno
        go_wp2_with (fail)
        rw [← hV]
        clear hV
        go_ret
        exact ⟨rfl, below_join HB0.out HBV.out HB0.out.size⟩
      rcases q3 : decide (N ≤ v) with _ | _
      rotate_left
      · have hno : arOk N (u, v, cp) = false := by
          rw [Bool.eq_false_iff]; intro h
          obtain ⟨g1, g2, g3, g4, g5⟩ := arOk_iff.1 h
          simp only at g1 g2 g3 g4 g5
          have := of_decide_eq_true q3; omega
        obtain rfl : false = r := by rw [← HA.out, all_false HXK.out hno]
        clear hno
        go_wp2_with (fail)
        rw [← hV]
        clear hV
        go_ret
        exact ⟨rfl, below_join HB0.out HBV.out HB0.out.size⟩
      rcases q4 : (u == v) with _ | _
      rotate_left
      · have hno : arOk N (u, v, cp) = false := by
          rw [Bool.eq_false_iff]; intro h
          obtain ⟨g1, g2, g3, g4, g5⟩ := arOk_iff.1 h
          simp only at g1 g2 g3 g4 g5
          exact g3 (by simpa using q4)
        obtain rfl : false = r := by rw [← HA.out, all_false HXK.out hno]
        clear hno
        go_wp2_with (fail)
        rw [← hV]
        clear hV
        go_ret
        exact ⟨rfl, below_join HB0.out HBV.out HB0.out.size⟩
      rcases q5 : decide (cp < 0) with _ | _
      rotate_left
      · have hno : arOk N (u, v, cp) = false := by
          rw [Bool.eq_false_iff]; intro h
          obtain ⟨g1, g2, g3, g4, g5⟩ := arOk_iff.1 h
          simp only at g1 g2 g3 g4 g5
          have := of_decide_eq_true q5; omega
        obtain rfl : false = r := by rw [← HA.out, all_false HXK.out hno]
        clear hno
        go_wp2_with (fail)
        rw [← hV]
        clear hV
        go_ret
        exact ⟨rfl, below_join HB0.out HBV.out HB0.out.size⟩
      rcases q6 : decide (100000000 < cp) with _ | _
      rotate_left
      · have hno : arOk N (u, v, cp) = false := by
          rw [Bool.eq_false_iff]; intro h
          obtain ⟨g1, g2, g3, g4, g5⟩ := arOk_iff.1 h
          simp only at g1 g2 g3 g4 g5
          have := of_decide_eq_true q6; omega
        obtain rfl : false = r := by rw [← HA.out, all_false HXK.out hno]
        clear hno
        go_wp2_with (fail)
        rw [← hV]
        clear hV
        go_ret
        exact ⟨rfl, below_join HB0.out HBV.out HB0.out.size⟩
      have hall2 := Lib.hid (all_take_succ HXK.out hall.out (show arOk N (u, v, cp) = true by
        refine arOk_iff.2 ⟨⟨?_, ?_⟩, ⟨?_, ?_⟩, ?_, ?_, ?_⟩
        · have := of_decide_eq_false q0; show 0 ≤ u; omega
        · have := of_decide_eq_false q1; show u < N; omega
        · have := of_decide_eq_false q2; show 0 ≤ v; omega
        · have := of_decide_eq_false q3; show v < N; omega
        · show u ≠ v; simpa using q4
        · have := of_decide_eq_false q5; show 0 ≤ cp; omega
        · have := of_decide_eq_false q6; show cp ≤ 100000000; omega))
      go_wp2_with (fail)
      rw [← hV]
      clear hV
      go_roundw
      case rel => exact ⟨k + 1, by omega, by go_num, HBV, hall2⟩
      case measure => simp only [intOf]; omega
    · obtain rfl : k = l.length := by omega
      have hal := hall.out
      rw [List.take_length, HA.out] at hal
      subst hal
      go_wp2_with (fail)
      go_ret
      exact ⟨rfl, below_join HB0.out hB.out HB0.out.size⟩
end Go.Proofs.Ytglpaihadongkaa
