/-
  DERIVED. asked of the reference (stage 5).
-/
import Derived.Test.YtglpaihadongkaaDA
set_option linter.unusedVariables false
set_option linter.unusedSimpArgs false
namespace Go.Proofs.Ytglpaihadongkaa
open Go.RowKit Go.Shelf
set_option maxRecDepth 100000
set_option linter.unusedSimpArgs false
set_option linter.unusedVariables false

set_option maxHeartbeats 8000000 in
theorem d_asked (N : Int) (L : Value) (l : List (Int × Int × Int)) (s t : Int) (w : World) (hL : PtSl w L l) (r : Int) (hr : nfault N l s t = r) :
    Calls Try.prog 33 #[ntV N L, .int .i64 s, .int .i64 t] w fun e w' => e = .returned (.int .i64 r) ∧ Below w.heap.size w w' := by
  obtain ⟨A, c, rfl, hc1, hc2⟩ := hL.shape
  obtain ⟨W, hW⟩ : ∃ W, W = w.alloc (.cells #[.int .i64 N, .slice A l.length c] 24) := ⟨_, rfl⟩
  have B0 : Below w.heap.size w W := by subst hW; exact (Below.refl _ _).alloc (Nat.le_refl _) _
  have HB0 := Lib.hid B0
  have HX := Lib.hid (show W.heap[w.heap.size]? = some (.cells #[.int .i64 N, .slice A l.length c] 24 (0, 0)) by subst hW; exact heap_alloc_new _ _)
  have x0 : W.cell? ⟨w.heap.size, 0, none⟩ = some (.int .i64 N) := cell_of HX.out rfl
  have x1 : W.cell? ⟨w.heap.size, 1, none⟩ = some (.slice A l.length c) := cell_of HX.out rfl
  obtain ⟨r0, h0⟩ : ∃ b, ntOk N l = b := ⟨_, rfl⟩
  have HF := Lib.hid (d_Valid N (.slice A l.length c) l W (hL.on B0 (Nat.le_refl _)) r0 h0)
  unfold nfault at hr
  rw [h0] at hr
  unfold ntV at HF ⊢
  clear B0 hL h0
  rw [hW] at x0 x1
  go_enter Try.func33, Try.ntmps33
  go_wp2_with (fail)
  rw [← hW]
  clear hW x0 x1
  go_at_call 17
  refine HF.out.mono ?_
  rintro e w1 ⟨rfl, hb⟩
  have HX1 := Lib.hid ((hb.block _ (at_lt HX.out)).trans HX.out)
  have x0 : w1.cell? ⟨w.heap.size, 0, none⟩ = some (.int .i64 N) := cell_of HX1.out rfl
  have x1 : w1.cell? ⟨w.heap.size, 1, none⟩ = some (.slice A l.length c) := cell_of HX1.out rfl
  have HB1 := Lib.hid (below_join HB0.out hb HB0.out.size)
  clear hb
  cases r0
  · obtain rfl : (1 : Int) = r := by simpa using hr
    go_wp2_with (fail)
    go_ret
    exact ⟨rfl, HB1.out⟩
  · have HR := Lib.hid (show (if (ndOk N s && (ndOk N t && !(s == t))) = true then (0 : Int) else 2) = r from hr)
    clear hr
    rcases q0 : decide (s < 0) with _ | _
    rotate_left
    · have hno : (ndOk N s && (ndOk N t && !(s == t))) = false := by
        rw [Bool.eq_false_iff]; intro h
        simp only [Bool.and_eq_true, Bool.not_eq_true', ndOk_iff, beq_eq_false_iff_ne] at h
        have := of_decide_eq_true q0; omega
      obtain rfl : (2 : Int) = r := by have h := HR.out; rw [hno] at h; exact h
      clear hno
      go_wp2_with (fail)
      go_ret
      exact ⟨rfl, HB1.out⟩
    rcases q1 : decide (N ≤ s) with _ | _
    rotate_left
    · have hno : (ndOk N s && (ndOk N t && !(s == t))) = false := by
        rw [Bool.eq_false_iff]; intro h
        simp only [Bool.and_eq_true, Bool.not_eq_true', ndOk_iff, beq_eq_false_iff_ne] at h
        have := of_decide_eq_true q1; omega
      obtain rfl : (2 : Int) = r := by have h := HR.out; rw [hno] at h; exact h
      clear hno
      go_wp2_with (fail)
      go_ret
      exact ⟨rfl, HB1.out⟩
    rcases q2 : decide (t < 0) with _ | _
    rotate_left
    · have hno : (ndOk N s && (ndOk N t && !(s == t))) = false := by
        rw [Bool.eq_false_iff]; intro h
        simp only [Bool.and_eq_true, Bool.not_eq_true', ndOk_iff, beq_eq_false_iff_ne] at h
        have := of_decide_eq_true q2; omega
      obtain rfl : (2 : Int) = r := by have h := HR.out; rw [hno] at h; exact h
      clear hno
      go_wp2_with (fail)
      go_ret
      exact ⟨rfl, HB1.out⟩
    rcases q3 : decide (N ≤ t) with _ | _
    rotate_left
    · have hno : (ndOk N s && (ndOk N t && !(s == t))) = false := by
        rw [Bool.eq_false_iff]; intro h
        simp only [Bool.and_eq_true, Bool.not_eq_true', ndOk_iff, beq_eq_false_iff_ne] at h
        have := of_decide_eq_true q3; omega
      obtain rfl : (2 : Int) = r := by have h := HR.out; rw [hno] at h; exact h
      clear hno
      go_wp2_with (fail)
      go_ret
      exact ⟨rfl, HB1.out⟩
    rcases q4 : (s == t) with _ | _
    rotate_left
    · have hno : (ndOk N s && (ndOk N t && !(s == t))) = false := by
        rw [Bool.eq_false_iff]; intro h
        simp only [Bool.and_eq_true, Bool.not_eq_true', ndOk_iff, beq_eq_false_iff_ne] at h
        exact h.2.2 (by simpa using q4)
      obtain rfl : (2 : Int) = r := by have h := HR.out; rw [hno] at h; exact h
      clear hno
      go_wp2_with (fail)
      go_ret
      exact ⟨rfl, HB1.out⟩
    have hyes : (ndOk N s && (ndOk N t && !(s == t))) = true := by
      rw [Bool.and_eq_true, Bool.and_eq_true, ndOk_iff, ndOk_iff]
      have h0 := of_decide_eq_false q0; have h1 := of_decide_eq_false q1; have h2 := of_decide_eq_false q2; have h3 := of_decide_eq_false q3
      exact ⟨by omega, by omega, by rw [q4]; rfl⟩
    obtain rfl : (0 : Int) = r := by have h := HR.out; rw [hyes] at h; exact h
    clear hyes
    go_wp2_with (fail)
    go_ret
    exact ⟨rfl, HB1.out⟩
end Go.Proofs.Ytglpaihadongkaa
