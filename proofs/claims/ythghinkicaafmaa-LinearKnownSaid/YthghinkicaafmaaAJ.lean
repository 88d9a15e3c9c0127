/-
  DERIVED. The program's fault (stage 6). (Written by gen/genAJ.py.)
-/
import Derived.Test.YthghinkicaafmaaAI
namespace Go.Proofs.Ythghinkicaafmaa
open Go.RowKit
set_option maxRecDepth 100000

set_option maxHeartbeats 8000000 in
theorem c_fault (C : Int) (ps : List (Int × Int × Int)) (s : Int) (ins : List (List Int)) (n : Int) (P I : Value) (w : World) (hP : PtSl w P ps) (hI : LiSl w I ins) (r : Int) (hr : fltL C ps s ins n = r) :
    Calls Try.prog 30 #[lnV C P, .int .i64 s, I, .int .i64 n] w fun e w' => e = .returned (.int .i64 r) ∧ Below w.heap.size w w' := by
  obtain ⟨W, hW⟩ : ∃ W, W = w.alloc (.cells #[.int .i64 C, P] 24) := ⟨_, rfl⟩
  have B0 : Below w.heap.size w W := by subst hW; exact (Below.refl _ _).alloc (Nat.le_refl _) _
  have HB := Lib.hid B0
  have HP := Lib.hid (hP.on B0 (Nat.le_refl _))
  have HI := Lib.hid (hI.on B0 (Nat.le_refl _))
  clear hP hI B0
  unfold fltL at hr
  have HV := Lib.hid (fun (b : Bool) (hb : lnOk C ps = b) => c_Valid C ps P W HP.out b hb)
  unfold lnV at HV ⊢
  rcases k1 : lnOk C ps with _ | _
  · have K1 := Lib.hid k1
    rw [k1, if_neg (by decide)] at hr
    subst hr
    clear k1
    go_enter Try.func30, Try.ntmps30
    go_wp2_with (fail)
    rw [← hW]
    clear hW
    go_at_call 16
    refine (HV.out _ K1.out).mono ?_
    rintro e w1 ⟨rfl, b1⟩
    have HI1 := Lib.hid (HI.out.on b1 (Nat.le_refl _))
    have HB1 := Lib.hid (below_join HB.out b1 HB.out.size)
    clear b1
    go_wp2_with (fail)
    go_ret
    exact ⟨rfl, HB1.out⟩
  · have K1 := Lib.hid k1
    rw [k1, if_pos rfl] at hr
    clear k1
    rcases k2 : inOk ins with _ | _
    · have K2 := Lib.hid k2
      rw [k2, Bool.false_and, Bool.false_and, if_neg (by decide)] at hr
      subst hr
      clear k2
      go_enter Try.func30, Try.ntmps30
      go_wp2_with (fail)
      rw [← hW]
      clear hW
      go_at_call 16
      refine (HV.out _ K1.out).mono ?_
      rintro e w1 ⟨rfl, b1⟩
      have HI1 := Lib.hid (HI.out.on b1 (Nat.le_refl _))
      have HB1 := Lib.hid (below_join HB.out b1 HB.out.size)
      clear b1
      go_wp2_with (fail)
      go_at_call 43
      refine (c_areInputs _ _ _ HI1.out _ K2.out).mono ?_
      rintro e w2 ⟨rfl, rfl⟩
      go_wp2_with (fail)
      go_ret
      exact ⟨rfl, HB1.out⟩
    · have K2 := Lib.hid k2
      rw [k2, Bool.true_and] at hr
      clear k2
      rcases k3 : (decide (0 ≤ n) && decide (n ≤ 1000)) with _ | _
      · have K3 := upTo k3
        rw [k3, Bool.false_and, if_neg (by decide)] at hr
        subst hr
        clear k3
        go_enter Try.func30, Try.ntmps30
        go_wp2_with (fail)
        rw [← hW]
        clear hW
        go_at_call 16
        refine (HV.out _ K1.out).mono ?_
        rintro e w1 ⟨rfl, b1⟩
        have HI1 := Lib.hid (HI.out.on b1 (Nat.le_refl _))
        have HB1 := Lib.hid (below_join HB.out b1 HB.out.size)
        clear b1
        go_wp2_with (fail)
        go_at_call 43
        refine (c_areInputs _ _ _ HI1.out _ K2.out).mono ?_
        rintro e w2 ⟨rfl, rfl⟩
        go_wp2_with (fail)
        go_at_call 36
        refine (c_isUpTo _ _ _ K3.out _).mono ?_
        rintro e w2 ⟨rfl, rfl⟩
        go_wp2_with (fail)
        go_ret
        exact ⟨rfl, HB1.out⟩
      · have K3 := upTo k3
        rw [k3, Bool.true_and] at hr
        clear k3
        rcases k4 : (decide (0 ≤ s) && decide (s ≤ 100000000)) with _ | _
        · have K4 := upTo k4
          rw [k4, if_neg (by decide)] at hr
          subst hr
          clear k4
          go_enter Try.func30, Try.ntmps30
          go_wp2_with (fail)
          rw [← hW]
          clear hW
          go_at_call 16
          refine (HV.out _ K1.out).mono ?_
          rintro e w1 ⟨rfl, b1⟩
          have HI1 := Lib.hid (HI.out.on b1 (Nat.le_refl _))
          have HB1 := Lib.hid (below_join HB.out b1 HB.out.size)
          clear b1
          go_wp2_with (fail)
          go_at_call 43
          refine (c_areInputs _ _ _ HI1.out _ K2.out).mono ?_
          rintro e w2 ⟨rfl, rfl⟩
          go_wp2_with (fail)
          go_at_call 36
          refine (c_isUpTo _ _ _ K3.out _).mono ?_
          rintro e w2 ⟨rfl, rfl⟩
          go_wp2_with (fail)
          go_at_call 36
          refine (c_isUpTo _ _ _ K4.out _).mono ?_
          rintro e w2 ⟨rfl, rfl⟩
          go_wp2_with (fail)
          go_ret
          exact ⟨rfl, HB1.out⟩
        · have K4 := upTo k4
          rw [k4, if_pos rfl] at hr
          subst hr
          clear k4
          go_enter Try.func30, Try.ntmps30
          go_wp2_with (fail)
          rw [← hW]
          clear hW
          go_at_call 16
          refine (HV.out _ K1.out).mono ?_
          rintro e w1 ⟨rfl, b1⟩
          have HI1 := Lib.hid (HI.out.on b1 (Nat.le_refl _))
          have HB1 := Lib.hid (below_join HB.out b1 HB.out.size)
          clear b1
          go_wp2_with (fail)
          go_at_call 43
          refine (c_areInputs _ _ _ HI1.out _ K2.out).mono ?_
          rintro e w2 ⟨rfl, rfl⟩
          go_wp2_with (fail)
          go_at_call 36
          refine (c_isUpTo _ _ _ K3.out _).mono ?_
          rintro e w2 ⟨rfl, rfl⟩
          go_wp2_with (fail)
          go_at_call 36
          refine (c_isUpTo _ _ _ K4.out _).mono ?_
          rintro e w2 ⟨rfl, rfl⟩
          go_wp2_with (fail)
          go_ret
          exact ⟨rfl, HB1.out⟩
end Go.Proofs.Ythghinkicaafmaa
