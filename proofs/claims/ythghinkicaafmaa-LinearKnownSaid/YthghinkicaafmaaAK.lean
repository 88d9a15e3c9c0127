/-
  DERIVED. The reference's asked (stage 6).
-/
import Derived.Test.YthghinkicaafmaaAJ
namespace Go.Proofs.Ythghinkicaafmaa
open Go.RowKit
set_option maxRecDepth 100000

theorem flt_arg {C : Int} {ps : List (Int × Int × Int)} {s : Int} {ins : List (List Int)} {n : Int} (h : lnOk C ps = false) : fltL C ps s ins n = 1 := by
  unfold fltL; rw [h]; rfl
theorem flt_range {C : Int} {ps : List (Int × Int × Int)} {s : Int} {ins : List (List Int)} {n : Int} (h : lnOk C ps = true) (h2 : ¬ (inOk ins = true ∧ (0 ≤ n ∧ n ≤ 1000) ∧ (0 ≤ s ∧ s ≤ 100000000))) : fltL C ps s ins n = 2 := by
  unfold fltL
  rw [if_pos h, if_neg]
  simp only [Bool.and_eq_true, decide_eq_true_eq]
  exact fun k => h2 ⟨k.1.1, k.1.2, k.2⟩
theorem flt_ok {C : Int} {ps : List (Int × Int × Int)} {s : Int} {ins : List (List Int)} {n : Int} (h : lnOk C ps = true) (h2 : inOk ins = true) (h3 : 0 ≤ n ∧ n ≤ 1000) (h4 : 0 ≤ s ∧ s ≤ 100000000) : fltL C ps s ins n = 0 := by
  unfold fltL
  rw [if_pos h, if_pos]
  simp only [Bool.and_eq_true, decide_eq_true_eq]
  exact ⟨⟨h2, h3⟩, h4⟩
set_option maxHeartbeats 8000000 in
theorem d_asked (C : Int) (ps : List (Int × Int × Int)) (s : Int) (ins : List (List Int)) (n : Int) (P I : Value) (w : World) (hP : PtSl w P ps) (hI : LiSl w I ins) (r : Int) (hr : fltL C ps s ins n = r) :
    Calls Try.prog 32 #[lnV C P, .int .i64 s, I, .int .i64 n] w fun e w' => e = .returned (.int .i64 r) ∧ Below w.heap.size w w' := by
  obtain ⟨W, hW⟩ : ∃ W, W = w.alloc (.cells #[.int .i64 C, P] 24) := ⟨_, rfl⟩
  have B0 : Below w.heap.size w W := by subst hW; exact (Below.refl _ _).alloc (Nat.le_refl _) _
  have HB := Lib.hid B0
  have HP := Lib.hid (hP.on B0 (Nat.le_refl _))
  have HI0 := Lib.hid (hI.on B0 (Nat.le_refl _))
  have HR := Lib.hid hr
  clear hP B0 hr
  have HV := Lib.hid (fun (b : Bool) (hb : lnOk C ps = b) => d_Valid C ps P W HP.out b hb)
  unfold lnV at HV ⊢
  obtain ⟨A, c, rfl, hc1, hc2⟩ := hI.shape
  unfold maxLen at hc2
  clear hI
  rcases k1 : lnOk C ps with _ | _
  · have K1 := Lib.hid k1
    obtain rfl : (1 : Int) = r := by rw [← HR.out]; exact (flt_arg k1).symm
    clear k1
    go_enter Try.func32, Try.ntmps32
    go_wp2_with (fail)
    rw [← hW]
    clear hW
    go_at_call 17
    refine (HV.out _ K1.out).mono ?_
    rintro e w1 ⟨rfl, b1⟩
    have HB1 := Lib.hid (below_join HB.out b1 HB.out.size)
    clear b1
    go_wp2_with (fail)
    go_ret
    exact ⟨rfl, HB1.out⟩
  · have K1 := Lib.hid k1
    clear k1
    by_cases g : 0 ≤ s ∧ s ≤ 100000000 ∧ 0 ≤ n ∧ n ≤ 1000 ∧ ins.length ≤ 16
    · obtain ⟨g1, g2, g3, g4, g⟩ := g
      go_enter Try.func32, Try.ntmps32
      go_wp2_with (fail)
      rw [← hW]
      clear hW
      go_at_call 17
      refine (HV.out _ K1.out).mono ?_
      rintro e wr ⟨rfl, b1⟩
      have HI := Lib.hid (HI0.out.on b1 (Nat.le_refl _))
      have HB1 := Lib.hid (below_join HB.out b1 HB.out.size)
      clear b1
      go_wp2_with (fail)
      go_loopw [37] (fun i wr' => ∃ k : Nat, k ≤ ins.length ∧ i = .int .i64 (k : Int) ∧ Hid ((ins.take k).all liOk = true) ∧ wr' = wr) (fun i _ => ins.length - (intOf i).toNat)
      case atStart => exact ⟨0, Nat.zero_le _, rfl, Lib.hid rfl, rfl⟩
      case round =>
        obtain ⟨k, hk, rfl, hA, rfl⟩ := hrel
        have hki : ((k : Nat) : Int).toNat = k := by omega
        by_cases hlt : k < ins.length
        · obtain ⟨l, hx⟩ : ∃ l, ins[k]? = some l := ⟨_, List.getElem?_eq_getElem hlt⟩
          obtain ⟨b, o, c', u, e, -, -, -, hu, hL⟩ := HI.out.at_ hx
          injection e with e1 e2 e3
          clear e2
          subst e1 e3
          have HL := Lib.hid hL
          have HX := Lib.hid hx
          obtain ⟨A2, d, rfl, hd1, hd2⟩ := hL.shape
          unfold maxLen at hd2
          clear hL hx
          by_cases g5 : l.length ≤ 1000
          · go_wp2_with (fail)
            go_loopw [46] (fun i wr' => ∃ j : Nat, j ≤ l.length ∧ i = .int .i64 (j : Int) ∧ Hid ((l.take j).all nmOk = true) ∧ Hid (wr' = wr)) (fun i _ => l.length - (intOf i).toNat)
            case atStart => exact ⟨0, Nat.zero_le _, rfl, Lib.hid rfl, Lib.hid rfl⟩
            case round =>
              obtain ⟨j, hj, rfl, hA2, hww⟩ := hrel
              obtain rfl := hww.out
              have hji : ((j : Nat) : Int).toNat = j := by omega
              by_cases hjl : j < l.length
              · obtain ⟨x, hx⟩ : ∃ x, l[j]? = some x := ⟨_, List.getElem?_eq_getElem hjl⟩
                obtain ⟨b2, o2, d', e, -, -, -, hcx⟩ := HL.out.at_ hx
                injection e with e1 e2 e3
                clear e2
                subst e1 e3
                have HXX := Lib.hid hx
                clear hx
                by_cases k1 : 0 ≤ x ∧ x ≤ 100000000
                · have HN := Lib.hid (all_take_succ hA2.out HXX.out (nmOk_iff.2 k1))
                  obtain ⟨k2, k3⟩ := k1
                  go_wp2_with (fail)
                  go_roundw
                  case rel => exact ⟨j + 1, by omega, by go_num, HN, (by first | exact Lib.hid rfl | exact Lib.hid trivial)⟩
                  case measure => simp only [intOf]; omega
                · obtain rfl : (2 : Int) = r := by
                    rw [← HR.out]
                    refine (flt_range K1.out ?_).symm
                    rw [inOk_bad HX.out (liOk_bad HXX.out (by rw [← Bool.not_eq_true, nmOk_iff]; exact k1))]
                    simp
                  have HK := Lib.hid k1
                  clear k1
                  go_wp2_with (fail)
                  all_goals first
                    | (go_ret; exact ⟨rfl, HB1.out⟩)
                    | (exfalso; have := HK.out; omega)
              · have hjj : j = l.length := by omega
                have HN := Lib.hid (all_take_succ hA.out HX.out (by
                  have := hA2.out
                  rw [hjj, List.take_length] at this
                  unfold liOk
                  rw [this, decide_eq_true g5]; rfl))
                have hge : ((l.length : Nat) : Int) ≤ (j : Int) := by omega
                clear hjj
                go_wp2_with (fail)
                go_roundw
                case rel => exact ⟨k + 1, by omega, by go_num, HN, (by first | trivial | rfl)⟩
                case measure => simp only [intOf]; omega
          · obtain rfl : (2 : Int) = r := by
              rw [← HR.out]
              refine (flt_range K1.out ?_).symm
              rw [inOk_bad HX.out (by unfold liOk; rw [decide_eq_false g5]; rfl)]
              simp
            go_wp2_with (fail)
            go_ret
            exact ⟨rfl, HB1.out⟩
        · obtain rfl : k = ins.length := by omega
          obtain rfl : (0 : Int) = r := by
            rw [← HR.out]
            refine (flt_ok K1.out ?_ ⟨g3, g4⟩ ⟨g1, g2⟩).symm
            have := hA.out
            rw [List.take_length] at this
            unfold inOk
            rw [this, decide_eq_true g]; rfl
          go_wp2_with (fail)
          go_ret
          exact ⟨rfl, HB1.out⟩
    · obtain rfl : (2 : Int) = r := by
        rw [← HR.out]
        refine (flt_range K1.out fun h => g ⟨h.2.2.1, h.2.2.2, h.2.1.1, h.2.1.2, ?_⟩).symm
        have := h.1
        unfold inOk at this
        rw [Bool.and_eq_true, decide_eq_true_eq] at this
        exact this.1
      have HG := Lib.hid g
      clear g
      go_enter Try.func32, Try.ntmps32
      go_wp2_with (fail)
      rw [← hW]
      clear hW
      go_at_call 17
      refine (HV.out _ K1.out).mono ?_
      rintro e w1 ⟨rfl, b1⟩
      have HB1 := Lib.hid (below_join HB.out b1 HB.out.size)
      clear b1
      go_wp2_with (fail)
      all_goals first
        | (go_ret; exact ⟨rfl, HB1.out⟩)
        | (exfalso; have := HG.out; omega)
end Go.Proofs.Ythghinkicaafmaa
