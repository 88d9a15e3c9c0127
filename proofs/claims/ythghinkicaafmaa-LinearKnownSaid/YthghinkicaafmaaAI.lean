/-
  DERIVED. The program's areInputs (stage 6).
-/
import Derived.Test.YthghinkicaafmaaAH
namespace Go.Proofs.Ythghinkicaafmaa
open Go.RowKit
set_option maxRecDepth 100000

theorem inOk_bad {ins : List (List Int)} {k : Nat} {l : List Int} (h : ins[k]? = some l) (hl : liOk l = false) : inOk ins = false := by
  have : ins.all liOk = false := by
    rw [List.all_eq_false]
    exact ⟨l, List.mem_of_getElem? h, by rw [hl]; simp⟩
  unfold inOk
  rw [this]; simp
theorem liOk_bad {l : List Int} {k : Nat} {x : Int} (h : l[k]? = some x) (hx : nmOk x = false) : liOk l = false := by
  have : l.all nmOk = false := by
    rw [List.all_eq_false]
    exact ⟨x, List.mem_of_getElem? h, by rw [hx]; simp⟩
  unfold liOk
  rw [this]; simp
set_option maxHeartbeats 8000000 in
theorem c_areInputs (ins : List (List Int)) (I : Value) (w : World) (hI : LiSl w I ins) (r : Bool) (hr : inOk ins = r) :
    Calls Try.prog 43 #[I] w fun e w' => e = .returned (.bool r) ∧ w = w' := by
  have HI := Lib.hid hI
  obtain ⟨A, c, rfl, hc1, hc2⟩ := hI.shape
  unfold maxLen at hc2
  have HR := Lib.hid hr
  clear hI hr
  by_cases g : ins.length ≤ 16
  · go_enter Try.func43, Try.ntmps43
    go_wp2_with (fail)
    go_loopw [12] (fun i wr => ∃ k : Nat, k ≤ ins.length ∧ i = .int .i64 (k : Int) ∧ Hid ((ins.take k).all liOk = true) ∧ wr = w) (fun i _ => ins.length - (intOf i).toNat)
    case atStart => exact ⟨0, Nat.zero_le _, rfl, Lib.hid rfl, rfl⟩
    case round =>
      obtain ⟨k, hk, rfl, hA, rfl⟩ := hrel
      have hki : ((k : Nat) : Int).toNat = k := by omega
      by_cases hlt : k < ins.length
      · obtain ⟨l, hx⟩ : ∃ l, ins[k]? = some l := ⟨_, List.getElem?_eq_getElem hlt⟩
        obtain ⟨b, o, c', u, e, -, -, -, hu, hL⟩ := HI.out.at_ hx
        injection e with e1 e2 e3
        clear e2
        subst e1 e3
        have HL := Lib.hid hL
        have HX := Lib.hid hx
        obtain ⟨A2, d, rfl, hd1, hd2⟩ := hL.shape
        unfold maxLen at hd2
        clear hL hx
        by_cases g2 : l.length ≤ 1000
        · go_wp2_with (fail)
          have HLT := Lib.hid hlt
          go_loopw [21] (fun i wr' => ∃ j : Nat, j ≤ l.length ∧ i = .int .i64 (j : Int) ∧ Hid ((l.take j).all nmOk = true) ∧ wr' = wr) (fun i _ => l.length - (intOf i).toNat)
          case atStart => exact ⟨0, Nat.zero_le _, rfl, Lib.hid rfl, rfl⟩
          case round =>
            obtain ⟨j, hj, rfl, hA2, rfl⟩ := hrel
            have hji : ((j : Nat) : Int).toNat = j := by omega
            by_cases hjl : j < l.length
            · obtain ⟨x, hx⟩ : ∃ x, l[j]? = some x := ⟨_, List.getElem?_eq_getElem hjl⟩
              obtain ⟨b2, o2, d', e, -, -, -, hcx⟩ := HL.out.at_ hx
              injection e with e1 e2 e3
              clear e2
              subst e1 e3
              have HXX := Lib.hid hx
              clear hx
              rcases k1 : (decide (0 ≤ x) && decide (x ≤ 100000000)) with _ | _
              · have K1 := upTo k1
                obtain rfl : false = r := by rw [← HR.out]; exact (inOk_bad HX.out (liOk_bad HXX.out k1)).symm
                clear k1
                go_wp2_with (fail)
                go_at_call 36
                refine (c_isUpTo _ _ _ K1.out _).mono ?_
                rintro e w1 ⟨rfl, rfl⟩
                go_wp2_with (fail)
                go_ret
                exact ⟨rfl, rfl⟩
              · have K1 := upTo k1
                have HN := Lib.hid (all_take_succ hA2.out HXX.out k1)
                clear k1
                go_wp2_with (fail)
                go_at_call 36
                refine (c_isUpTo _ _ _ K1.out _).mono ?_
                rintro e w1 ⟨rfl, rfl⟩
                go_wp2_with (fail)
                go_roundw
                case rel => exact ⟨j + 1, by omega, by go_num, HN, (by first | trivial | rfl)⟩
                case measure => simp only [intOf]; omega
            · have hjj : j = l.length := by omega
              have HN := Lib.hid (all_take_succ hA.out HX.out (by
                have := hA2.out
                rw [hjj, List.take_length] at this
                unfold liOk
                rw [this, decide_eq_true g2]; rfl))
              have hge : ((l.length : Nat) : Int) ≤ (j : Int) := by omega
              clear hjj
              go_wp2_with (fail)
              go_roundw
              case rel => exact ⟨k + 1, by omega, by go_num, HN, (by first | trivial | rfl)⟩
              case measure => simp only [intOf]; omega
        · obtain rfl : false = r := by
            rw [← HR.out]
            refine (inOk_bad HX.out ?_).symm
            unfold liOk
            rw [decide_eq_false g2]; rfl
          go_wp2_with (fail)
          go_ret
          exact ⟨rfl, rfl⟩
      · obtain rfl : k = ins.length := by omega
        have hrr : r = true := by
          rw [← HR.out]
          have := hA.out
          rw [List.take_length] at this
          unfold inOk
          rw [this, decide_eq_true g]; rfl
        subst hrr
        go_wp2_with (fail)
        go_ret
        exact ⟨rfl, rfl⟩
  · obtain rfl : false = r := by
      rw [← HR.out]
      unfold inOk
      rw [decide_eq_false g]; rfl
    go_enter Try.func43, Try.ntmps43
    go_wp2_with (fail)
    go_ret
    exact ⟨rfl, rfl⟩
end Go.Proofs.Ythghinkicaafmaa
