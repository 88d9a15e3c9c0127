/-
  DERIVED. The reference's Trips.
-/
import Derived.Test.YtomfaknemjbjcaaBU
import Derived.Test.YtomfaknemjbjcaaBP
import Derived.Test.YtomfaknemjbjcaaBQ
namespace Go.Proofs.Ytomfaknemjbjcaa
open Go.RowKit
set_option maxRecDepth 100000

theorem fltS_live {L S F q : Int} {l : List Int} (hb : bOk L S F = true) (h1 : 0 ≤ q) (h2 : q ≤ S) : fltS L S F q false l = if lsOk l = true then 0 else 2 := by
  have : tOk S q false = true := by unfold tOk; simp [h1, h2]
  unfold fltS
  rw [hb, this]
  rfl
theorem fltH_live {L S F q : Int} {l : List Int} (hb : bOk L S F = true) (h1 : 0 ≤ q) (h2 : q ≤ S) : fltH L S F q l = if lsOk l = true then 0 else 2 := by
  unfold fltH
  rw [if_pos hb, decide_eq_true h1, decide_eq_true h2, Bool.true_and, Bool.true_and]
set_option maxHeartbeats 8000000 in
theorem r_Trips (f L S F q : Int) (l : List Int) (v : Value) (w : World) (hv : IntSl w v l) (y r : Int) (hr : tripsP L S F q l = (y, r)) :
    Calls Try.prog 19 #[bkV f L S F, .int .i64 q, v] w fun e w' => e = .returned (.tuple #[.int .i64 y, .int .i64 r]) ∧ Below w.heap.size w w' := by
  obtain ⟨W, hW⟩ : ∃ W, W = w.alloc (.cells #[.int .i64 f, .int .i64 L, .int .i64 S, .int .i64 F] 23) := ⟨_, rfl⟩
  have B0 : Below w.heap.size w W := by subst hW; exact (Below.refl _ _).alloc (Nat.le_refl _) _
  have HB := Lib.hid B0
  have HK := Lib.hid (show Bk W w.heap.size f L S F by subst hW; exact bk_new _ _ _ _ _)
  have hz : w.heap.size < W.heap.size := block_lt HK.out
  have HV := Lib.hid hv
  obtain ⟨A, c, rfl, hc1, hc2⟩ := hv.shape
  unfold maxLen at hc2
  have HVa := Lib.hid (fun (r1 : Bool) (h1 : bOk L S F = r1) => r_Valid f L S F r1 h1 W)
  obtain ⟨x0, x1, x2, x3⟩ := HK.out.cells
  unfold bkV at HVa
  clear B0 hv
  unfold tripsP at hr
  rcases h1 : bOk L S F with _ | _
  · have e1 : fltH L S F q l = 1 := by unfold fltH; rw [h1]; rfl
    rw [e1, if_neg (by decide)] at hr
    injection hr with hy hr
    subst hy hr
    have H1 := Lib.hid h1
    unfold bkV
    clear h1 e1
    go_enter Try.func19, Try.ntmps19
    go_wp2_with (fail)
    rw [← hW]
    clear hW
    go_at_call 17
    refine (HVa.out _ H1.out).mono ?_
    rintro e w1 ⟨rfl, b1⟩
    have HB1 := Lib.hid (below_join HB.out b1 HB.out.size)
    clear b1 x0 x1 x2 x3
    go_wp2_with (fail)
    exact retTT rfl rfl rfl rfl ⟨rfl, HB1.out⟩
  · have H1 := Lib.hid h1
    by_cases hq : 0 ≤ q ∧ q ≤ S
    · obtain ⟨hq1, hq2⟩ := hq
      rw [fltH_live h1 hq1 hq2] at hr
      obtain ⟨cs, hcs⟩ : ∃ cs, cs = if (if lsOk l = true then (0 : Int) else 2) = 0 then (q, false) :: crs L S F (q, false) l else [] := ⟨_, rfl⟩
      obtain ⟨e0, he0⟩ : ∃ e0, e0 = (if lsOk l = true then (0 : Int) else 2) := ⟨_, rfl⟩
      have HCo := Lib.hid (fun (X : World) (hX : IntSl X (.slice A l.length c) l) => r_Course f L S F q false l _ X hX e0 (by rw [fltS_live h1 hq1 hq2, he0]) cs (by rw [hcs, he0]))
      rw [← he0] at hr hcs
      have HCS := Lib.hid hcs
      have g4 := bOk_iff.1 h1
      have hq3 : decide (q < 0) = false := decide_eq_false (by omega)
      unfold bkV stV at HCo
      unfold bkV
      by_cases hl : e0 = 0
      · subst hl
        rw [if_pos rfl] at hr
        injection hr with hy hr
        subst hr
        have HY := Lib.hid hy
        have HCE := Lib.hid (show cs = (q, false) :: crs L S F (q, false) l by rw [HCS.out]; rfl)
        clear h1 hcs he0 hy g4
        go_enter Try.func19, Try.ntmps19
        go_wp2_with (fail)
        rw [← hW]
        clear hW
        go_at_call 17
        refine (HVa.out _ H1.out).mono ?_
        rintro e w1 ⟨rfl, b1⟩
        have HB1 := Lib.hid (below_join HB.out b1 HB.out.size)
        have HK1 := Lib.hid (HK.out.on b1 hz)
        have HI1 := Lib.hid (HV.out.on HB1.out (Nat.le_refl _))
        clear b1 x0 x1 x2 x3
        obtain ⟨x0, x1, x2, x3⟩ := HK1.out.cells
        go_wp2_with (fail)
        go_at_call 14
        refine (HCo.out _ HI1.out).mono ?_
        rintro e w2 ⟨cv, rfl, hst, b2⟩
        have HB2 := Lib.hid (below_join HB1.out b2 HB1.out.size)
        have hlen : cs.length = l.length + 1 := by rw [HCE.out]; simp [crs_len]
        have HS2 := Lib.hid hst
        obtain ⟨Ac, cc, rfl, hcc1, hcc2⟩ := hst.shape
        unfold maxLen at hcc2
        clear b2 hst x0 x1 x2 x3
        go_wp2_with (fail)
        go_loop [35] (fun n => ∃ k : Nat, k ≤ l.length ∧ n = .int .i64 k ∧ Hid (∀ i, i < k → ((crs L S F (q, false) l)[i]?.map (·.2)) = some false)) (fun n => l.length - (intOf n).toNat)
        case atStart => exact ⟨0, Nat.zero_le _, rfl, Lib.hid (fun i hi => absurd hi (by omega))⟩
        case round =>
          obtain ⟨k, hk, rfl, hun⟩ := hrel
          by_cases hlt : k < l.length
          · obtain ⟨x, hx⟩ : ∃ x, (crs L S F (q, false) l)[k]? = some x := ⟨_, List.getElem?_eq_getElem (by rw [crs_len]; exact hlt)⟩
            have hxc : cs[k + 1]? = some x := by rw [HCE.out]; exact hx
            obtain ⟨b, o, c', e, -, -, -, -, hcell⟩ := HS2.out.at_ hxc
            injection e with e1 _ e2
            subst e1 e2
            have HX := Lib.hid hx
            obtain ⟨xa, xb⟩ := x
            have hki : ((k : Int) + 1).toNat = k + 1 := by omega
            have hk0 : 0 ≤ (k : Int) + 1 := by omega
            have hk1 : (k : Int) + 1 < ((cs.length : Nat) : Int) := by omega
            clear hx hxc
            cases xb
            · go_wp2_with (fail)
              go_round
              case rel => exact ⟨k + 1, by omega, by go_num, Lib.hid (fun i hi => by
                rcases Nat.lt_or_ge i k with h | h
                · exact hun.out i h
                · obtain rfl : i = k := by omega
                  rw [HX.out]; rfl)⟩
              case measure => simp only [intOf]; omega
            · have HK2 := Lib.hid (show (k : Int) = y by rw [← HY.out, trp_crs L S F l (q, false) k hun.out (by rw [HX.out]; rfl)]; rfl)
              go_wp2_with (fail)
              exact retTT rfl rfl rfl rfl ⟨(show Ending.returned (.tuple #[.int .i64 (k : Int), .int .i64 0]) = .returned (.tuple #[.int .i64 y, .int .i64 0]) by rw [HK2.out]), HB2.out⟩
          · obtain rfl : k = l.length := by omega
            have HK2 := Lib.hid (show (-1 : Int) = y by rw [← HY.out, trp_none L S F l (q, false) hun.out]; rfl)
            go_wp2_with (fail)
            exact retTT rfl rfl rfl rfl ⟨(show Ending.returned (.tuple #[.int .i64 (-1), .int .i64 0]) = .returned (.tuple #[.int .i64 y, .int .i64 0]) by rw [HK2.out]), HB2.out⟩
      · rw [if_neg hl] at hr
        injection hr with hy hr
        subst hy hr
        have hne : (e0 == 0) = false := by rw [beq_eq_false_iff_ne]; exact hl
        clear h1 hcs he0 hl g4
        go_enter Try.func19, Try.ntmps19
        go_wp2_with (fail)
        rw [← hW]
        clear hW
        go_at_call 17
        refine (HVa.out _ H1.out).mono ?_
        rintro e w1 ⟨rfl, b1⟩
        have HB1 := Lib.hid (below_join HB.out b1 HB.out.size)
        have HK1 := Lib.hid (HK.out.on b1 hz)
        have HI1 := Lib.hid (HV.out.on HB1.out (Nat.le_refl _))
        clear b1 x0 x1 x2 x3
        obtain ⟨x0, x1, x2, x3⟩ := HK1.out.cells
        go_wp2_with (fail)
        go_at_call 14
        refine (HCo.out _ HI1.out).mono ?_
        rintro e w2 ⟨cv, rfl, hst, b2⟩
        have HB2 := Lib.hid (below_join HB1.out b2 HB1.out.size)
        obtain ⟨Ac, cc, rfl, hcc1, hcc2⟩ := hst.shape
        clear b2 hst x0 x1 x2 x3
        go_wp2_with (fail)
        exact retTT rfl rfl rfl rfl ⟨rfl, HB2.out⟩
    · have e1 : fltH L S F q l = 2 := by
        unfold fltH
        rw [if_pos h1, if_neg]
        simp only [Bool.and_eq_true, decide_eq_true_eq]
        omega
      rw [e1, if_neg (by decide)] at hr
      injection hr with hy hr
      subst hy hr
      have hc : decide (q < 0) = true ∨ (decide (q < 0) = false ∧ decide (S < q) = true) := by
        by_cases h : q < 0
        · exact .inl (decide_eq_true h)
        · exact .inr ⟨decide_eq_false h, decide_eq_true (by omega)⟩
      unfold bkV
      clear h1 e1 hq
      rcases hc with d1 | ⟨d1, d2⟩
      all_goals
        go_enter Try.func19, Try.ntmps19
        go_wp2_with (fail)
        rw [← hW]
        clear hW
        go_at_call 17
        refine (HVa.out _ H1.out).mono ?_
        rintro e w1 ⟨rfl, b1⟩
        have HB1 := Lib.hid (below_join HB.out b1 HB.out.size)
        have HK1 := Lib.hid (HK.out.on b1 hz)
        clear b1 x0 x1 x2 x3
        obtain ⟨x0, x1, x2, x3⟩ := HK1.out.cells
        go_wp2_with (fail)
        exact retTT rfl rfl rfl rfl ⟨rfl, HB1.out⟩
end Go.Proofs.Ytomfaknemjbjcaa
