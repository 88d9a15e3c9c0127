/-
  DERIVED. The reference's First and Peak (stage 6).
-/
import Derived.Test.YthghinkicaafmaaBP
import Derived.Test.YthghinkicaafmaaBB
namespace Go.Proofs.Ythghinkicaafmaa
open Go.RowKit
set_option maxRecDepth 100000

theorem crsP_len (C : Int) (ps : List (Int × Int × Int)) (s : Int) (ins : List (List Int)) (m : Nat) : (crsP C ps s ins (m : Int)).length = m + 1 := by
  unfold crsP
  rw [List.length_cons, lvs_len, amts_len, Int.toNat_natCast]
set_option maxHeartbeats 8000000 in
theorem d_First (C : Int) (ps : List (Int × Int × Int)) (s : Int) (ins : List (List Int)) (n lim : Int) (P I : Value) (w : World) (hP : PtSl w P ps) (hI : LiSl w I ins) (y r : Int) (hr : fltL C ps s ins n = r) (hy : y = if r = 0 then fstP C ps s ins n lim else 0) :
    Calls Try.prog 23 #[lnV C P, .int .i64 s, I, .int .i64 n, .int .i64 lim] w fun e w' => e = .returned (.tuple #[.int .i64 y, .int .i64 r]) ∧ Below w.heap.size w w' := by
  obtain ⟨W, hW⟩ : ∃ W, W = w.alloc (.cells #[.int .i64 C, P] 24) := ⟨_, rfl⟩
  have B0 : Below w.heap.size w W := by subst hW; exact (Below.refl _ _).alloc (Nat.le_refl _) _
  have HB := Lib.hid B0
  have HL := Lib.hid (show W.heap[w.heap.size]? = some (.cells #[.int .i64 C, P] 24 (0, 0)) by subst hW; exact heap_alloc_new _ _)
  obtain ⟨cs, hcs⟩ : ∃ cs, cs = if r = 0 then crsP C ps s ins n else [] := ⟨_, rfl⟩
  have HC := Lib.hid (d_Course C ps s ins n P I W (hP.on B0 (Nat.le_refl _)) (hI.on B0 (Nat.le_refl _)) r hr cs hcs)
  obtain ⟨A, c, rfl, -, -⟩ := hP.shape
  obtain ⟨A2, c2, rfl, -, -⟩ := hI.shape
  obtain ⟨x0, x1⟩ := lin_cells HL.out
  unfold lnV at HC
  unfold lnV
  clear B0 hP hI
  by_cases h1 : r = 0
  · subst h1
    rw [if_pos rfl] at hy hcs
    obtain ⟨g1, g2, g3, g4⟩ := flt_cases hr
    obtain ⟨m, rfl⟩ : ∃ m : Nat, n = (m : Int) := ⟨n.toNat, by omega⟩
    have hm1 : m ≤ 1000 := by omega
    have HLN := Lib.hid (show cs.length = m + 1 by rw [hcs]; exact crsP_len _ _ _ _ _)
    have HY := Lib.hid (show y = frs lim cs by rw [hy, hcs]; rfl)
    clear hr hy g1 g2 g3 hcs
    go_enter Try.func23, Try.ntmps23
    go_wp2_with (fail)
    rw [← hW]
    clear hW
    go_at_call 14
    refine HC.out.mono ?_
    rintro e w1 ⟨v, rfl, hv, b1⟩
    have HB1 := Lib.hid (below_join HB.out b1 HB.out.size)
    have HV := Lib.hid hv
    obtain ⟨Av, cv, rfl, -, -⟩ := hv.shape
    clear hv b1 x0 x1
    go_wp2_with (fail)
    go_loopw [14] (fun i wx => ∃ t : Nat, i = .int .i64 (t : Int) ∧ t ≤ m + 1 ∧ wx = w1 ∧ Hid (∀ (j : Nat) (z : Int), j < t → cs[j]? = some z → z ≤ lim)) (fun i _ => m + 1 - (intOf i).toNat)
    case atStart => exact ⟨0, rfl, Nat.zero_le _, rfl, Lib.hid (fun j z h _ => absurd h (Nat.not_lt_zero _))⟩
    case round =>
      obtain ⟨t, rfl, ht, rfl, hlow⟩ := hrel
      have hti : ((t : Nat) : Int).toNat = t := by omega
      by_cases hlt : t ≤ m
      · obtain ⟨x, hx⟩ : ∃ x, cs[t]? = some x := ⟨_, List.getElem?_eq_getElem (by have := HLN.out; omega)⟩
        have HXX := Lib.hid hx
        obtain ⟨b, o, c', e, -, -, -, hcx⟩ := HV.out.at_ hx
        injection e with e1 _ e2
        subst e1 e2
        have htm : (t : Int) ≤ (m : Int) := by omega
        have htc : (t : Int) < ((cs.length : Nat) : Int) := by have := HLN.out; omega
        have ht1000 : t ≤ 1000 := by omega
        have HLT := Lib.hid hlt
        clear hx hlt
        rcases hd : decide (lim < x) with _ | _
        · have hxl := of_decide_eq_false hd
          have HXL := Lib.hid (show x ≤ lim by omega)
          clear hxl
          go_wp2_with (fail)
          go_roundw
          case rel => exact ⟨t + 1, by go_num, by (have := HLT.out; omega), by trivial, Lib.hid (fun j z hj hz => by
            rcases Nat.lt_or_ge j t with h | h
            · exact hlow.out j z h hz
            · obtain rfl : j = t := by omega
              rw [HXX.out] at hz
              injection hz with hz
              rw [← hz]; exact HXL.out)⟩
          case measure => (have := HLT.out; simp only [intOf]; omega)
        · have HYE := Lib.hid (show (t : Int) = y by rw [HY.out]; exact (frs_at HXX.out (of_decide_eq_true hd) hlow.out).symm)
          go_wp2_with (fail)
          exact retTT rfl rfl rfl rfl ⟨(show Ending.returned (.tuple #[.int .i64 (t : Int), .int .i64 0]) = .returned (.tuple #[.int .i64 y, .int .i64 0]) by rw [HYE.out]), HB1.out⟩
      · obtain hte : t = m + 1 := by omega
        have htm : ¬ (t : Int) ≤ (m : Int) := by omega
        have HYE := Lib.hid (show (-1 : Int) = y by
          rw [HY.out]
          refine (frs_none.2 fun x hx => ?_).symm
          obtain ⟨j, hj⟩ := List.getElem?_of_mem hx
          exact hlow.out j x (by have := (List.getElem?_eq_some_iff.1 hj).1; have := HLN.out; omega) hj)
        clear hte hlt
        go_wp2_with (fail)
        exact retTT rfl rfl rfl rfl ⟨(show Ending.returned (.tuple #[.int .i64 (-1), .int .i64 0]) = .returned (.tuple #[.int .i64 y, .int .i64 0]) by rw [HYE.out]), HB1.out⟩
  · have hne : (r != 0) = true := by rw [bne_iff_ne]; exact h1
    rw [if_neg h1] at hy
    subst hy
    clear hr h1 hcs
    go_enter Try.func23, Try.ntmps23
    go_wp2_with (fail)
    rw [← hW]
    clear hW
    go_at_call 14
    refine HC.out.mono ?_
    rintro e w1 ⟨v, rfl, hv, b1⟩
    have HB1 := Lib.hid (below_join HB.out b1 HB.out.size)
    clear hv b1 x0 x1
    go_wp2_with (fail)
    exact retTT rfl rfl rfl rfl ⟨rfl, HB1.out⟩
end Go.Proofs.Ythghinkicaafmaa
