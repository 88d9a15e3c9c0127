/-
  DERIVED. Least (stage 6).
-/
import Derived.Test.YthghinkicaafmaaBA
namespace Go.Proofs.Ythghinkicaafmaa
open Go.RowKit Go.Shelf
set_option maxRecDepth 100000

theorem enP_iff {s lim : Int} {am : List Int} {C : Int} : enP s lim am C = true ↔ ∀ m : Nat, m ≤ am.length → lvE C s (am.take m) ≤ lim := by
  unfold enP
  rw [decide_eq_true_iff, frs_none, lvs_all]
theorem enP_mono {s lim : Int} {am : List Int} {C C' : Int} (h : C ≤ C') (he : enP s lim am C = true) : enP s lim am C' = true := by
  rw [enP_iff] at he ⊢
  intro m hm
  refine Int.le_trans (lvE_mono h (am.take m) (am.take m) s s (Int.le_refl _) rfl fun i a a' h1 h2 => ?_) (he m hm)
  rw [h1] at h2
  injection h2 with h2
  omega
/-- The least Carry that keeps the limit, or the first one that is too great. -/
def lstN (s lim : Int) (am : List Int) : Nat := ((List.range 100000001).find? fun C : Nat => enP s lim am (C : Int)).getD 100000001
theorem lstN_eq {s lim : Int} {am : List Int} {r : Nat} (h : r ≤ 100000001) (h1 : 0 < r → enP s lim am ((r - 1 : Nat) : Int) = false) (h2 : r < 100000001 → enP s lim am (r : Int) = true) : lstN s lim am = r := by
  have hlow : ∀ C : Nat, C < r → enP s lim am (C : Int) = false := fun C hC => by
    rcases he : enP s lim am (C : Int) with _ | _
    · rfl
    · have := enP_mono (C' := ((r - 1 : Nat) : Int)) (by omega) he
      rw [h1 (by omega)] at this
      cases this
  unfold lstN
  rcases Nat.lt_or_ge r 100000001 with hr | hr
  · have : (List.range 100000001).find? (fun C : Nat => enP s lim am (C : Int)) = some r := by
      rw [List.find?_range_eq_some]
      refine ⟨h2 hr, List.mem_range.2 hr, fun j hj => ?_⟩
      rw [hlow j hj]; rfl
    rw [this]; rfl
  · obtain rfl : r = 100000001 := by omega
    have : (List.range 100000001).find? (fun C : Nat => enP s lim am (C : Int)) = none := by
      rw [List.find?_eq_none]
      intro C hC
      rw [hlow C (List.mem_range.1 hC)]
      decide
    rw [this]; rfl
theorem lstN_le (s lim : Int) (am : List Int) : lstN s lim am ≤ 100000001 := by
  unfold lstN
  rcases h : (List.range 100000001).find? (fun C : Nat => enP s lim am (C : Int)) with _ | C
  · exact Nat.le_refl _
  · have := List.mem_range.1 (List.mem_of_find?_eq_some h)
    exact Nat.le_of_lt this
/-- What Least answers. -/
def lstP (C : Int) (ps : List (Int × Int × Int)) (s : Int) (ins : List (List Int)) (n lim : Int) : Int × Int :=
  if fltL C ps s ins n = 0 then (if lstN s lim (amts ps ins n.toNat) ≤ 100000000 then ((lstN s lim (amts ps ins n.toNat) : Nat), 0) else (0, 7)) else (0, fltL C ps s ins n)
set_option maxHeartbeats 8000000 in
theorem c_Least (C : Int) (ps : List (Int × Int × Int)) (s : Int) (ins : List (List Int)) (n lim : Int) (P I : Value) (w : World) (hP : PtSl w P ps) (hI : LiSl w I ins) (y r : Int) (hr : lstP C ps s ins n lim = (y, r)) :
    Calls Try.prog 24 #[lnV C P, .int .i64 s, I, .int .i64 n, .int .i64 lim] w fun e w' => e = .returned (.tuple #[.int .i64 y, .int .i64 r]) ∧ Below w.heap.size w w' := by
  obtain ⟨W, hW⟩ : ∃ W, W = ((w.alloc (.cells #[.int .i64 C, P] 24)).alloc (.cells #[.int .i64 s] 3)).alloc (.cells #[.int .i64 lim] 3) := ⟨_, rfl⟩
  have B0 : Below w.heap.size w W := by subst hW; exact below_a3 _ _ _ _
  have HB := Lib.hid B0
  have HL := Lib.hid (show W.heap[w.heap.size]? = some (.cells #[.int .i64 C, P] 24 (0, 0)) by subst hW; exact old_heap _ (old_heap _ (heap_alloc_new _ _)))
  have HS := Lib.hid (show Boxed W (w.heap.size + 1) 3 (.int .i64 s) by subst hW; exact old_heap _ (row_new _ _ _ (by simp)))
  have HM := Lib.hid (show Boxed W (w.heap.size + 1 + 1) 3 (.int .i64 lim) by subst hW; exact row_new _ _ _ (by simp))
  have hz : w.heap.size + 1 + 1 < W.heap.size := HM.out.lt
  have HC := Lib.hid (fun (r1 : Int) (h1 : fltL C ps s ins n = r1) => c_fault C ps s ins n P I W (hP.on B0 (Nat.le_refl _)) (hI.on B0 (Nat.le_refl _)) r1 h1)
  have HP := Lib.hid hP
  have HI := Lib.hid hI
  obtain ⟨A, c, rfl, -, -⟩ := hP.shape
  obtain ⟨A2, c2, rfl, -, -⟩ := hI.shape
  obtain ⟨x0, x1⟩ := lin_cells HL.out
  have y1 := HS.out.cell
  unfold lnV at HC
  unfold lnV
  clear B0 hP hI
  unfold lstP at hr
  by_cases h1 : fltL C ps s ins n = 0
  · rw [if_pos h1] at hr
    obtain ⟨g1, g2, g3, g4⟩ := flt_cases h1
    obtain ⟨g5, g6, g7⟩ := lnOk_iff.1 g1
    obtain ⟨m, rfl⟩ : ∃ m : Nat, n = (m : Int) := ⟨n.toNat, by omega⟩
    rw [Int.toNat_natCast] at hr
    have hm1 : m ≤ 1000 := by omega
    have HR := Lib.hid h1
    have HAL := Lib.hid (show (amts ps ins m).length ≤ 1000 by rw [amts_len]; exact hm1)
    have HAO := Lib.hid (amts_ok g7 g6 g2 m)
    have HG4 := Lib.hid g4
    have HSQ := Lib.hid (fun (U wa : World) (hU : Below w.heap.size w U) (ha : ArW C (m : Int) (.slice A ps.length c) (.slice A2 ins.length c2) U wa) => show SeqIt 7 Try.prog 49 #[.pointer (some ⟨U.heap.size + 1 + 1, 0, none⟩), .pointer (some ⟨U.heap.size, 0, none⟩), .pointer (some ⟨U.heap.size + 1, 0, none⟩)] 0 (fun k => k < wa.heap.size) okI (amts ps ins m) wa from by
      have hu := hU.size
      have hza := ha.size
      exact c_arrivals1 7 (by omega) _ U.heap.size (U.heap.size + 1) (U.heap.size + 1 + 1) C ps ins m hm1 g7 g6 g2 _ _ w HP.out HI.out wa (below_join hU ha.bel hu) (fun k hk => by omega) (by omega) (by omega) (by omega) ha.ln ha.ip ha.nt)
    have HRR := Lib.hid hr
    clear h1 hr g1 g2 g3 g4 g5 g6 g7
    obtain ⟨am, ham⟩ : ∃ am, am = amts ps ins m := ⟨_, rfl⟩
    rw [← ham] at HAL HAO HSQ HRR
    clear ham
    go_enter Try.func24, Try.ntmps24
    go_wp2_with (fail)
    rw [← hW]
    clear hW
    go_at_call 30
    refine (HC.out _ HR.out).mono ?_
    rintro e w1 ⟨rfl, b1⟩
    have HB1 := Lib.hid (below_join HB.out b1 HB.out.size)
    have HL1 := Lib.hid ((b1.block _ (by omega)).trans HL.out)
    have HS1 := Lib.hid (show Boxed w1 (w.heap.size + 1) 3 (.int .i64 s) from (b1.block _ (by omega)).trans HS.out)
    have HM1 := Lib.hid (show Boxed w1 (w.heap.size + 1 + 1) 3 (.int .i64 lim) from (b1.block _ (by omega)).trans HM.out)
    have hz1 : w.heap.size + 1 + 1 < w1.heap.size := HM1.out.lt
    clear b1 x0 x1 y1
    obtain ⟨x0, x1⟩ := lin_cells HL1.out
    go_wp2_with (fail)
    go_at_call 35
    refine (c_arrivalsW C (.slice A ps.length c) (.slice A2 ins.length c2) (m : Int) w1 ⟨_, _, _, rfl⟩).mono ?_
    rintro e wa ⟨rfl, hwa⟩
    have HSA := Lib.hid (HSQ.out w1 wa HB1.out hwa)
    have HBA := Lib.hid (below_join HB1.out hwa.bel HB1.out.size)
    have HSa := Lib.hid (show Boxed wa (w.heap.size + 1) 3 (.int .i64 s) from (hwa.bel.block _ HS1.out.lt).trans HS1.out)
    have HMa := Lib.hid (show Boxed wa (w.heap.size + 1 + 1) 3 (.int .i64 lim) from (hwa.bel.block _ HM1.out.lt).trans HM1.out)
    clear hwa x0 x1
    unfold arF
    go_wp2_with (fail)
    go_at_call 38
    refine (c_Collect 0 _ 49 _ am HAL.out eg_ar wa (fun k h => h) HSA.out).mono ?_
    rintro e wc ⟨v, rfl, hv, hbc⟩
    have HVC := Lib.hid hv
    have HBC := Lib.hid (below_join HBA.out hbc HBA.out.size)
    have HSc := Lib.hid (show Boxed wc (w.heap.size + 1) 3 (.int .i64 s) from (hbc.block _ HSa.out.lt).trans HSa.out)
    have HMc := Lib.hid (show Boxed wc (w.heap.size + 1 + 1) 3 (.int .i64 lim) from (hbc.block _ HMa.out.lt).trans HMa.out)
    obtain ⟨A3, c3, rfl, -, -⟩ := hv.shape
    clear hbc hv
    obtain ⟨wd, hwd⟩ : ∃ wd, wd = wc.alloc (.cells #[.slice A3 am.length c3] 32) := ⟨_, rfl⟩
    have b2 : Below wc.heap.size wc wd := by subst hwd; exact (Below.refl _ _).alloc (Nat.le_refl _) _
    have HXd := Lib.hid (show Boxed wd wc.heap.size 32 (.slice A3 am.length c3) by subst hwd; exact Boxed.new _ _ _)
    have HBD := Lib.hid (below_join HBC.out b2 HBC.out.size)
    have HB2 := Lib.hid b2
    have HSd := Lib.hid (show Boxed wd (w.heap.size + 1) 3 (.int .i64 s) from (b2.block _ HSc.out.lt).trans HSc.out)
    have HMd := Lib.hid (show Boxed wd (w.heap.size + 1 + 1) 3 (.int .i64 lim) from (b2.block _ HMc.out.lt).trans HMc.out)
    clear b2
    go_wp2_with (fail)
    rw [← hwd]
    clear hwd
    go_at_call 41
    refine (c_search (w.heap.size + 1 + 1) (w.heap.size + 1) wc.heap.size 100000001 (by omega) (fun C : Nat => enP s lim am (C : Int)) wd (fun X i hX hi => c_Least1 (i : Int) s lim am ⟨by omega, by omega⟩ HG4.out HAL.out HAO.out _ wc HVC.out _ _ _ X (below_join HB2.out hX HB2.out.size) ((hX.block _ HMd.out.lt).trans HMd.out) ((hX.block _ HSd.out.lt).trans HSd.out) ((hX.block _ HXd.out.lt).trans HXd.out) _ rfl)).mono ?_
    rintro e we ⟨rr, rfl, hbe, hr1, hr2, hr3⟩
    have HBE := Lib.hid (below_join HBD.out hbe HBD.out.size)
    have HRN := Lib.hid (lstN_eq hr1 hr2 hr3)
    clear hbe hr2 hr3
    obtain ⟨z, hzz⟩ : ∃ z : Int, (rr : Int) = z := ⟨_, rfl⟩
    rw [hzz]
    by_cases hle : rr ≤ 100000000
    · have HE := Lib.hid (show (z, (0 : Int)) = (y, r) by rw [← HRR.out, HRN.out, if_pos hle, hzz])
      have hd : decide ((100000000 : Int) < z) = false := by rw [decide_eq_false_iff_not]; omega
      clear hr1 hle hzz
      go_wp2_with (fail)
      have hee := HE.out
      injection hee with e1 e2
      subst e1 e2
      exact retTT rfl rfl rfl rfl ⟨rfl, HBE.out⟩
    · have HE := Lib.hid (show ((0 : Int), (7 : Int)) = (y, r) by rw [← HRR.out, HRN.out, if_neg hle])
      have hd : decide ((100000000 : Int) < z) = true := by rw [decide_eq_true_iff]; omega
      clear hr1 hle hzz
      go_wp2_with (fail)
      have hee := HE.out
      injection hee with e1 e2
      subst e1 e2
      exact retTT rfl rfl rfl rfl ⟨rfl, HBE.out⟩
  · rw [if_neg h1] at hr
    injection hr with hy0 hr
    subst hy0
    have hne : (r != 0) = true := by rw [bne_iff_ne, ← hr]; exact h1
    have HR := Lib.hid hr
    clear hr h1
    go_enter Try.func24, Try.ntmps24
    go_wp2_with (fail)
    rw [← hW]
    clear hW
    go_at_call 30
    refine (HC.out _ HR.out).mono ?_
    rintro e w1 ⟨rfl, b1⟩
    have HB1 := Lib.hid (below_join HB.out b1 HB.out.size)
    clear b1 x0 x1 y1
    go_wp2_with (fail)
    exact retTT rfl rfl rfl rfl ⟨rfl, HB1.out⟩
end Go.Proofs.Ythghinkicaafmaa
