/-
  DERIVED. The law LinearLeast: the walk (stage 6).
-/
import Derived.Test.YtpmbeejhjoeliaaBG
namespace Go.Proofs.Ytpmbeejhjoeliaa
open Go.RowKit
set_option maxRecDepth 100000

theorem lin_box {X : World} {b : Nat} {C C' : Int} {P : Value} (h : X.heap[b]? = some (.cells #[.int .i64 C, P] 24 (0, 0))) : (X.setCell ⟨b, 0, none⟩ (.int .i64 C')).heap[b]? = some (.cells #[.int .i64 C', P] 24 (0, 0)) := set_field h _
theorem lin_frozen {X : World} {b : Nat} {C : Int} {P : Value} (h : X.heap[b]? = some (.cells #[.int .i64 C, P] 24 (0, 0))) : X.frozen? ⟨b, 0, none⟩ = false := by simp [World.frozen?, h]
set_option maxHeartbeats 16000000 in
theorem w_LinearLeast (c s n t0 t1 d0 d1 : Nat) (hc : c ≤ 255 ∧ s ≤ 255 ∧ n ≤ 255 ∧ t0 ≤ 255 ∧ t1 ≤ 255 ∧ d0 ≤ 255 ∧ d1 ≤ 255) (A B : Value) (la lb : List Nat) (lm : Nat) (hlm : lm ≤ 255) (w : World) (hA : U8Sl w A la) (hB : U8Sl w B lb) :
    Calls Try.prog 8 #[smallV c s n t0 t1 d0 d1 A B, .int .u8 (lm : Int)] w fun e w' => e = .returned (.bool true) ∧ Below w.heap.size w w' := by
  obtain ⟨N, hN⟩ : ∃ N, N = n % 41 := ⟨_, rfl⟩
  have hN40 : N ≤ 40 := by omega
  obtain ⟨ps, hps⟩ : ∃ ps, ps = mdN t0 t1 d0 d1 := ⟨_, rfl⟩
  obtain ⟨ins, hins⟩ : ∃ ins, ins = [ldL la, ldL lb] := ⟨_, rfl⟩
  have hflt : ∀ C : Int, 0 ≤ C ∧ C ≤ 100000000 → fltL C ps (s : Int) ins (N : Int) = 0 := fun C hC => by rw [hps, hins]; exact flt_small hC (by omega) (by omega) (by omega) (by omega) (ldL_ok hA.small) (ldL_ok hB.small)
  obtain ⟨am, ham⟩ : ∃ am, am = amts ps ins N := ⟨_, rfl⟩
  have hal : am.length = N := by rw [ham]; exact amts_len _ _ _
  have has : ∀ a ∈ am, 0 ≤ a ∧ a ≤ 1530 := fun a ha => by
    rw [ham] at ha
    unfold amts at ha
    obtain ⟨t, -, rfl⟩ := List.mem_map.1 ha
    rw [hps, hins]
    have := arr_small (r0 := ((d0 % 9 : Nat) : Int)) (r1 := ((d1 % 9 : Nat) : Int)) (ins := [ldL la, ldL lb]) (q0 := ((t0 % 4 : Nat) : Int)) (q1 := ((t1 % 4 : Nat) : Int)) (by omega) (M := 255) (by omega) (fun l hl x hx => by
      rcases List.mem_cons.1 hl with rfl | hl
      · exact ldL_small hA.small x hx
      · rw [List.mem_singleton.1 hl] at hx; exact ldL_small hB.small x hx) (t : Int)
    unfold mdN
    omega
  obtain ⟨R, hR⟩ : ∃ R, R = lstN (s : Int) (lm : Int) am := ⟨_, rfl⟩
  have HM := Lib.hid (fun (X : World) (hX : Below w.heap.size w X) => c_madeN c s n t0 t1 d0 d1 hc A B la lb N hN X (hA.on hX (Nat.le_refl _)) (hB.on hX (Nat.le_refl _)))
  have HLE := Lib.hid (fun (y r : Int) (hy : (if R ≤ 100000000 then ((R : Int), (0 : Int)) else (0, 7)) = (y, r)) (X : World) (P I : Value) (hP : PtSl X P ps) (hI : LiSl X I ins) => c_Least (c : Int) ps (s : Int) ins (N : Int) (lm : Int) P I X hP hI y r (by unfold lstP; rw [if_pos (hflt _ (by omega)), Int.toNat_natCast, ← ham, ← hR]; exact hy))
  have HFI := Lib.hid (fun (C : Int) (hC : 0 ≤ C ∧ C ≤ 100000000) (y : Int) (hy : y = frs (lm : Int) ((s : Int) :: lvs C (s : Int) am)) (X : World) (P I : Value) (hP : PtSl X P ps) (hI : LiSl X I ins) => c_First C ps (s : Int) ins (N : Int) (lm : Int) P I X hP hI y 0 (hflt C hC) (by rw [if_pos rfl]; unfold fstP crsP; rw [Int.toNat_natCast, ← ham]; exact hy))
  have HPK := Lib.hid (fun (C : Int) (hC : 0 ≤ C ∧ C ≤ 100000000) (y1 y2 : Int) (hy : (y1, y2) = pkGo 0 (0, 0) ((s : Int) :: lvs C (s : Int) am)) (X : World) (P I : Value) (hP : PtSl X P ps) (hI : LiSl X I ins) => c_Peak C ps (s : Int) ins (N : Int) P I X hP hI y1 y2 0 (hflt C hC) (by rw [if_pos rfl]; unfold pkP crsP; rw [Int.toNat_natCast, ← ham]; exact hy))
  have HCO := Lib.hid (fun (C : Int) (hC : 0 ≤ C ∧ C ≤ 100000000) (X : World) (P I : Value) (hP : PtSl X P ps) (hI : LiSl X I ins) => c_Course C ps (s : Int) ins (N : Int) P I X hP hI 0 (hflt C hC) ((s : Int) :: lvs C (s : Int) am) (by rw [if_pos rfl]; unfold crsP; rw [Int.toNat_natCast, ← ham]))
  rw [← hps] at HM
  have HIN := Lib.hid hins
  obtain ⟨W, hW⟩ : ∃ W, W = w.alloc (.cells #[.int .u8 (c : Int), .int .u8 (s : Int), .int .u8 (n : Int), .int .u8 (t0 : Int), .int .u8 (t1 : Int), .int .u8 (d0 : Int), .int .u8 (d1 : Int), A, B] 48) := ⟨_, rfl⟩
  have HB0 := Lib.hid (show Below w.heap.size w W by subst hW; exact (Below.refl _ _).alloc (Nat.le_refl _) _)
  have HX0 := Lib.hid (show W.heap[w.heap.size]? = some (.cells #[.int .u8 (c : Int), .int .u8 (s : Int), .int .u8 (n : Int), .int .u8 (t0 : Int), .int .u8 (t1 : Int), .int .u8 (d0 : Int), .int .u8 (d1 : Int), A, B] 48 (0, 0)) by subst hW; exact heap_alloc_new _ _)
  have hzW := at_lt HX0.out
  have hsb : IntKind.i64.wrap (s : Int) = s := by rw [IntKind.wrap_i64]; omega
  have hlb : IntKind.i64.wrap (lm : Int) = lm := by rw [IntKind.wrap_i64]; omega
  have HRS := Lib.hid (fun (h : lm < s) => show R = 100000001 by rw [hR]; exact lstN_none (by omega))
  have HRL := Lib.hid (fun (h : s ≤ lm) => show R ≤ 100000000 by rw [hR]; exact lstN_small (by omega) (by omega) has)
  have HRP := Lib.hid (fun (h : R ≤ 100000000) => show enP (s : Int) (lm : Int) am (R : Int) = true ∧ ∀ C : Nat, C < R → enP (s : Int) (lm : Int) am (C : Int) = false by rw [hR] at h ⊢; exact lstN_spec h)
  unfold lnV at HM HLE HFI HPK HCO
  unfold smallV at HM ⊢
  clear hA hB hflt ham hN hps hins has hR
  go_enter Try.func8, Try.ntmps8
  go_wp2_with (fail)
  rw [← hW]
  clear hW
  go_at_call 26
  refine (HM.out W HB0.out).mono ?_
  rintro e w1 ⟨P, I, rfl, hmd⟩
  have HP1 := Lib.hid hmd.pt
  have HI1 := Lib.hid (show LiSl w1 I ins by rw [HIN.out]; exact hmd.li)
  have HB1 := Lib.hid (below_join HB0.out hmd.bel HB0.out.size)
  have HX1 := Lib.hid ((hmd.bel.block _ hzW).trans HX0.out)
  obtain ⟨A1, c1, rfl, -, -⟩ := hmd.pt.shape
  obtain ⟨A2, c2, rfl, -, -⟩ := HI1.out.shape
  clear hmd
  obtain ⟨W1, hW1⟩ : ∃ W1, W1 = w1.alloc (.cells #[.int .i64 (c : Int), .slice A1 ps.length c1] 24) := ⟨_, rfl⟩
  have b1 : Below w1.heap.size w1 W1 := by subst hW1; exact (Below.refl _ _).alloc (Nat.le_refl _) _
  have HBW := Lib.hid (below_join HB1.out b1 HB1.out.size)
  have HL1 := Lib.hid (show W1.heap[w1.heap.size]? = some (.cells #[.int .i64 (c : Int), .slice A1 ps.length c1] 24 (0, 0)) by subst hW1; exact heap_alloc_new _ _)
  have x2 : W1.cell? ⟨w.heap.size, 1, none⟩ = some (.int .u8 (s : Int)) := smallV_cells ((b1.block _ (at_lt HX1.out)).trans HX1.out)
  have HS := Lib.hid (fun (X : World) (hX : But w1.heap.size W1 X) => (⟨HP1.out.but b1 hX (Nat.le_refl _), HI1.out.but b1 hX (Nat.le_refl _)⟩ : PtSl X (.slice A1 ps.length c1) ps ∧ LiSl X (.slice A2 ins.length c2) ins))
  have hwz : w.heap.size ≤ w1.heap.size := HB1.out.size
  clear b1
  go_wp2_with (fail)
  rw [← hW1]
  clear hW1
  go_quiet (fail)
  obtain ⟨x0, x1⟩ := lin_cells HL1.out
  clear x2
  go_wp2_with (fail)
  go_at_call 24
  rcases Nat.lt_or_ge lm s with hls | hls
  · refine (HLE.out 0 7 (by rw [if_neg (by rw [HRS.out hls]; omega)]) _ _ _ (HS.out _ (But.drewN _)).1 (HS.out _ (But.drewN _)).2).mono ?_
    rintro e w2 ⟨rfl, b2⟩
    have HB2 := Lib.hid (((But.drewN (b := w1.heap.size) _).trans (But.of_below b2 (Nat.le_refl _))).below HBW.out hwz)
    have hls' : (lm : Int) < (s : Int) := by omega
    clear b2 x0 x1
    go_wp2_with (fail)
    go_at_call 21
    refine (c_works _).mono ?_
    rintro e w7 ⟨rfl, b7⟩
    have HB7 := Lib.hid (below_join HB2.out b7 HB2.out.size)
    clear b7
    go_wp2_with (fail)
    go_ret
    exact ⟨rfl, HB7.out⟩
  · have hR8 := HRL.out hls
    obtain ⟨hen, hlow⟩ := HRP.out hR8
    have HEN := Lib.hid hen
    have HLOW := Lib.hid hlow
    have HR8 := Lib.hid hR8
    clear hen hlow hR8
    refine (HLE.out (R : Int) 0 (by rw [if_pos HR8.out]) _ _ _ (HS.out _ (But.drewN _)).1 (HS.out _ (But.drewN _)).2).mono ?_
    rintro e w2 ⟨rfl, b2⟩
    have hBu := (But.drewN (b := w1.heap.size) _).trans (But.of_below (b := w1.heap.size) b2 (Nat.le_refl _))
    have HBu := Lib.hid hBu
    have HL2 := Lib.hid ((b2.block _ (show w1.heap.size < W1.heap.size from at_lt HL1.out)).trans HL1.out)
    have hls' : ¬ (lm : Int) < (s : Int) := by omega
    obtain ⟨Z1, hZ1⟩ : ∃ Z1, Z1 = w2.setCell ⟨w1.heap.size, 0, none⟩ (.int .i64 (R : Int)) := ⟨_, rfl⟩
    have HBz := Lib.hid (show But w1.heap.size W1 Z1 by subst hZ1; exact hBu.trans (But.store _ _))
    have HLz := Lib.hid (show Z1.heap[w1.heap.size]? = some (.cells #[.int .i64 (R : Int), .slice A1 ps.length c1] 24 (0, 0)) by subst hZ1; exact lin_box HL2.out)
    clear b2 x0 x1 hBu
    obtain ⟨x0, -⟩ := lin_cells HL2.out
    have f0 := lin_frozen HL2.out
    obtain ⟨y0, y1⟩ := lin_cells HLz.out
    rw [hZ1] at y0 y1
    go_wp2_with (fail)
    rw [← hZ1]
    clear hZ1 y0 y1 x0 f0
    go_at_call 22
    have hno : frs (lm : Int) ((s : Int) :: lvs (R : Int) (s : Int) am) = -1 := by
      have := HEN.out
      unfold enP at this
      exact of_decide_eq_true this
    refine (HFI.out (R : Int) ⟨by omega, by have := HR8.out; omega⟩ (-1) hno.symm Z1 _ _ (HS.out _ HBz.out).1 (HS.out _ HBz.out).2).mono ?_
    rintro e w3 ⟨rfl, b3⟩
    have HB3 := Lib.hid (HBz.out.trans (But.of_below b3 (Nat.le_refl _)))
    have HL3 := Lib.hid ((b3.block _ (at_lt HLz.out)).trans HLz.out)
    clear b3
    obtain ⟨x0, x1⟩ := lin_cells HL3.out
    obtain ⟨⟨p1, p2⟩, hpk⟩ : ∃ p, p = pkGo 0 (0, 0) ((s : Int) :: lvs (R : Int) (s : Int) am) := ⟨_, rfl⟩
    have hple : p2 ≤ (lm : Int) := by
      have h1 := (pkGo_le (lm : Int) ((s : Int) :: lvs (R : Int) (s : Int) am) 0 (0, 0)).2 ⟨by show (0 : Int) ≤ _; omega, frs_none.1 hno⟩
      rw [← hpk] at h1
      exact h1
    have hpd : decide ((lm : Int) < p2) = false := by rw [decide_eq_false_iff_not]; omega
    have HPE := Lib.hid (HPK.out (R : Int) ⟨by omega, by have := HR8.out; omega⟩ p1 p2 hpk w3 _ _ (HS.out _ HB3.out).1 (HS.out _ HB3.out).2)
    clear hpk hple hno
    go_wp2_with (fail)
    go_at_call 18
    refine HPE.out.mono ?_
    rintro e w4 ⟨rfl, b4⟩
    have HB4 := Lib.hid (HB3.out.trans (But.of_below b4 (Nat.le_refl _)))
    have HL4 := Lib.hid ((b4.block _ (at_lt HL3.out)).trans HL3.out)
    clear b4 x0 x1
    by_cases hR0 : R = 0
    · subst hR0
      have HBW4 := Lib.hid (HB4.out.below HBW.out hwz)
      go_wp2_with (fail)
      go_at_call 21
      refine (c_works _).mono ?_
      rintro e w7 ⟨rfl, b7⟩
      have HB7 := Lib.hid (below_join HBW4.out b7 HBW4.out.size)
      clear b7
      go_wp2_with (fail)
      go_ret
      exact ⟨rfl, HB7.out⟩
    · have hRb : ((R : Int) == 0) = false := by rw [beq_eq_false_iff_ne]; omega
      obtain ⟨Q, hQ⟩ : ∃ Q : Nat, (Q : Int) = (R : Int) - 1 := ⟨R - 1, by omega⟩
      have HQ8 := Lib.hid (show (0 : Int) ≤ (Q : Int) ∧ (Q : Int) ≤ 100000000 by have := HR8.out; omega)
      have hen2 := HLOW.out Q (by omega)
      have hat : frs (lm : Int) ((s : Int) :: lvs (Q : Int) (s : Int) am) ≠ -1 := by
        unfold enP at hen2
        exact of_decide_eq_false hen2
      obtain ⟨i, x, hi, hx, hlx, hlow2⟩ := frs_some hat
      have HFQ := Lib.hid (fun (X : World) (P I : Value) (hP : PtSl X P ps) (hI : LiSl X I ins) => HFI.out (Q : Int) HQ8.out (i : Int) hi.symm X P I hP hI)
      have HCQ := Lib.hid (fun (X : World) (P I : Value) (hP : PtSl X P ps) (hI : LiSl X I ins) => HCO.out (Q : Int) HQ8.out X P I hP hI)
      obtain ⟨cs, hcs⟩ : ∃ cs, cs = (s : Int) :: lvs (Q : Int) (s : Int) am := ⟨_, rfl⟩
      have hcl : cs.length = N + 1 := by rw [hcs, List.length_cons, lvs_len, hal]
      have HCL := Lib.hid hcl
      clear hcl
      rw [← hcs] at HCQ hx hlow2
      have HLO := Lib.hid hlow2
      have HXX := Lib.hid hx
      have HIL := Lib.hid (List.getElem?_eq_some_iff.1 hx).1
      obtain ⟨Z2, hZ2⟩ : ∃ Z2, Z2 = w4.setCell ⟨w1.heap.size, 0, none⟩ (.int .i64 ((R : Int) - 1)) := ⟨_, rfl⟩
      have HB5 := Lib.hid (show But w1.heap.size W1 Z2 by subst hZ2; exact HB4.out.trans (But.store _ _))
      have HL5 := Lib.hid (show Z2.heap[w1.heap.size]? = some (.cells #[.int .i64 (Q : Int), .slice A1 ps.length c1] 24 (0, 0)) by subst hZ2; rw [hQ]; exact lin_box HL4.out)
      have HQE := Lib.hid hQ
      have hwr : IntKind.i64.wrap ((R : Int) - 1) = (R : Int) - 1 := by have := HR8.out; rw [IntKind.wrap_i64]; omega
      clear hat hi hx hlow2 hcs hen2 hQ
      obtain ⟨x0, -⟩ := lin_cells HL4.out
      have f0 := lin_frozen HL4.out
      obtain ⟨y0, y1⟩ := lin_cells HL5.out
      rw [HQE.out] at y0
      rw [hZ2] at y0 y1
      go_wp2_with (fail)
      rw [← hZ2]
      clear hZ2 y0 y1 x0 f0
      rw [← HQE.out]
      go_at_call 22
      refine (HFQ.out Z2 _ _ (HS.out _ HB5.out).1 (HS.out _ HB5.out).2).mono ?_
      rintro e w6 ⟨rfl, b6⟩
      have HB6 := Lib.hid (HB5.out.trans (But.of_below b6 (Nat.le_refl _)))
      have HL6 := Lib.hid ((b6.block _ (at_lt HL5.out)).trans HL5.out)
      clear b6
      obtain ⟨x0, x1⟩ := lin_cells HL6.out
      go_wp2_with (fail)
      go_at_call 13
      refine (HCQ.out w6 _ _ (HS.out _ HB6.out).1 (HS.out _ HB6.out).2).mono ?_
      rintro e w7 ⟨y, rfl, hy, b7⟩
      have HB7 := Lib.hid (HB6.out.trans (But.of_below b7 (Nat.le_refl _)))
      have HY := Lib.hid hy
      obtain ⟨Ay, cy, rfl, -, -⟩ := hy.shape
      obtain ⟨b', o', c', e', hbl, -, -, hcell⟩ := HY.out.at_ HXX.out
      injection e' with e1 _ e2
      subst e1 e2
      have hic : (i : Int) < ((cs.length : Nat) : Int) := by have := HIL.out; omega
      have g1 : decide (((cs.length : Nat) : Int) ≤ (i : Int)) = false := by rw [decide_eq_false_iff_not]; omega
      have g2 : decide (x ≤ (lm : Int)) = false := by rw [decide_eq_false_iff_not]; omega
      have hii : ((i : Nat) : Int).toNat = i := by omega
      clear b7 hy x0 x1
      go_wp2_with (fail)
      have hilt := HIL.out
      have hi40 : i ≤ 40 := by have := HCL.out; omega
      clear hcell g1 g2 hic hpd
      go_loopw [19] (fun v wx => ∃ t m : Nat, v = .int .i64 (t : Int) ∧ t ≤ i ∧ wx = w7.drewN m) (fun v _ => i - (intOf v).toNat)
      case atStart => exact ⟨0, 0, rfl, Nat.zero_le _, rfl⟩
      case round =>
        obtain ⟨t, m, rfl, ht, rfl⟩ := hrel
        have hti : ((t : Nat) : Int).toNat = t := by omega
        by_cases hlt : t < i
        · have hlt' : (t : Int) < (i : Int) := by omega
          have HLT := Lib.hid hlt
          obtain ⟨z, hz⟩ : ∃ z, cs[t]? = some z := ⟨_, List.getElem?_eq_getElem (by omega)⟩
          have hzl := HLO.out t z hlt hz
          obtain ⟨b2, o2, c2', e2', -, -, -, hcz⟩ := HY.out.at_ hz
          injection e2' with e1 _ e2
          injection e1 with e1
          injection e1 with e3 e4
          subst e2 e3 e4
          have htc : (t : Int) < ((cs.length : Nat) : Int) := by omega
          have g3 : decide ((lm : Int) < z) = false := by rw [decide_eq_false_iff_not]; omega
          clear hz hzl
          go_wp2_with (fail)
          go_roundw
          case rel => exact ⟨t + 1, m, by go_num, HLT.out, rfl⟩
          case measure => have := HLT.out; simp only [intOf]; omega
        · obtain rfl : i = t := by omega
          have HBW7 := Lib.hid (drew_below (HB7.out.below HBW.out hwz) ⟨m, rfl⟩)
          go_wp2_with (fail)
          go_at_call 21
          refine (c_works _).mono ?_
          rintro e w8 ⟨rfl, b8⟩
          have HB8 := Lib.hid (below_join HBW7.out b8 HBW7.out.size)
          clear b8
          go_wp2_with (fail)
          go_ret
          exact ⟨rfl, HB8.out⟩
theorem row_LinearLeast (w : World) (c s n t0 t1 d0 d1 : Nat) (hc : c ≤ 255 ∧ s ≤ 255 ∧ n ≤ 255 ∧ t0 ≤ 255 ∧ t1 ≤ 255 ∧ d0 ≤ 255 ∧ d1 ≤ 255) (A B : Value) (la lb : List Nat) (hA : U8Sl w A la) (hB : U8Sl w B lb) (lm : Nat) (hlm : lm ≤ 255) :
    Calls Try.prog 8 #[smallV c s n t0 t1 d0 d1 A B, .int .u8 (lm : Int)] w fun e w' => e = .returned (.bool true) ∧ Below w.heap.size w w' := w_LinearLeast c s n t0 t1 d0 d1 hc A B la lb lm hlm w hA hB
end Go.Proofs.Ytpmbeejhjoeliaa
