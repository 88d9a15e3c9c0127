/-
  DERIVED. The law LinearRises: the walk (stage 6).
-/
import Derived.Test.YtpmbeejhjoeliaaBN
namespace Go.Proofs.Ytpmbeejhjoeliaa
open Go.RowKit
set_option maxRecDepth 100000

set_option maxHeartbeats 16000000 in
theorem w_LinearRises (c s n t0 t1 d0 d1 : Nat) (hc : c ≤ 255 ∧ s ≤ 255 ∧ n ≤ 255 ∧ t0 ≤ 255 ∧ t1 ≤ 255 ∧ d0 ≤ 255 ∧ d1 ≤ 255) (A B : Value) (la lb : List Nat) (M : Value) (lm : List Nat) (st cc : Nat) (hst : st ≤ 255) (hcc : cc ≤ 255) (w : World) (hA : U8Sl w A la) (hB : U8Sl w B lb) (hM : U8Sl w M lm) :
    Calls Try.prog 6 #[smallV c s n t0 t1 d0 d1 A B, M, .int .u8 (st : Int), .int .u8 (cc : Int)] w fun e w' => e = .returned (.bool true) ∧ Below w.heap.size w w' := by
  obtain ⟨N, hN⟩ : ∃ N, N = n % 41 := ⟨_, rfl⟩
  have hN40 : N ≤ 40 := by omega
  obtain ⟨ps, hps⟩ : ∃ ps, ps = mdN t0 t1 d0 d1 := ⟨_, rfl⟩
  obtain ⟨l1, hl1⟩ : ∃ l, l = ldL la := ⟨_, rfl⟩
  obtain ⟨l2, hl2⟩ : ∃ l, l = ldL lb := ⟨_, rfl⟩
  obtain ⟨ad, had⟩ : ∃ l, l = ldL lm := ⟨_, rfl⟩
  have b1 : ∀ x ∈ l1, 0 ≤ x ∧ x ≤ 255 := by rw [hl1]; exact ldL_bnd hA.small
  have b2 : ∀ x ∈ l2, 0 ≤ x ∧ x ≤ 255 := by rw [hl2]; exact ldL_bnd hB.small
  have b3 : ∀ x ∈ ad, 0 ≤ x ∧ x ≤ 255 := by rw [had]; exact ldL_bnd hM.small
  have o1 : liOk l1 = true := by rw [hl1]; exact ldL_ok hA.small
  have o2 : liOk l2 = true := by rw [hl2]; exact ldL_ok hB.small
  have z1 : l1.length ≤ 1000 := by unfold liOk at o1; rw [Bool.and_eq_true, decide_eq_true_eq] at o1; exact o1.1
  have z2 : l2.length ≤ 1000 := by unfold liOk at o2; rw [Bool.and_eq_true, decide_eq_true_eq] at o2; exact o2.1
  have z3 : ad.length ≤ 1000 := by rw [had]; have := ldL_ok hM.small; unfold liOk at this; rw [Bool.and_eq_true, decide_eq_true_eq] at this; exact this.1
  obtain ⟨C2, hC2⟩ : ∃ C2 : Int, max 0 ((c : Int) - (cc : Int)) = C2 := ⟨_, rfl⟩
  have hC2b : 0 ≤ C2 ∧ C2 ≤ 255 ∧ C2 ≤ c := by omega
  have f1 : fltL (c : Int) ps (s : Int) [l1, l2] (N : Int) = 0 := by rw [hps]; unfold mdN; exact flt_small (by omega) (by omega) (by omega) (by omega) (by omega) o1 o2
  have f2 : fltL C2 ps ((s : Int) + (st : Int)) [addL l1 ad, addL l2 ad] (N : Int) = 0 := by rw [hps]; unfold mdN; exact flt_small (by omega) (by omega) (by omega) (by omega) (by omega) (addL_ok o1 b1 b3) (addL_ok o2 b2 b3)
  have hall : ps.all ptOk = true := (lnOk_iff.1 (flt_cases f1).1).2.2
  have hpl : ps.length = 2 := by rw [hps]; rfl
  obtain ⟨a1, ha1⟩ : ∃ am, am = amts ps [l1, l2] N := ⟨_, rfl⟩
  obtain ⟨a2, ha2⟩ : ∃ am, am = amts ps [addL l1 ad, addL l2 ad] N := ⟨_, rfl⟩
  have e1 : a1.length = N := by rw [ha1]; exact amts_len _ _ _
  have e2 : a2.length = N := by rw [ha2]; exact amts_len _ _ _
  obtain ⟨cs, hcs⟩ : ∃ cs, cs = (s : Int) :: lvs (c : Int) (s : Int) a1 := ⟨_, rfl⟩
  obtain ⟨ds, hds⟩ : ∃ ds, ds = ((s : Int) + (st : Int)) :: lvs C2 ((s : Int) + (st : Int)) a2 := ⟨_, rfl⟩
  have HCL := Lib.hid (show cs.length = N + 1 by rw [hcs, List.length_cons, lvs_len, e1])
  have HDL := Lib.hid (show ds.length = N + 1 by rw [hds, List.length_cons, lvs_len, e2])
  have HLE := Lib.hid (fun (t : Nat) (ht : t ≤ N) => show ∃ x y, cs[t]? = some x ∧ ds[t]? = some y ∧ x ≤ y from
    ⟨_, _, by rw [hcs]; exact lvs_get _ _ _ t (by omega), by rw [hds]; exact lvs_get _ _ _ t (by omega), lvE_mono (by omega) _ _ _ _ (by omega) (by rw [List.length_take, List.length_take, e1, e2]) (fun i x y hx hy => by rw [ha1] at hx; rw [ha2] at hy; exact amts_addL b3 hall N t i x y hx hy)⟩)
  have HM := Lib.hid (fun (X : World) (hX : Below w.heap.size w X) => c_madeN c s n t0 t1 d0 d1 hc A B la lb N hN X (hA.on hX (Nat.le_refl _)) (hB.on hX (Nat.le_refl _)))
  have HNM := Lib.hid (fun (X : World) (hX : Below w.heap.size w X) => c_numbers lm M X (hM.on hX (Nat.le_refl _)))
  have HC1 := Lib.hid (fun (X : World) (P I : Value) (hP : PtSl X P ps) (hI : LiSl X I [l1, l2]) => c_CourseO (c : Int) ps (s : Int) [l1, l2] (N : Int) P I X hP hI 0 f1 cs (by rw [if_pos rfl]; unfold crsP; rw [Int.toNat_natCast, ← ha1]; exact hcs))
  have HC2 := Lib.hid (fun (X : World) (P I : Value) (hP : PtSl X P ps) (hI : LiSl X I [addL l1 ad, addL l2 ad]) => c_CourseO C2 ps ((s : Int) + (st : Int)) [addL l1 ad, addL l2 ad] (N : Int) P I X hP hI 0 f2 ds (by rw [if_pos rfl]; unfold crsP; rw [Int.toNat_natCast, ← ha2]; exact hds))
  rw [← hps, ← hl1, ← hl2] at HM
  rw [← had] at HNM
  have HPL := Lib.hid hpl
  have HB12 := Lib.hid (show (∀ x ∈ l1, 0 ≤ x ∧ x ≤ 255) ∧ (∀ x ∈ l2, 0 ≤ x ∧ x ≤ 255) ∧ ∀ x ∈ ad, 0 ≤ x ∧ x ≤ 255 from ⟨b1, b2, b3⟩)
  obtain ⟨W, hW⟩ : ∃ W, W = w.alloc (.cells #[.int .u8 (c : Int), .int .u8 (s : Int), .int .u8 (n : Int), .int .u8 (t0 : Int), .int .u8 (t1 : Int), .int .u8 (d0 : Int), .int .u8 (d1 : Int), A, B] 48) := ⟨_, rfl⟩
  have HB0 := Lib.hid (show Below w.heap.size w W by subst hW; exact (Below.refl _ _).alloc (Nat.le_refl _) _)
  have HX0 := Lib.hid (show W.heap[w.heap.size]? = some (.cells #[.int .u8 (c : Int), .int .u8 (s : Int), .int .u8 (n : Int), .int .u8 (t0 : Int), .int .u8 (t1 : Int), .int .u8 (d0 : Int), .int .u8 (d1 : Int), A, B] 48 (0, 0)) by subst hW; exact heap_alloc_new _ _)
  have hzW := at_lt HX0.out
  have hsb : IntKind.i64.wrap (s : Int) = s := by rw [IntKind.wrap_i64]; omega
  have hsc : IntKind.i64.wrap (st : Int) = st := by rw [IntKind.wrap_i64]; omega
  have hcb : IntKind.i64.wrap (cc : Int) = cc := by rw [IntKind.wrap_i64]; omega
  unfold lnV at HM HC1 HC2
  unfold smallV at HM ⊢
  clear hA hB hM f1 f2 ha1 ha2 hN hps hcs hds hall hl1 hl2 had b1 b2 b3 o1 o2 e1 e2 hpl
  go_enter Try.func6, Try.ntmps6
  go_wp2_with (fail)
  rw [← hW]
  clear hW
  go_at_call 26
  refine (HM.out W HB0.out).mono ?_
  rintro e w1 ⟨P, I, rfl, hmd⟩
  have HP1 := Lib.hid hmd.pt
  have HI1 := Lib.hid hmd.li
  have HB1 := Lib.hid (below_join HB0.out hmd.bel HB0.out.size)
  have HX1 := Lib.hid ((hmd.bel.block _ hzW).trans HX0.out)
  obtain ⟨A1, c1, rfl, -, -⟩ := hmd.pt.shape
  obtain ⟨m1, m2, b, u1, u2, h1, h2, h3, h4, h5, h6, h7, h8, h9, h10, rfl, h12⟩ := hmd.own
  have H5 := Lib.hid h5
  have H6 := Lib.hid h6
  have H7 := Lib.hid h7
  have H8 := Lib.hid h8
  have H9 := Lib.hid h9
  have H10 := Lib.hid h10
  have H12 := Lib.hid h12
  clear hmd h5 h6 h7 h8 h9 h10 h12
  obtain ⟨W1, hW1⟩ : ∃ W1, W1 = w1.alloc (.cells #[.int .i64 (c : Int), .slice A1 ps.length c1] 24) := ⟨_, rfl⟩
  have k1 : Below w1.heap.size w1 W1 := by subst hW1; exact (Below.refl _ _).alloc (Nat.le_refl _) _
  have HK1 := Lib.hid k1
  have HBW := Lib.hid (below_join HB1.out k1 HB1.out.size)
  have HL1 := Lib.hid (show W1.heap[w1.heap.size]? = some (.cells #[.int .i64 (c : Int), .slice A1 ps.length c1] 24 (0, 0)) by subst hW1; exact heap_alloc_new _ _)
  have HXW := Lib.hid ((k1.block _ (at_lt HX1.out)).trans HX1.out)
  have HPW := Lib.hid (HP1.out.on k1 (Nat.le_refl _))
  have HIW := Lib.hid (HI1.out.on k1 (Nat.le_refl _))
  have hwz : W1.heap.size = w1.heap.size + 1 := by subst hW1; simp
  clear k1
  obtain ⟨x0, x1⟩ := lin_cells HL1.out
  have x2 : W1.cell? ⟨w.heap.size, 1, none⟩ = some (.int .u8 (s : Int)) := smallV_cells HXW.out
  rw [hW1] at x0 x1 x2
  go_wp2_with (fail)
  rw [← hW1]
  clear hW1 x0 x1 x2
  refine (HC1.out W1 _ _ HPW.out HIW.out).mono ?_
  rintro e w2 ⟨y, rfl, hy, k2⟩
  have HB2 := Lib.hid (below_join HBW.out k2 HBW.out.size)
  have HK2 := Lib.hid k2
  have HY := Lib.hid hy
  obtain ⟨Ay, cy, rfl, -, -⟩ := (own_intSl hy).shape
  have HL2 := Lib.hid ((k2.block _ (at_lt HL1.out)).trans HL1.out)
  have HX2 := Lib.hid ((k2.block _ (at_lt HXW.out)).trans HXW.out)
  clear hy k2
  go_wp2_with (fail)
  go_at_call 27
  refine (HNM.out w2 HB2.out).mono ?_
  rintro e w3 ⟨y3, rfl, hy3, k3⟩
  have HB3 := Lib.hid (below_join HB2.out k3 HB2.out.size)
  have HL3 := Lib.hid ((k3.block _ (at_lt HL2.out)).trans HL2.out)
  have HX3 := Lib.hid ((k3.block _ (at_lt HX2.out)).trans HX2.out)
  have HK := Lib.hid (below_join (below_join HK1.out HK2.out HK1.out.size) k3 (Nat.le_trans HK1.out.size HK2.out.size))
  have HA3 := Lib.hid hy3
  obtain ⟨Aa, ca, rfl, -, -⟩ := (own_intSl hy3).shape
  have hz2 : w1.heap.size + 1 ≤ w2.heap.size := by have := HK2.out.size; omega
  have HP3 := Lib.hid (fun (X : World) (hX : ∀ k o, k < m1 → w3.heap[k]? = some o → X.heap[k]? = some o) => own_ptSl (own_row_kept H5.out fun k cur hk hc => hX _ _ (H6.out k hk) ((HK.out.block k (H5.out.lt k hk).2).trans hc)))
  have HY3 := Lib.hid (fun (X : World) (hX : ∀ k o, w1.heap.size < k → w3.heap[k]? = some o → X.heap[k]? = some o) => own_intSl (own_row_kept HY.out fun k cur hk hc => hX k _ (by have := (HY.out.lt k hk).1; omega) ((k3.block k (HY.out.lt k hk).2).trans hc)))
  have HA := Lib.hid (fun (X : World) (hX : ∀ k o, w1.heap.size < k → w3.heap[k]? = some o → X.heap[k]? = some o) => own_intSl (own_row_kept HA3.out fun k cur hk hc => hX k _ (by have := (HA3.out.lt k hk).1; omega) hc))
  have HBX := Lib.hid ((HK.out.block _ h4).trans H12.out)
  have HRS := Lib.hid (show RsS w3 m1 m2 b u1 u2 l1.length l2.length l1 l2 w3 from ⟨Stay.refl _, own_row_kept H7.out fun k cur hk hc => (HK.out.block k (H7.out.lt k hk).2).trans hc, own_row_kept H9.out fun k cur hk hc => (HK.out.block k (H9.out.lt k hk).2).trans hc, rfl, rfl⟩)
  obtain ⟨A1', c1', rfl, -, -⟩ := (own_intSl H7.out).shape
  obtain ⟨A2', c2', rfl, -, -⟩ := (own_intSl H9.out).shape
  have h1s := h1
  clear hy3 k3
  go_wp2_with (fail)
  go_loopw [40] (fun i wr => ∃ L1 L2, ((i = .int .i64 0 ∧ L1 = l1 ∧ L2 = l2) ∨ (i = .int .i64 1 ∧ L1 = addL l1 ad ∧ L2 = l2) ∨ (i = .int .i64 2 ∧ L1 = addL l1 ad ∧ L2 = addL l2 ad)) ∧ Hid (RsS w3 m1 m2 b (.slice A1' l1.length c1') (.slice A2' l2.length c2') l1.length l2.length L1 L2 wr)) (fun i _ => 2 - (intOf i).toNat)
  case atStart => exact ⟨_, _, .inl ⟨rfl, rfl, rfl⟩, HRS⟩
  case round =>
    obtain ⟨L1, L2, hab, hS⟩ := hrel
    have HB := Lib.hid (hS.out.st.same _ _ (.inr (Nat.le_refl _)) HBX.out)
    obtain ⟨y0, y1, -, -⟩ := two_here HB.out
    rcases hab with ⟨rfl, q1, q2⟩ | ⟨rfl, q1, q2⟩ | ⟨rfl, q1, q2⟩
    · rw [q1, q2] at hS
      clear q1 q2
      go_wp2_with (fail)
      clear y0 y1 HB
      go_loopw [48] (fun v wx => ∃ t : Nat, v = .int .i64 (t : Int) ∧ t ≤ l1.length ∧ Hid (RsS w3 m1 m2 b (.slice A1' l1.length c1') (.slice A2' l2.length c2') l1.length l2.length (addL l1 (ad.take t)) l2 wx)) (fun v _ => l1.length - (intOf v).toNat)
      case atStart => exact ⟨0, rfl, Nat.zero_le _, by rw [List.take_zero, addL_nil]; exact hS⟩
      case round =>
        obtain ⟨t, rfl, ht, hT⟩ := hrel
        have hti : ((t : Nat) : Int).toNat = t := by omega
        by_cases hlt : t < l1.length
        · have HLT := Lib.hid hlt
          have htc : (t : Int) < ((l1.length : Nat) : Int) := by omega
          have ht2 : t ≤ 1000 := by omega
          by_cases had : t < ad.length
          · obtain ⟨x, hx⟩ : ∃ x, l1[t]? = some x := ⟨_, List.getElem?_eq_getElem hlt⟩
            obtain ⟨a, ha⟩ : ∃ a, ad[t]? = some a := ⟨_, List.getElem?_eq_getElem had⟩
            have hxa : IntKind.i64.wrap (x + a) = x + a := by
              have q1 := HB12.out.1 x (List.mem_of_getElem? hx)
              have q2 := HB12.out.2.2 a (List.mem_of_getElem? ha)
              rw [IntKind.wrap_i64]; omega
            have hta : (t : Int) < ((ad.length : Nat) : Int) := by omega
            obtain ⟨g, cg, hge⟩ := own_shape hT.out.r1 (by omega)
            injection hge with hA hB hC
            subst hA hC
            have hgr := row_lt hT.out.r1
            have HN := Lib.hid (hT.out.put1 ⟨H8.out g rfl, h3⟩ hx ha)
            have HBt := hT.out.st.same _ _ (.inr (Nat.le_refl _)) HBX.out
            have y0 := (two_here HBt).1
            have yx : wr.cell? ⟨g, t, none⟩ = some (.int .i64 x) := (hT.out.r1.cellAt t (by omega)).trans (by unfold ints; rw [List.getElem?_map, addL_here hx]; rfl)
            have fx : ∀ X : World, X.heap = wr.heap → X.frozen? ⟨g, t, none⟩ = false := fun X hX => by have := own_cells hT.out.r1 t (by omega); simpa [World.frozen?, hX] using this
            obtain ⟨ba, oa, ca', ea, -, -, -, ya⟩ := (HA.out wr (fun k o hk hh => hT.out.st.same k o (.inr (by omega)) hh)).at_ ha
            injection ea with ea1 _ ea2
            subst ea1 ea2
            clear hB hx ha hT HBt hgr hlt had
            go_wp2_with (fail)
            refine wp_region_still_tail 13 (by kernel_rfl) (by kernel_rfl) ?_
            simp only [List.take_succ_cons, List.take_zero, List.drop_succ_cons, List.drop_zero]
            iterate 13 still_step
            refine wpStill_nil ?_
            change wpList _ _ _ _ _ wr.drew
            have fd := fx wr.drew rfl
            have xd : wr.drew.cell? ⟨g, t, none⟩ = some (.int .i64 x) := yx
            generalize wr.drew = w9 at HN fd xd ⊢
            clear yx ya fx y0
            go_wp2_with (fail)
            go_roundw
            case rel => exact ⟨t + 1, by go_num, HLT.out, HN⟩
            case measure => have := HLT.out; simp only [intOf]; omega
          · have hta : ¬ (t : Int) < ((ad.length : Nat) : Int) := by omega
            have HN := Lib.hid hT.out
            rw [addL_skip (by omega)] at HN
            clear hT hlt had
            go_wp2_with (fail)
            go_roundw
            case rel => exact ⟨t + 1, by go_num, HLT.out, HN⟩
            case measure => have := HLT.out; simp only [intOf]; omega
        · obtain hte : t = l1.length := by omega
          have htc : ¬ (t : Int) < ((l1.length : Nat) : Int) := by omega
          have HN := Lib.hid hT.out
          rw [hte, addL_end] at HN
          clear hT hlt hte
          go_wp2_with (fail)
          go_roundw
          case rel => exact ⟨_, _, .inr (.inl ⟨by go_num, rfl, rfl⟩), HN⟩
          case measure => (simp only [intOf]; omega)
    · rw [q1, q2] at hS
      clear q1 q2
      go_wp2_with (fail)
      clear y0 y1 HB
      go_loopw [48] (fun v wx => ∃ t : Nat, v = .int .i64 (t : Int) ∧ t ≤ l2.length ∧ Hid (RsS w3 m1 m2 b (.slice A1' l1.length c1') (.slice A2' l2.length c2') l1.length l2.length (addL l1 ad) (addL l2 (ad.take t)) wx)) (fun v _ => l2.length - (intOf v).toNat)
      case atStart => exact ⟨0, rfl, Nat.zero_le _, by rw [List.take_zero, addL_nil]; exact hS⟩
      case round =>
        obtain ⟨t, rfl, ht, hT⟩ := hrel
        have hti : ((t : Nat) : Int).toNat = t := by omega
        by_cases hlt : t < l2.length
        · have HLT := Lib.hid hlt
          have htc : (t : Int) < ((l2.length : Nat) : Int) := by omega
          have ht2 : t ≤ 1000 := by omega
          by_cases had : t < ad.length
          · obtain ⟨x, hx⟩ : ∃ x, l2[t]? = some x := ⟨_, List.getElem?_eq_getElem hlt⟩
            obtain ⟨a, ha⟩ : ∃ a, ad[t]? = some a := ⟨_, List.getElem?_eq_getElem had⟩
            have hxa : IntKind.i64.wrap (x + a) = x + a := by
              have q1 := HB12.out.2.1 x (List.mem_of_getElem? hx)
              have q2 := HB12.out.2.2 a (List.mem_of_getElem? ha)
              rw [IntKind.wrap_i64]; omega
            have hta : (t : Int) < ((ad.length : Nat) : Int) := by omega
            obtain ⟨g, cg, hge⟩ := own_shape hT.out.r2 (by omega)
            injection hge with hA hB hC
            subst hA hC
            have hgr := row_lt hT.out.r2
            have HN := Lib.hid (hT.out.put2 ⟨H8.out, h2, H10.out g rfl⟩ hx ha)
            have HBt := hT.out.st.same _ _ (.inr (Nat.le_refl _)) HBX.out
            have y1 := (two_here HBt).2.1
            have yx : wr.cell? ⟨g, t, none⟩ = some (.int .i64 x) := (hT.out.r2.cellAt t (by omega)).trans (by unfold ints; rw [List.getElem?_map, addL_here hx]; rfl)
            have fx : ∀ X : World, X.heap = wr.heap → X.frozen? ⟨g, t, none⟩ = false := fun X hX => by have := own_cells hT.out.r2 t (by omega); simpa [World.frozen?, hX] using this
            obtain ⟨ba, oa, ca', ea, -, -, -, ya⟩ := (HA.out wr (fun k o hk hh => hT.out.st.same k o (.inr (by omega)) hh)).at_ ha
            injection ea with ea1 _ ea2
            subst ea1 ea2
            clear hB hx ha hT HBt hgr hlt had
            go_wp2_with (fail)
            refine wp_region_still_tail 13 (by kernel_rfl) (by kernel_rfl) ?_
            simp only [List.take_succ_cons, List.take_zero, List.drop_succ_cons, List.drop_zero]
            iterate 13 still_step
            refine wpStill_nil ?_
            change wpList _ _ _ _ _ wr.drew
            have fd := fx wr.drew rfl
            have xd : wr.drew.cell? ⟨g, t, none⟩ = some (.int .i64 x) := yx
            generalize wr.drew = w9 at HN fd xd ⊢
            clear yx ya fx y1
            go_wp2_with (fail)
            go_roundw
            case rel => exact ⟨t + 1, by go_num, HLT.out, HN⟩
            case measure => have := HLT.out; simp only [intOf]; omega
          · have hta : ¬ (t : Int) < ((ad.length : Nat) : Int) := by omega
            have HN := Lib.hid hT.out
            rw [addL_skip (by omega)] at HN
            clear hT hlt had
            go_wp2_with (fail)
            go_roundw
            case rel => exact ⟨t + 1, by go_num, HLT.out, HN⟩
            case measure => have := HLT.out; simp only [intOf]; omega
        · obtain hte : t = l2.length := by omega
          have htc : ¬ (t : Int) < ((l2.length : Nat) : Int) := by omega
          have HN := Lib.hid hT.out
          rw [hte, addL_end] at HN
          clear hT hlt hte
          go_wp2_with (fail)
          go_roundw
          case rel => exact ⟨_, _, .inr (.inr ⟨by go_num, rfl, rfl⟩), HN⟩
          case measure => (simp only [intOf]; omega)
    · rw [q1, q2] at hS
      clear q1 q2 y0 y1 HB
      have HLr := Lib.hid (hS.out.st.same _ _ (.inr (by omega)) HL3.out)
      have HXr := Lib.hid (hS.out.st.same w.heap.size _ (.inl (by omega)) HX3.out)
      have HBr := Lib.hid (hS.out.st.below HB3.out (by omega))
      have hwc : IntKind.i64.wrap ((c : Int) - (cc : Int)) = (c : Int) - (cc : Int) := by rw [IntKind.wrap_i64]; omega
      obtain ⟨Z, hZ⟩ : ∃ Z, Z = wr.setCell ⟨w1.heap.size, 0, none⟩ (.int .i64 C2) := ⟨_, rfl⟩
      have hBZ : But w1.heap.size wr Z := by subst hZ; exact But.store _ _
      have HBZ := Lib.hid hBZ
      have HLZ := Lib.hid (show Z.heap[w1.heap.size]? = some (.cells #[.int .i64 C2, .slice A1 ps.length c1] 24 (0, 0)) by subst hZ; exact lin_box2 HLr.out)
      have HXZ := Lib.hid (hBZ.same w.heap.size _ (by omega) HXr.out)
      have HPZ := Lib.hid (HP3.out Z fun k o hk hh => hBZ.same _ _ (by omega) (hS.out.st.same k o (.inl hk) hh))
      have HIZ := Lib.hid (hS.out.li2 HBX.out hBZ h4 (fun k hk => by have := H8.out k hk; omega) (fun k hk => by have := H10.out k hk; omega))
      have HBB := Lib.hid (hBZ.below HBr.out (by omega))
      have hss : IntKind.i64.wrap ((s : Int) + (st : Int)) = (s : Int) + (st : Int) := by rw [IntKind.wrap_i64]; omega
      rcases Nat.lt_or_ge cc c with hcc2 | hcc2
      · have hV : C2 = (c : Int) - (cc : Int) := by omega
        skip
        clear hC2 hC2b
        subst hV
        obtain ⟨x0, x1⟩ := lin_cells HLr.out
        have f0 := lin_frozen2 HLr.out
        obtain ⟨y0, y1⟩ := lin_cells HLZ.out
        have x2 : Z.cell? ⟨w.heap.size, 1, none⟩ = some (.int .u8 (s : Int)) := smallV_cells HXZ.out
        have x3 : wr.cell? ⟨w.heap.size, 1, none⟩ = some (.int .u8 (s : Int)) := smallV_cells HXr.out
        rw [hZ] at y0 y1 x2
        have HZE := Lib.hid hZ
        clear hBZ hZ
        go_wp2_with (fail)
        rw [← HZE.out]
        clear x0 x1 x2 x3 f0 y0 y1
        go_at_call 13
        refine (HC2.out Z _ _ HPZ.out HIZ.out).mono ?_
        rintro e w5 ⟨z, rfl, hz, k5⟩
        have HYw := Lib.hid (HY3.out w5 (fun k o hk hh => (k5.block k (Nat.lt_of_lt_of_le (at_lt (hS.out.st.same k o (.inr (by omega)) hh)) HBZ.out.size)).trans (HBZ.out.same k o (by omega) (hS.out.st.same k o (.inr (by omega)) hh))))
        have HZw := Lib.hid (own_intSl hz)
        have HB5 := Lib.hid (below_join HBB.out k5 HBB.out.size)
        obtain ⟨Az, cz, rfl, -, -⟩ := HZw.out.shape
        have hnc : (((cs.length : Nat) : Int) != (N : Int) + 1) = false := by have := HCL.out; rw [bne_eq_false_iff_eq]; omega
        have hnd : (((ds.length : Nat) : Int) != (N : Int) + 1) = false := by have := HDL.out; rw [bne_eq_false_iff_eq]; omega
        have hn1 : IntKind.i64.wrap ((N : Int) + 1) = (N : Int) + 1 := by rw [IntKind.wrap_i64]; omega
        clear hz k5
        go_wp2_with (fail)
        clear hnc hnd hn1
        go_loopw [112] (fun v wx => ∃ t m : Nat, v = .int .i64 (t : Int) ∧ t ≤ cs.length ∧ wx = w5.drewN m) (fun v _ => cs.length - (intOf v).toNat)
        case atStart => exact ⟨0, 0, rfl, Nat.zero_le _, rfl⟩
        case round =>
          obtain ⟨t, m, rfl, ht, rfl⟩ := hrel
          have hti : ((t : Nat) : Int).toNat = t := by omega
          by_cases hlt : t < cs.length
          · have HLT := Lib.hid hlt
            have ht40 : t ≤ 40 := by have := HCL.out; omega
            obtain ⟨x, y, hx, hy, hxy⟩ := HLE.out t (by have := HCL.out; omega)
            obtain ⟨b4, o4, c4, e4, -, -, -, hcx⟩ := HYw.out.at_ hx
            injection e4 with e1 _ e2
            subst e1 e2
            obtain ⟨b5, o5, c5, e5, -, -, -, hcy⟩ := HZw.out.at_ hy
            injection e5 with e1 _ e2
            subst e1 e2
            have htc : (t : Int) < ((cs.length : Nat) : Int) := by omega
            have htd : (t : Int) < ((ds.length : Nat) : Int) := by have := HDL.out; have := HCL.out; omega
            have g1 : decide (y < x) = false := by rw [decide_eq_false_iff_not]; omega
            clear hx hy hlt hxy
            go_wp2_with (fail)
            go_quiet (fail)
            go_wp2_with (fail)
            go_roundw
            case rel => exact ⟨t + 1, _, by go_num, HLT.out, rfl⟩
            case measure => have := HLT.out; simp only [intOf]; omega
          · obtain rfl : t = cs.length := by omega
            have HB6 := Lib.hid (drew_below HB5.out ⟨m, rfl⟩)
            go_wp2_with (fail)
            go_at_call 21
            refine (c_works _).mono ?_
            rintro e w8 ⟨rfl, b8⟩
            have HB8 := Lib.hid (below_join HB6.out b8 HB6.out.size)
            clear b8
            go_wp2_with (fail)
            go_ret
            exact ⟨rfl, HB8.out⟩
      · have hV : C2 = 0 := by omega
        have hnn : ¬ cc < c := by omega
        clear hC2 hC2b
        subst hV
        obtain ⟨x0, x1⟩ := lin_cells HLr.out
        have f0 := lin_frozen2 HLr.out
        obtain ⟨y0, y1⟩ := lin_cells HLZ.out
        have x2 : Z.cell? ⟨w.heap.size, 1, none⟩ = some (.int .u8 (s : Int)) := smallV_cells HXZ.out
        have x3 : wr.cell? ⟨w.heap.size, 1, none⟩ = some (.int .u8 (s : Int)) := smallV_cells HXr.out
        rw [hZ] at y0 y1 x2
        have HZE := Lib.hid hZ
        clear hBZ hZ
        go_wp2_with (fail)
        rw [← HZE.out]
        clear x0 x1 x2 x3 f0 y0 y1
        go_at_call 13
        refine (HC2.out Z _ _ HPZ.out HIZ.out).mono ?_
        rintro e w5 ⟨z, rfl, hz, k5⟩
        have HYw := Lib.hid (HY3.out w5 (fun k o hk hh => (k5.block k (Nat.lt_of_lt_of_le (at_lt (hS.out.st.same k o (.inr (by omega)) hh)) HBZ.out.size)).trans (HBZ.out.same k o (by omega) (hS.out.st.same k o (.inr (by omega)) hh))))
        have HZw := Lib.hid (own_intSl hz)
        have HB5 := Lib.hid (below_join HBB.out k5 HBB.out.size)
        obtain ⟨Az, cz, rfl, -, -⟩ := HZw.out.shape
        have hnc : (((cs.length : Nat) : Int) != (N : Int) + 1) = false := by have := HCL.out; rw [bne_eq_false_iff_eq]; omega
        have hnd : (((ds.length : Nat) : Int) != (N : Int) + 1) = false := by have := HDL.out; rw [bne_eq_false_iff_eq]; omega
        have hn1 : IntKind.i64.wrap ((N : Int) + 1) = (N : Int) + 1 := by rw [IntKind.wrap_i64]; omega
        clear hz k5
        go_wp2_with (fail)
        clear hnc hnd hn1
        go_loopw [112] (fun v wx => ∃ t m : Nat, v = .int .i64 (t : Int) ∧ t ≤ cs.length ∧ wx = w5.drewN m) (fun v _ => cs.length - (intOf v).toNat)
        case atStart => exact ⟨0, 0, rfl, Nat.zero_le _, rfl⟩
        case round =>
          obtain ⟨t, m, rfl, ht, rfl⟩ := hrel
          have hti : ((t : Nat) : Int).toNat = t := by omega
          by_cases hlt : t < cs.length
          · have HLT := Lib.hid hlt
            have ht40 : t ≤ 40 := by have := HCL.out; omega
            obtain ⟨x, y, hx, hy, hxy⟩ := HLE.out t (by have := HCL.out; omega)
            obtain ⟨b4, o4, c4, e4, -, -, -, hcx⟩ := HYw.out.at_ hx
            injection e4 with e1 _ e2
            subst e1 e2
            obtain ⟨b5, o5, c5, e5, -, -, -, hcy⟩ := HZw.out.at_ hy
            injection e5 with e1 _ e2
            subst e1 e2
            have htc : (t : Int) < ((cs.length : Nat) : Int) := by omega
            have htd : (t : Int) < ((ds.length : Nat) : Int) := by have := HDL.out; have := HCL.out; omega
            have g1 : decide (y < x) = false := by rw [decide_eq_false_iff_not]; omega
            clear hx hy hlt hxy
            go_wp2_with (fail)
            go_quiet (fail)
            go_wp2_with (fail)
            go_roundw
            case rel => exact ⟨t + 1, _, by go_num, HLT.out, rfl⟩
            case measure => have := HLT.out; simp only [intOf]; omega
          · obtain rfl : t = cs.length := by omega
            have HB6 := Lib.hid (drew_below HB5.out ⟨m, rfl⟩)
            go_wp2_with (fail)
            go_at_call 21
            refine (c_works _).mono ?_
            rintro e w8 ⟨rfl, b8⟩
            have HB8 := Lib.hid (below_join HB6.out b8 HB6.out.size)
            clear b8
            go_wp2_with (fail)
            go_ret
            exact ⟨rfl, HB8.out⟩
theorem row_LinearRises (w : World) (c s n t0 t1 d0 d1 : Nat) (hc : c ≤ 255 ∧ s ≤ 255 ∧ n ≤ 255 ∧ t0 ≤ 255 ∧ t1 ≤ 255 ∧ d0 ≤ 255 ∧ d1 ≤ 255) (A B : Value) (la lb : List Nat) (hA : U8Sl w A la) (hB : U8Sl w B lb) (M : Value) (lm : List Nat) (hM : U8Sl w M lm) (st : Nat) (hst : st ≤ 255) (cc : Nat) (hcc : cc ≤ 255) :
    Calls Try.prog 6 #[smallV c s n t0 t1 d0 d1 A B, M, .int .u8 (st : Int), .int .u8 (cc : Int)] w fun e w' => e = .returned (.bool true) ∧ Below w.heap.size w w' := w_LinearRises c s n t0 t1 d0 d1 hc A B la lb M lm st cc hst hcc w hA hB hM
end Go.Proofs.Ytpmbeejhjoeliaa
