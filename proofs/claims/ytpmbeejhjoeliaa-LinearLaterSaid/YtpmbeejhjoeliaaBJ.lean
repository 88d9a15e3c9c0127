/-
  DERIVED. The law LinearLater: the walk (stage 6).
-/
import Derived.Test.YtpmbeejhjoeliaaBK
namespace Go.Proofs.Ytpmbeejhjoeliaa
open Go.RowKit
set_option maxRecDepth 100000

theorem MdO.split {w w' : World} {q0 q1 r0 r1 : Int} {la lb : List Int} {P I : Value} (h : MdO w w' (mdP q0 q1 r0 r1) la lb P I) :
    ∃ g cap, P = .slice (some ⟨g, 0, none⟩) 2 cap ∧ w.heap.size ≤ g ∧ g < w'.heap.size ∧ w'.ownsRow w.heap.size 41 3 (.slice (some ⟨g, 0, none⟩) 2 cap) 2 (cellsP (mdP q0 q1 r0 r1)) ∧ ∀ X, But g w' X → LiSl X I [la, lb] := by
  obtain ⟨m1, m2, b, u1, u2, h1, h2, h3, h4, h5, h6, h7, h8, h9, h10, rfl, h12⟩ := h.own
  obtain ⟨g, cap, rfl⟩ := own_shape h5 (show 0 < 2 by decide)
  have hg := h5.lt g rfl
  have hg1 := h6 g rfl
  refine ⟨g, cap, rfl, hg.1, hg.2, h5, fun X hX => ?_⟩
  refine liSl_lit (us := [u1, u2]) [la, lb] (hX.same _ _ (by omega) h12) rfl (fun j u l hu hl => ?_) (by decide : 2 ≤ 100000)
  match j, hu, hl with
  | 0, hu, hl => simp at hu hl; subst hu hl; exact own_intSl (own_row_kept h7 fun k _ hk hc => hX.same _ _ (by have := (h7.lt k hk).1; omega) hc)
  | 1, hu, hl => simp at hu hl; subst hu hl; exact own_intSl (own_row_kept h9 fun k _ hk hc => hX.same _ _ (by have := (h9.lt k hk).1; omega) hc)
theorem but_own {X Y : World} {g : Nat} {base : Nat} {e : TypeId} {size n cap : Nat} {xs : List Value} (h : X.ownsRow base e size (.slice (some ⟨g, 0, none⟩) n cap) n xs) {B : Nat} (hb : Below B X Y) (hB : X.heap.size ≤ B) : Y.ownsRow base e size (.slice (some ⟨g, 0, none⟩) n cap) n xs :=
  own_row_kept h fun k _ hk hc => (hb.block k (Nat.lt_of_lt_of_le (h.lt k hk).2 hB)).trans hc
set_option maxHeartbeats 16000000 in
theorem w_LinearLater (c s n t0 t1 d0 d1 : Nat) (hc : c ≤ 255 ∧ s ≤ 255 ∧ n ≤ 255 ∧ t0 ≤ 255 ∧ t1 ≤ 255 ∧ d0 ≤ 255 ∧ d1 ≤ 255) (A B : Value) (la lb : List Nat) (dd : Nat) (hdd : dd ≤ 255) (w : World) (hA : U8Sl w A la) (hB : U8Sl w B lb) :
    Calls Try.prog 7 #[smallV c s n t0 t1 d0 d1 A B, .int .u8 (dd : Int)] w fun e w' => e = .returned (.bool true) ∧ Below w.heap.size w w' := by
  obtain ⟨N, hN⟩ : ∃ N, N = n % 41 := ⟨_, rfl⟩
  have hN40 : N ≤ 40 := by omega
  obtain ⟨K, hK⟩ : ∃ K, K = dd % 16 := ⟨_, rfl⟩
  have hK15 : K ≤ 15 := by omega
  have hkm : (dd : Int).tmod 16 = (K : Int) := by rw [hK]; exact tmod_small (m := 16) (by omega)
  obtain ⟨q0, hq0⟩ : ∃ q, q = ((t0 % 4 : Nat) : Int) := ⟨_, rfl⟩
  obtain ⟨q1, hq1⟩ : ∃ q, q = ((t1 % 4 : Nat) : Int) := ⟨_, rfl⟩
  obtain ⟨r0, hr0⟩ : ∃ q, q = ((d0 % 9 : Nat) : Int) := ⟨_, rfl⟩
  obtain ⟨r1, hr1⟩ : ∃ q, q = ((d1 % 9 : Nat) : Int) := ⟨_, rfl⟩
  have hq : 0 ≤ q0 ∧ q0 ≤ 3 ∧ 0 ≤ q1 ∧ q1 ≤ 3 := by omega
  have hrr : 0 ≤ r0 ∧ r0 ≤ 8 ∧ 0 ≤ r1 ∧ r1 ≤ 8 := by omega
  obtain ⟨ins, hins⟩ : ∃ ins, ins = [ldL la, ldL lb] := ⟨_, rfl⟩
  have f1 : fltL (c : Int) (mdP q0 q1 r0 r1) 0 ins (N : Int) = 0 := by rw [hins]; exact flt_small (by omega) (by omega) (by omega) hq (by omega) (ldL_ok hA.small) (ldL_ok hB.small)
  have f2 : fltL (c : Int) (mdP q0 q1 (r0 + K) (r1 + K)) 0 ins ((N : Int) + (K : Int)) = 0 := by rw [hins]; exact flt_small (by omega) (by omega) (by omega) hq (by omega) (ldL_ok hA.small) (ldL_ok hB.small)
  obtain ⟨am, ham⟩ : ∃ am, am = amts (mdP q0 q1 r0 r1) ins N := ⟨_, rfl⟩
  have hal : am.length = N := by rw [ham]; exact amts_len _ _ _
  have hall : (mdP q0 q1 r0 r1).all ptOk = true := (lnOk_iff.1 (flt_cases f1).1).2.2
  obtain ⟨cs, hcs⟩ : ∃ cs, cs = (0 : Int) :: lvs (c : Int) 0 am := ⟨_, rfl⟩
  obtain ⟨ls, hls⟩ : ∃ ls, ls = (0 : Int) :: lvs (c : Int) 0 (List.replicate K 0 ++ am) := ⟨_, rfl⟩
  have hcl : cs.length = N + 1 := by rw [hcs, List.length_cons, lvs_len, hal]
  have hll : ls.length = N + K + 1 := by rw [hls, List.length_cons, lvs_len, List.length_append, List.length_replicate, hal]; omega
  have HLS := Lib.hid (fun (t : Nat) (ht : t ≤ N + K) => show ls[t]? = some (if t < K then 0 else lvE (c : Int) 0 (am.take (t - K))) by rw [hls]; exact later_get (by omega) K am t (by omega))
  have HCG := Lib.hid (fun (t : Nat) (ht : t ≤ N) => show cs[t]? = some (lvE (c : Int) 0 (am.take t)) by rw [hcs]; exact lvs_get _ _ _ t (by omega))
  have HM := Lib.hid (fun (X : World) (hX : Below w.heap.size w X) => c_madeN c s n t0 t1 d0 d1 hc A B la lb N hN X (hA.on hX (Nat.le_refl _)) (hB.on hX (Nat.le_refl _)))
  have HC1 := Lib.hid (fun (X : World) (P I : Value) (hP : PtSl X P (mdP q0 q1 r0 r1)) (hI : LiSl X I ins) => c_CourseO (c : Int) (mdP q0 q1 r0 r1) 0 ins (N : Int) P I X hP hI 0 f1 cs (by rw [if_pos rfl]; unfold crsP; rw [Int.toNat_natCast, ← ham]; exact hcs))
  have HC2 := Lib.hid (fun (X : World) (P I : Value) (hP : PtSl X P (mdP q0 q1 (r0 + K) (r1 + K))) (hI : LiSl X I ins) => c_CourseO (c : Int) (mdP q0 q1 (r0 + K) (r1 + K)) 0 ins ((N : Int) + (K : Int)) P I X hP hI 0 f2 ls (by
    rw [if_pos rfl]
    unfold crsP
    rw [show ((N : Int) + (K : Int)).toNat = K + N by omega, ← mdP_shf, amts_shf hall ins K N, ← ham]
    exact hls))
  have HIN := Lib.hid hins
  have HMD := Lib.hid (show mdN t0 t1 d0 d1 = mdP q0 q1 r0 r1 by unfold mdN; rw [hq0, hq1, hr0, hr1])
  obtain ⟨W, hW⟩ : ∃ W, W = w.alloc (.cells #[.int .u8 (c : Int), .int .u8 (s : Int), .int .u8 (n : Int), .int .u8 (t0 : Int), .int .u8 (t1 : Int), .int .u8 (d0 : Int), .int .u8 (d1 : Int), A, B] 48) := ⟨_, rfl⟩
  have HB0 := Lib.hid (show Below w.heap.size w W by subst hW; exact (Below.refl _ _).alloc (Nat.le_refl _) _)
  have hwd : IntKind.i64.wrap (dd : Int) = dd := by rw [IntKind.wrap_i64]; omega
  unfold lnV at HM HC1 HC2
  unfold smallV at HM ⊢
  clear hA hB f1 f2 ham hN hins hcs hls hall hK hq0 hq1 hr0 hr1
  go_enter Try.func7, Try.ntmps7
  go_wp2_with (fail)
  rw [← hW]
  clear hW
  go_at_call 26
  refine (HM.out W HB0.out).mono ?_
  rintro e w1 ⟨P, I, rfl, hmd⟩
  rw [HMD.out] at hmd
  have HP1 := Lib.hid hmd.pt
  obtain ⟨g, cap, rfl, hg1, hg2, hrow, hli⟩ := hmd.split
  rw [← HIN.out] at hli
  have HLI := Lib.hid hli
  have HRW := Lib.hid hrow
  have HB1 := Lib.hid (below_join HB0.out hmd.bel HB0.out.size)
  obtain ⟨A2, c2, rfl, -, -⟩ := (hli w1 (But.refl w1)).shape
  have hgw : w.heap.size ≤ g := Nat.le_trans HB0.out.size hg1
  clear hmd hrow hli hg1
  obtain ⟨W1, hW1⟩ : ∃ W1, W1 = w1.alloc (.cells #[.int .i64 (c : Int), .slice (some ⟨g, 0, none⟩) 2 cap] 24) := ⟨_, rfl⟩
  have b1 : Below w1.heap.size w1 W1 := by subst hW1; exact (Below.refl _ _).alloc (Nat.le_refl _) _
  have HBW := Lib.hid (below_join HB1.out b1 HB1.out.size)
  have HU1 := Lib.hid (But.of_below (b := g) b1 (Nat.le_refl _))
  have HL1 := Lib.hid (show W1.heap[w1.heap.size]? = some (.cells #[.int .i64 (c : Int), .slice (some ⟨g, 0, none⟩) 2 cap] 24 (0, 0)) by subst hW1; exact heap_alloc_new _ _)
  have HPW := Lib.hid (HP1.out.on b1 (Nat.le_refl _))
  have HRW1 := Lib.hid (but_own HRW.out b1 (Nat.le_refl _))
  clear b1
  obtain ⟨x0, x1⟩ := lin_cells HL1.out
  rw [hW1] at x0 x1
  go_wp2_with (fail)
  rw [← hW1]
  clear hW1 x0 x1
  go_at_call 13
  refine (HC1.out W1 _ _ HPW.out (HLI.out _ HU1.out)).mono ?_
  rintro e w2 ⟨y, rfl, hy, b2⟩
  have HU2 := Lib.hid (HU1.out.trans (But.of_below (b := g) b2 (Nat.le_refl _)))
  have HB2 := Lib.hid (below_join HBW.out b2 HBW.out.size)
  have HL2 := Lib.hid ((b2.block _ (at_lt HL1.out)).trans HL1.out)
  have HR2 := Lib.hid (but_own HRW1.out b2 (Nat.le_refl _))
  have HY2 := Lib.hid (show ∀ X, But g w2 X → IntSl X y cs from fun X hX => own_intSl (own_row_kept hy fun k _ hk hc => hX.same _ _ (by have := (hy.lt k hk).1; have := at_lt HL1.out; omega) hc))
  obtain ⟨Ay, cy, rfl, -, -⟩ := (own_intSl hy).shape
  clear hy b2
  obtain ⟨x0, x1⟩ := lin_cells HL2.out
  go_wp2_with (fail)
  go_loopw [34] (fun i wr => ∃ a b, ((i = .int .i64 0 ∧ a = r0 ∧ b = r1) ∨ (i = .int .i64 1 ∧ a = r0 + (K : Int) ∧ b = r1) ∨ (i = .int .i64 2 ∧ a = r0 + (K : Int) ∧ b = r1 + (K : Int))) ∧ Hid (But g w2 wr ∧ wr.ownsRow W.heap.size 41 3 (.slice (some ⟨g, 0, none⟩) 2 cap) 2 (cellsP (mdP q0 q1 a b)))) (fun i _ => 2 - (intOf i).toNat)
  case atStart => exact ⟨_, _, .inl ⟨rfl, rfl, rfl⟩, Lib.hid ⟨But.refl _, HR2.out⟩⟩
  case round =>
    obtain ⟨a, b, hab, hM⟩ := hrel
    obtain ⟨m1, m2⟩ := hM.out
    have HM1 := Lib.hid m1
    have HM2 := Lib.hid m2
    have HLr := Lib.hid (m1.same _ _ (show w1.heap.size ≠ g by omega) HL2.out)
    clear m1 m2 hM
    rcases hab with ⟨rfl, rfl, rfl⟩ | ⟨rfl, rfl, rfl⟩ | ⟨rfl, rfl, rfl⟩
    · obtain ⟨x0, x1⟩ := lin_cells HLr.out
      have z0 : wr.cell? ⟨g, 2, none⟩ = some (.int .i64 a) := (HM2.out.cellAt 2 (by omega)).trans rfl
      have f0 := own_cells HM2.out 2 (by omega)
      have hwr : IntKind.i64.wrap (a + (K : Int)) = a + (K : Int) := by rw [IntKind.wrap_i64]; omega
      go_wp2_with (fail)
      refine ⟨⟨a + (K : Int), b, .inr (.inl ⟨rfl, rfl, rfl⟩), Lib.hid ⟨HM1.out.trans (But.store _ _), own_set HM2.out (by omega)⟩⟩, by simp [intOf]⟩
    · obtain ⟨x0, x1⟩ := lin_cells HLr.out
      have z0 : wr.cell? ⟨g, 5, none⟩ = some (.int .i64 b) := (HM2.out.cellAt 5 (by omega)).trans rfl
      have f0 := own_cells HM2.out 5 (by omega)
      have hwr : IntKind.i64.wrap (b + (K : Int)) = b + (K : Int) := by rw [IntKind.wrap_i64]; omega
      go_wp2_with (fail)
      refine ⟨⟨r0 + (K : Int), b + (K : Int), .inr (.inr ⟨rfl, rfl, rfl⟩), Lib.hid ⟨HM1.out.trans (But.store _ _), own_set HM2.out (by omega)⟩⟩, by simp [intOf]⟩
    · have HB3 := Lib.hid ((HU2.out.trans HM1.out).below HB1.out hgw)
      have HPr := Lib.hid (own_ptSl (l := mdP q0 q1 (r0 + (K : Int)) (r1 + (K : Int))) HM2.out)
      have HLIr := Lib.hid (HLI.out wr (HU2.out.trans HM1.out))
      have hg3 : g < wr.heap.size := (HM2.out.lt g rfl).2
      obtain ⟨x0, x1⟩ := lin_cells HLr.out
      have hnk : IntKind.i64.wrap ((N : Int) + (K : Int)) = (N : Int) + (K : Int) := by rw [IntKind.wrap_i64]; omega
      have HNK := Lib.hid hcl
      have HNL := Lib.hid hll
      clear hcl hll
      go_wp2_with (fail)
      go_at_call 13
      refine (HC2.out wr _ _ HPr.out HLIr.out).mono ?_
      rintro e w3 ⟨z, rfl, hz, b3⟩
      have HB4 := Lib.hid (below_join HB3.out b3 HB3.out.size)
      have HY := Lib.hid (HY2.out w3 (HM1.out.trans (But.of_below b3 (Nat.le_refl _))))
      have HZ := Lib.hid (own_intSl hz)
      obtain ⟨Az, cz, rfl, -, -⟩ := HZ.out.shape
      have hnc : (((cs.length : Nat) : Int) != (N : Int) + 1) = false := by have := HNK.out; rw [bne_eq_false_iff_eq]; omega
      have hnl : (((ls.length : Nat) : Int) != (N : Int) + (K : Int) + 1) = false := by have := HNL.out; rw [bne_eq_false_iff_eq]; omega
      have hnk1 : IntKind.i64.wrap ((N : Int) + (K : Int) + 1) = (N : Int) + (K : Int) + 1 := by rw [IntKind.wrap_i64]; omega
      clear hz b3 x0 x1
      go_wp2_with (fail)
      clear hnc hnl hnk hnk1
      go_loopw [81] (fun v wx => ∃ t m : Nat, v = .int .i64 (t : Int) ∧ t ≤ ls.length ∧ wx = w3.drewN m) (fun v _ => ls.length - (intOf v).toNat)
      case atStart => exact ⟨0, 0, rfl, Nat.zero_le _, rfl⟩
      case round =>
        obtain ⟨t, m, rfl, ht, rfl⟩ := hrel
        have hti : ((t : Nat) : Int).toNat = t := by omega
        by_cases hlt : t < ls.length
        · have HLT := Lib.hid hlt
          have ht55 : t ≤ 55 := by have := HNL.out; omega
          have hz := HLS.out t (by have := HNL.out; omega)
          obtain ⟨b2, o2, c2', e2', -, -, -, hcz⟩ := HZ.out.at_ hz
          injection e2' with e1 _ e2
          subst e1 e2
          have htc : (t : Int) < ((ls.length : Nat) : Int) := by omega
          by_cases htk : t < K
          · rw [if_pos htk] at hcz
            have htk1 : decide ((t : Int) < (K : Int)) = true := by rw [decide_eq_true_eq]; omega
            have htk2 : decide ((K : Int) ≤ (t : Int)) = false := by rw [decide_eq_false_iff_not]; omega
            have htk3 : decide (t < K) = true := by rw [decide_eq_true_eq]; omega
            have htk4 : decide (K ≤ t) = false := by rw [decide_eq_false_iff_not]; omega
            clear hz hlt htk
            go_wp2_with (fail)
            go_quiet (fail)
            go_wp2_with (fail)
            go_roundw
            case rel => exact ⟨t + 1, _, by go_num, HLT.out, rfl⟩
            case measure => have := HLT.out; simp only [intOf]; omega
          · rw [if_neg htk] at hcz
            have htk1 : decide ((t : Int) < (K : Int)) = false := by rw [decide_eq_false_iff_not]; omega
            have htk2 : decide ((K : Int) ≤ (t : Int)) = true := by rw [decide_eq_true_eq]; omega
            have htk3 : decide (t < K) = false := by rw [decide_eq_false_iff_not]; omega
            have htk4 : decide (K ≤ t) = true := by rw [decide_eq_true_eq]; omega
            obtain ⟨u, hu⟩ : ∃ u, u = t - K := ⟨_, rfl⟩
            have hu1 : (t : Int) - (K : Int) = (u : Int) := by omega
            have huN : u ≤ N := by have := HNL.out; omega
            have huu : ((u : Nat) : Int).toNat = u := by omega
            obtain ⟨b3', o3, c3', e3', -, -, -, hcy⟩ := HY.out.at_ (HCG.out u huN)
            injection e3' with e4 _ e5
            subst e4 e5
            rw [← hu] at hcz
            have huc : (u : Int) < ((N + 1 : Nat) : Int) := by omega
            have huc2 : (u : Int) < (N : Int) + 1 := by omega
            have hu2 : u < N + 1 := by omega
            clear hz hlt htk hu
            go_wp2_with (fail)
            go_quiet (fail)
            go_wp2_with (fail)
            go_roundw
            case rel => exact ⟨t + 1, _, by go_num, HLT.out, rfl⟩
            case measure => have := HLT.out; simp only [intOf]; omega
        · obtain rfl : t = ls.length := by omega
          have HB5 := Lib.hid (drew_below HB4.out ⟨m, rfl⟩)
          go_wp2_with (fail)
          go_at_call 21
          refine (c_works _).mono ?_
          rintro e w8 ⟨rfl, b8⟩
          have HB8 := Lib.hid (below_join HB5.out b8 HB5.out.size)
          clear b8
          go_wp2_with (fail)
          go_ret
          exact ⟨rfl, HB8.out⟩
theorem row_LinearLater (w : World) (c s n t0 t1 d0 d1 : Nat) (hc : c ≤ 255 ∧ s ≤ 255 ∧ n ≤ 255 ∧ t0 ≤ 255 ∧ t1 ≤ 255 ∧ d0 ≤ 255 ∧ d1 ≤ 255) (A B : Value) (la lb : List Nat) (hA : U8Sl w A la) (hB : U8Sl w B lb) (dd : Nat) (hdd : dd ≤ 255) :
    Calls Try.prog 7 #[smallV c s n t0 t1 d0 d1 A B, .int .u8 (dd : Int)] w fun e w' => e = .returned (.bool true) ∧ Below w.heap.size w w' := w_LinearLater c s n t0 t1 d0 d1 hc A B la lb dd hdd w hA hB
end Go.Proofs.Ytpmbeejhjoeliaa
