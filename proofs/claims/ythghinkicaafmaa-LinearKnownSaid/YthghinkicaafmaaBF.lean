/-
  DERIVED. The law LinearClosed (stage 6).
-/
import Derived.Test.YthghinkicaafmaaBE
namespace Go.Proofs.Ythghinkicaafmaa
open Go.RowKit
set_option maxRecDepth 100000

/-- The parts of small numbers. -/
def mdN (t0 t1 d0 d1 : Nat) : List (Int × Int × Int) := mdP ((t0 % 4 : Nat) : Int) ((t1 % 4 : Nat) : Int) ((d0 % 9 : Nat) : Int) ((d1 % 9 : Nat) : Int)
theorem c_madeN (c s n t0 t1 d0 d1 : Nat) (hc : c ≤ 255 ∧ s ≤ 255 ∧ n ≤ 255 ∧ t0 ≤ 255 ∧ t1 ≤ 255 ∧ d0 ≤ 255 ∧ d1 ≤ 255) (A B : Value) (la lb : List Nat) (N : Nat) (hN : N = n % 41) (w : World) (hA : U8Sl w A la) (hB : U8Sl w B lb) :
    Calls Try.prog 26 #[smallV c s n t0 t1 d0 d1 A B] w fun e w' => ∃ P I, e = .returned (.tuple #[lnV (c : Int) P, I, .int .i64 (N : Int)]) ∧ MdO w w' (mdN t0 t1 d0 d1) (ldL la) (ldL lb) P I := by
  refine (c_made c s n t0 t1 d0 d1 hc A B la lb w hA hB).mono ?_
  rintro e w' ⟨P, I, rfl, h⟩
  have e1 : (n : Int).tmod 41 = (N : Int) := by rw [hN]; exact tmod_small (m := 41) (by omega)
  have e2 : mdP ((t0 : Int).tmod 4) ((t1 : Int).tmod 4) ((d0 : Int).tmod 9) ((d1 : Int).tmod 9) = mdN t0 t1 d0 d1 := by
    unfold mdN
    rw [← tmod_small (n := t0) (m := 4) (by omega), ← tmod_small (n := t1) (m := 4) (by omega), ← tmod_small (n := d0) (m := 9) (by omega), ← tmod_small (n := d1) (m := 9) (by omega)]
    rfl
  rw [e2] at h
  exact ⟨P, I, by rw [e1], h⟩
theorem flt_mdN {c s n t0 t1 d0 d1 : Nat} {la lb : List Nat} (hc : c ≤ 255) (hs : s ≤ 100000) (hn : n ≤ 1000) (h1 : ∀ x ∈ la, x ≤ 255) (h2 : ∀ x ∈ lb, x ≤ 255) : fltL (c : Int) (mdN t0 t1 d0 d1) (s : Int) [ldL la, ldL lb] (n : Int) = 0 :=
  flt_small (by omega) (by omega) (by omega) (by omega) (by omega) (ldL_ok h1) (ldL_ok h2)
theorem smallV_cells {X : World} {b c s n t0 t1 d0 d1 : Nat} {A B : Value} (h : X.heap[b]? = some (.cells #[.int .u8 (c : Int), .int .u8 (s : Int), .int .u8 (n : Int), .int .u8 (t0 : Int), .int .u8 (t1 : Int), .int .u8 (d0 : Int), .int .u8 (d1 : Int), A, B] 48 (0, 0))) :
    X.cell? ⟨b, 1, none⟩ = some (.int .u8 (s : Int)) := cell_of h rfl
theorem own_full {X : World} {base : Nat} {e : TypeId} {v : Value} {k : Nat} {am : List Int} (h : X.ownsRow base e 1 v k (ints (am.take k))) (hk : am.length = k) : X.ownsRow base e 1 v am.length (ints am) := by
  rw [List.take_of_length_le (by omega)] at h
  rw [hk]; exact h
/-- The amounts so far, in a row of their own. -/
def CoI (base : Nat) (am : List Int) (v8 i : Value) (n : Nat) (wr : World) : Prop := ∃ k : Nat, i = .int .i64 (k : Int) ∧ k ≤ n ∧ wr.ownsRow base 3 1 v8 k (ints (am.take k))
set_option maxHeartbeats 16000000 in
theorem w_LinearClosed (c s n t0 t1 d0 d1 : Nat) (hc : c ≤ 255 ∧ s ≤ 255 ∧ n ≤ 255 ∧ t0 ≤ 255 ∧ t1 ≤ 255 ∧ d0 ≤ 255 ∧ d1 ≤ 255) (A B : Value) (la lb : List Nat) (w : World) (hA : U8Sl w A la) (hB : U8Sl w B lb) :
    Calls Try.prog 5 #[smallV c s n t0 t1 d0 d1 A B] w fun e w' => e = .returned (.bool true) ∧ Below w.heap.size w w' := by
  obtain ⟨N, hN⟩ : ∃ N, N = n % 41 := ⟨_, rfl⟩
  have hN40 : N ≤ 40 := by omega
  obtain ⟨ps, hps⟩ : ∃ ps, ps = mdN t0 t1 d0 d1 := ⟨_, rfl⟩
  obtain ⟨ins, hins⟩ : ∃ ins, ins = [ldL la, ldL lb] := ⟨_, rfl⟩
  have hflt : ∀ (x : Nat), x ≤ 1000 → ∀ (y : Nat), y ≤ 255 → fltL (c : Int) ps (y : Int) ins (x : Int) = 0 := fun x hx y hy => by rw [hps, hins]; exact flt_mdN hc.1 (by omega) hx hA.small hB.small
  obtain ⟨f1, f2, f3, f4⟩ := flt_cases (hflt 0 (by omega) 0 (by omega))
  obtain ⟨f5, f6, f7⟩ := lnOk_iff.1 f1
  obtain ⟨am, ham⟩ : ∃ am, am = amts ps ins N := ⟨_, rfl⟩
  have hal : am.length = N := by rw [ham]; exact amts_len _ _ _
  have HAM := Lib.hid (show ∀ a ∈ am, 0 ≤ a ∧ a ≤ 1600000000000 by rw [ham]; exact amts_ok f7 f6 f2 N)
  have HAT := Lib.hid (fun (k : Nat) (hk : k < N) => show am[k]? = some (arr ps ins (k : Int)) by rw [ham]; exact amts_get _ _ hk)
  obtain ⟨cs, hcs⟩ : ∃ cs, cs = (s : Int) :: lvs (c : Int) (s : Int) am := ⟨_, rfl⟩
  have hcl : cs.length = N + 1 := by rw [hcs, List.length_cons, lvs_len, hal]
  have HCG := Lib.hid (fun (t : Nat) (ht : t ≤ N) => show cs[t]? = some (max (sfx (c : Int) (am.take t)).1 ((s : Int) + (sfx (c : Int) (am.take t)).2)) by rw [hcs, lvs_get _ _ _ t (by omega), lvE_closed _ _ _ (by omega)])
  have HM := Lib.hid (fun (X : World) (hX : Below w.heap.size w X) => c_madeN c s n t0 t1 d0 d1 hc A B la lb N hN X (hA.on hX (Nat.le_refl _)) (hB.on hX (Nat.le_refl _)))
  have HCO := Lib.hid (fun (X : World) (P I : Value) (hP : PtSl X P ps) (hI : LiSl X I ins) => c_Course (c : Int) ps (s : Int) ins (N : Int) P I X hP hI 0 (hflt N (by omega) s (by omega)) cs (by rw [if_pos rfl]; unfold crsP; rw [Int.toNat_natCast, ← ham]; exact hcs))
  have HAR := Lib.hid (fun (X : World) (P I : Value) (hP : PtSl X P ps) (hI : LiSl X I ins) (t : Nat) (ht : t < N) (z : Int) (hz : z = arr ps ins (t : Int)) => c_Arrives (c : Int) ps ins (t : Int) P I X hP hI z 0 (hflt t (by omega) 0 (by omega)) (by rw [if_pos rfl]; exact hz))
  rw [← hps] at HM
  have HIN := Lib.hid hins
  obtain ⟨W, hW⟩ : ∃ W, W = w.alloc (.cells #[.int .u8 (c : Int), .int .u8 (s : Int), .int .u8 (n : Int), .int .u8 (t0 : Int), .int .u8 (t1 : Int), .int .u8 (d0 : Int), .int .u8 (d1 : Int), A, B] 48) := ⟨_, rfl⟩
  have HB0 := Lib.hid (show Below w.heap.size w W by subst hW; exact (Below.refl _ _).alloc (Nat.le_refl _) _)
  have HX0 := Lib.hid (show W.heap[w.heap.size]? = some (.cells #[.int .u8 (c : Int), .int .u8 (s : Int), .int .u8 (n : Int), .int .u8 (t0 : Int), .int .u8 (t1 : Int), .int .u8 (d0 : Int), .int .u8 (d1 : Int), A, B] 48 (0, 0)) by subst hW; exact heap_alloc_new _ _)
  have hzW := at_lt HX0.out
  obtain ⟨i0, hi0, hzz0, hzz1, hzz2⟩ := info_parts int_info
  have hsb : IntKind.i64.wrap (s : Int) = s := by rw [IntKind.wrap_i64]; omega
  unfold lnV at HM HCO HAR
  unfold smallV at HM ⊢
  clear hA hB hflt f1 f2 f3 f4 f5 f6 f7 ham hcs hN hps hins
  go_enter Try.func5, Try.ntmps5
  go_wp2_with (fail)
  rw [← hW]
  clear hW
  go_at_call 26
  refine (HM.out W HB0.out).mono ?_
  rintro e w1 ⟨P, I, rfl, hmd⟩
  have HP1 := Lib.hid hmd.pt
  have HI1 := Lib.hid (show LiSl w1 I ins by rw [HIN.out]; exact hmd.li)
  have HB1 := Lib.hid (below_join HB0.out hmd.bel HB0.out.size)
  have HX1 := Lib.hid ((hmd.bel.block _ hzW).trans HX0.out)
  obtain ⟨A1, c1, rfl, -, -⟩ := hmd.pt.shape
  obtain ⟨A2, c2, rfl, -, -⟩ := HI1.out.shape
  clear hmd
  obtain ⟨W1, hW1⟩ : ∃ W1, W1 = w1.alloc (.cells #[.int .i64 (c : Int), .slice A1 ps.length c1] 24) := ⟨_, rfl⟩
  have b1 : Below w1.heap.size w1 W1 := by subst hW1; exact (Below.refl _ _).alloc (Nat.le_refl _) _
  have HBW := Lib.hid (below_join HB1.out b1 HB1.out.size)
  have HL1 := Lib.hid (show W1.heap[w1.heap.size]? = some (.cells #[.int .i64 (c : Int), .slice A1 ps.length c1] 24 (0, 0)) by subst hW1; exact heap_alloc_new _ _)
  have hz1 := at_lt HL1.out
  have HS := Lib.hid (fun (X : World) (hX : Below W1.heap.size W1 X) => (⟨lin_cells ((hX.block _ hz1).trans HL1.out), smallV_cells ((hX.block _ (Nat.lt_of_lt_of_le (at_lt HX1.out) b1.size)).trans ((b1.block _ (at_lt HX1.out)).trans HX1.out)), HP1.out.on (below_join b1 hX b1.size) (Nat.le_refl _), HI1.out.on (below_join b1 hX b1.size) (Nat.le_refl _)⟩ :
    (X.cell? ⟨w1.heap.size, 0, none⟩ = some (.int .i64 (c : Int)) ∧ X.cell? ⟨w1.heap.size, 1, none⟩ = some (.slice A1 ps.length c1)) ∧ X.cell? ⟨w.heap.size, 1, none⟩ = some (.int .u8 (s : Int)) ∧ PtSl X (.slice A1 ps.length c1) ps ∧ LiSl X (.slice A2 ins.length c2) ins))
  clear b1
  obtain ⟨⟨x0, x1⟩, x2, p0, l0⟩ := HS.out W1 (Below.refl _ _)
  rw [hW1] at x0 x1 x2
  go_wp2_with (fail)
  rw [← hW1]
  clear hW1 x0 x1 x2
  go_at_call 13
  refine (HCO.out W1 _ _ p0 l0).mono ?_
  rintro e w2 ⟨y, rfl, hy, b2⟩
  have HB2 := Lib.hid b2
  have HY2 := Lib.hid hy
  obtain ⟨Ay, cy, rfl, -, -⟩ := hy.shape
  clear p0 l0 b2 hy
  have hne : (((cs.length : Nat) : Int) != (N : Int) + 1) = false := by rw [bne_eq_false_iff_eq]; omega
  go_wp2_with (fail)
  go_loopw [8, 9] (fun v8 i wr => CoI w2.heap.size am v8 i N wr ∧ Hid (Below w2.heap.size w2 wr)) (fun _ i _ => N - (intOf i).toNat)
  case atStart => exact ⟨⟨0, rfl, Nat.zero_le _, World.ownsRow_nil _ _ _ _⟩, Lib.hid (Below.refl _ _)⟩
  case round =>
    obtain ⟨⟨k, rfl, hk, hown⟩, hB⟩ := hrel
    have hki : ((k : Nat) : Int).toNat = k := by omega
    by_cases hlt : k < N
    · have hlt' : (k : Int) < (N : Int) := by omega
      obtain ⟨z, hz⟩ : ∃ z, z = arr ps ins (k : Int) := ⟨_, rfl⟩
      have HZ := Lib.hid (show am[k]? = some z by rw [hz]; exact HAT.out k hlt)
      have HBr := Lib.hid (below_join HB2.out hB.out HB2.out.size)
      obtain ⟨⟨x0, x1⟩, -, p0, l0⟩ := HS.out wr HBr.out
      have HC := Lib.hid (HAR.out wr _ _ p0 l0 k hlt z hz)
      have HO := Lib.hid hown
      clear hown p0 l0 hz
      go_wp2_with (fail)
      go_at_call 11
      refine HC.out.mono ?_
      rintro e w3 ⟨rfl, b3⟩
      have HB3 := Lib.hid (below_join hB.out b3 hB.out.size)
      have hO3 : w3.ownsRow w2.heap.size 3 1 _ k (ints (am.take k)) := own_row_kept HO.out (fun g cur hg hcc => (b3.block g (HO.out.lt g hg).2).trans hcc)
      have HO3 := Lib.hid hO3
      have hz3 := HB3.out.size
      clear b3 x0 x1 hO3
      go_wp2_with (at_builtin; refine wpList_append_own _ rfl _ _ 32 rfl w2.heap.size 3 i0 (.int .i64 0) 1 8 Try.underlying32 hi0 hzz0 hzz1 hzz2 rfl (by omega) _ _ _ rfl (HO3.out.alloc _) ⟨w3.heap.size, 0, none⟩ 1 1 [.int .i64 z] rfl rfl (one_at (heap_alloc_new _ _)) (by simp [Value.oneCell']) (by unfold maxLen; omega) (by omega) (by simp; omega) ?_)
      intro v2 w4 hown2 hgrow _
      have R := Lib.hid (show CoI w2.heap.size am v2 (.int .i64 ((k : Int) + 1)) N w4 ∧ Hid (Below w2.heap.size w2 w4) from ⟨⟨k + 1, by go_num, by omega, by
        rw [take_snoc HZ.out, ints_snoc]
        exact hown2⟩, Lib.hid ((HB3.out.alloc (by omega) _).grown hgrow (by simp; omega) (fun g hg => (HO3.out.lt g hg).1))⟩)
      clear hown2 hgrow
      go_wp2_with (fail)
      go_roundw
      case rel => exact R.out
      case measure => simp only [intOf]; omega
    · obtain rfl : N = k := by omega
      have HBr := Lib.hid (below_join HB2.out hB.out HB2.out.size)
      have hO := own_full hown hal
      have HI8 := Lib.hid (own_intSl hO)
      obtain ⟨A3, c3, rfl, -, -⟩ := (own_intSl hO).shape
      have HAL := Lib.hid hal
      have HCL := Lib.hid hcl
      have HYr := Lib.hid (HY2.out.on hB.out (Nat.le_refl _))
      obtain ⟨⟨x0, x1⟩, x2, -, -⟩ := HS.out wr HBr.out
      clear hO hown x1 hal hcl hne
      go_wp2_with (fail)
      go_loopw [12] (fun i wx => ∃ t m : Nat, i = .int .i64 (t : Int) ∧ t ≤ N + 1 ∧ wx = wr.drewN m) (fun i _ => N + 1 - (intOf i).toNat)
      case atStart => exact ⟨0, 0, rfl, Nat.zero_le _, rfl⟩
      case round =>
        obtain ⟨t, m, rfl, ht, rfl⟩ := hrel
        have hti : ((t : Nat) : Int).toNat = t := by omega
        by_cases hle : t ≤ N
        · have hle' : (t : Int) ≤ (N : Int) := by omega
          have htl : (am.take t).length = t := by have := HAL.out; rw [List.length_take]; omega
          have HTK := Lib.hid htl
          have HBD := Lib.hid (fun (j : Nat) => sfx_bnd (C := (c : Int)) (M := 1600000000000) ⟨by omega, by omega⟩ (l := (am.take t).drop j) (fun a ha => HAM.out a (List.mem_of_mem_take (List.mem_of_mem_drop ha))))
          clear htl
          go_wp2_with (fail)
          go_loopw [13, 14, 15] (fun b su i wx => ∃ (j m : Nat), j ≤ t ∧ i = .int .i64 ((j : Int) - 1) ∧ b = .int .i64 (sfx (c : Int) ((am.take t).drop j)).1 ∧ su = .int .i64 (sfx (c : Int) ((am.take t).drop j)).2 ∧ wx = wr.drewN m) (fun _ _ i _ => (intOf i + 1).toNat)
          case atStart => exact ⟨t, m, Nat.le_refl _, rfl, by rw [List.drop_of_length_le (by rw [HTK.out]; exact Nat.le_refl _)]; rfl, by rw [List.drop_of_length_le (by rw [HTK.out]; exact Nat.le_refl _)]; rfl, rfl⟩
          case round =>
            obtain ⟨j, m', hj, hi, rfl, rfl, rfl⟩ := hrel
            obtain ⟨p1, p2, p3, p4⟩ := HBD.out j
            have hln : ((((am.take t).drop j).length : Nat) : Int) ≤ 40 := by rw [List.length_drop, HTK.out]; omega
            obtain ⟨bb, hbe⟩ : ∃ bb, bb = (sfx (c : Int) ((am.take t).drop j)).1 := ⟨_, rfl⟩
            obtain ⟨ss, hse⟩ : ∃ ss, ss = (sfx (c : Int) ((am.take t).drop j)).2 := ⟨_, rfl⟩
            rw [← hbe] at p1 p2
            rw [← hse] at p3 p4
            rw [← hbe, ← hse]
            have hbb : 0 ≤ bb ∧ bb ≤ 64000000000000 := by omega
            have hss : -4000000000 ≤ ss ∧ ss ≤ 64000000000000 := by omega
            have HBE := Lib.hid hbe
            have HSE := Lib.hid hse
            clear p1 p2 p3 p4 hln hbe hse
            cases j with
            | zero =>
              obtain rfl := hi
              rw [List.drop_zero] at HBE HSE
              have hlt0 : ((0 : Nat) : Int) - 1 = -1 := by omega
              obtain ⟨z, hz⟩ : ∃ z, cs[t]? = some z := ⟨_, HCG.out t hle⟩
              have HZ := Lib.hid (show z = max bb ((s : Int) + ss) by
                have := HCG.out t hle
                rw [hz] at this
                injection this with this
                rw [this, HBE.out, HSE.out])
              obtain ⟨b', o', c', e', hbl, -, -, hcell⟩ := HYr.out.at_ hz
              injection e' with e1 _ e2
              subst e1 e2
              have hti2 : (t : Int) < ((cs.length : Nat) : Int) := by have := HCL.out; omega
              clear hz
              rcases Int.lt_or_le bb ((s : Int) + ss) with hm | hm
              · have hz2 : z = (s : Int) + ss := by rw [HZ.out]; omega
                subst hz2
                go_wp2_with (fail)
                go_quiet (fail)
                go_wp2_with (fail)
                go_roundw
                case rel => exact ⟨t + 1, _, by go_num, by omega, rfl⟩
                case measure => simp only [intOf]; omega
              · have hz2 : z = bb := by rw [HZ.out]; omega
                subst hz2
                go_wp2_with (fail)
                go_quiet (fail)
                go_wp2_with (fail)
                go_roundw
                case rel => exact ⟨t + 1, _, by go_num, by omega, rfl⟩
                case measure => simp only [intOf]; omega
            | succ q =>
              rw [show ((q + 1 : Nat) : Int) - 1 = (q : Int) by omega] at hi
              obtain rfl := hi
              have hqi : ((q : Nat) : Int).toNat = q := by omega
              obtain ⟨a, ha⟩ : ∃ a, am[q]? = some a := ⟨_, List.getElem?_eq_getElem (by have := HAL.out; omega)⟩
              have hab := HAM.out a (List.mem_of_getElem? ha)
              obtain ⟨b', o', c', e', hbl, -, -, hcell⟩ := HI8.out.at_ ha
              injection e' with e1 _ e2
              subst e1 e2
              have hqa : (q : Int) < ((am.length : Nat) : Int) := by have := HAL.out; omega
              have hdr : (am.take t).drop q = a :: (am.take t).drop (q + 1) := by
                have hq : (am.take t)[q]? = some a := by rw [List.getElem?_take_of_lt (by omega)]; exact ha
                obtain ⟨hql, hqe⟩ := List.getElem?_eq_some_iff.1 hq
                rw [List.drop_eq_getElem_cons hql, hqe]
              have HN := Lib.hid (show sfx (c : Int) ((am.take t).drop q) = (max bb (ss + (a - (c : Int))), ss + (a - (c : Int))) by rw [hdr, sfx_cons, ← HBE.out, ← HSE.out])
              clear ha hdr
              rcases Int.lt_or_le bb (ss + (a - (c : Int))) with hm | hm
              · have HM2 := Lib.hid (show max bb (ss + (a - (c : Int))) = ss + (a - (c : Int)) by omega)
                go_wp2_with (fail)
                go_quiet (fail)
                go_wp2_with (fail)
                go_roundw
                case rel => exact ⟨q, _, by omega, by go_num, by rw [HN.out, HM2.out], by rw [HN.out], rfl⟩
                case measure => simp only [intOf]; omega
              · have HM2 := Lib.hid (show max bb (ss + (a - (c : Int))) = bb by omega)
                go_wp2_with (fail)
                go_quiet (fail)
                go_wp2_with (fail)
                go_roundw
                case rel => exact ⟨q, _, by omega, by go_num, by rw [HN.out, HM2.out], by rw [HN.out], rfl⟩
                case measure => simp only [intOf]; omega
        · have hle' : ¬ (t : Int) ≤ (N : Int) := by omega
          clear x0 x2
          go_wp2_with (fail)
          go_at_call 21
          refine (c_works _).mono ?_
          rintro e w7 ⟨rfl, b7⟩
          have HB7 := Lib.hid (below_join (drew_below (below_join HBW.out HBr.out HBW.out.size) ⟨m, rfl⟩) b7 (below_join HBW.out HBr.out HBW.out.size).size)
          clear b7
          go_wp2_with (fail)
          go_ret
          exact ⟨rfl, HB7.out⟩
theorem row_LinearClosed (w : World) (c s n t0 t1 d0 d1 : Nat) (hc : c ≤ 255 ∧ s ≤ 255 ∧ n ≤ 255 ∧ t0 ≤ 255 ∧ t1 ≤ 255 ∧ d0 ≤ 255 ∧ d1 ≤ 255) (A B : Value) (la lb : List Nat) (hA : U8Sl w A la) (hB : U8Sl w B lb) :
    Calls Try.prog 5 #[smallV c s n t0 t1 d0 d1 A B] w fun e w' => e = .returned (.bool true) ∧ Below w.heap.size w w' := w_LinearClosed c s n t0 t1 d0 d1 hc A B la lb w hA hB
end Go.Proofs.Ythghinkicaafmaa
