/-
  DERIVED. The reference's Least (stage 6).
-/
import Derived.Test.YthghinkicaafmaaBS
namespace Go.Proofs.Ythghinkicaafmaa
open Go.RowKit
set_option maxRecDepth 100000

theorem sum_bound {M : Int} : ∀ (l : List Int), (∀ a ∈ l, 0 ≤ a ∧ a ≤ M) → 0 ≤ l.sum ∧ l.sum ≤ M * (l.length : Int) := by
  intro l
  induction l with
  | nil => intro _; exact ⟨Int.le_refl _, by show (0 : Int) ≤ M * 0; omega⟩
  | cons a l ih =>
    intro h
    have h1 := ih fun x hx => h x (List.mem_cons_of_mem _ hx)
    have h2 := h a (by simp)
    rw [List.sum_cons, List.length_cons, show ((l.length + 1 : Nat) : Int) = (l.length : Int) + 1 by omega, Int.mul_add, Int.mul_one]
    omega
theorem stretch_bound {am : List Int} {m : Nat} (h : ∀ a ∈ am, 0 ≤ a ∧ a ≤ 1600000000000) (hm : am.length = m) (hm1 : m ≤ 1000) (i t : Nat) : 0 ≤ ((am.take t).drop i).sum ∧ ((am.take t).drop i).sum ≤ 1600000000000000 := by
  have h1 := sum_bound ((am.take t).drop i) fun a ha => h a (List.mem_of_mem_take (List.mem_of_mem_drop ha))
  have h2 : ((am.take t).drop i).length ≤ 1000 := by rw [List.length_drop, List.length_take]; omega
  omega
theorem stretch_step {am : List Int} {i t : Nat} {a : Int} (h : am[t]? = some a) (hit : i ≤ t) : ((am.take (t + 1)).drop i).sum = ((am.take t).drop i).sum + a := by
  have ht := (List.getElem?_eq_some_iff.1 h).1
  rw [List.take_add_one, h, List.drop_append, show i - (am.take t).length = 0 by rw [List.length_take]; omega]
  simp
theorem lstP_flt {C : Int} {ps : List (Int × Int × Int)} {s : Int} {ins : List (List Int)} {n lim : Int} (h : fltL C ps s ins n ≠ 0) : lstP C ps s ins n lim = (0, fltL C ps s ins n) := by
  unfold lstP; rw [if_neg h]
set_option maxHeartbeats 16000000 in
theorem d_Least (C : Int) (ps : List (Int × Int × Int)) (s : Int) (ins : List (List Int)) (n lim : Int) (P I : Value) (w : World) (hP : PtSl w P ps) (hI : LiSl w I ins) (y r : Int) (hr : lstP C ps s ins n lim = (y, r)) :
    Calls Try.prog 25 #[lnV C P, .int .i64 s, I, .int .i64 n, .int .i64 lim] w fun e w' => e = .returned (.tuple #[.int .i64 y, .int .i64 r]) ∧ Below w.heap.size w w' := by
  obtain ⟨W, hW⟩ : ∃ W, W = w.alloc (.cells #[.int .i64 C, P] 24) := ⟨_, rfl⟩
  have B0 : Below w.heap.size w W := by subst hW; exact (Below.refl _ _).alloc (Nat.le_refl _) _
  have HB := Lib.hid B0
  have HL := Lib.hid (show W.heap[w.heap.size]? = some (.cells #[.int .i64 C, P] 24 (0, 0)) by subst hW; exact heap_alloc_new _ _)
  have hz : w.heap.size < W.heap.size := by subst hW; simp
  obtain ⟨f, hf⟩ : ∃ f, f = fltL C ps s ins n := ⟨_, rfl⟩
  have HA := Lib.hid (d_asked C ps s ins n P I W (hP.on B0 (Nat.le_refl _)) (hI.on B0 (Nat.le_refl _)) f hf.symm)
  have HP := Lib.hid hP
  have HI := Lib.hid hI
  obtain ⟨A, c, rfl, -, -⟩ := hP.shape
  obtain ⟨A2, c2, rfl, -, -⟩ := hI.shape
  obtain ⟨x0, x1⟩ := lin_cells HL.out
  unfold lnV at HA
  unfold lnV
  clear B0 hP hI
  by_cases h1 : f = 0
  · subst h1
    obtain ⟨g1, g2, g3, g4⟩ := flt_cases hf.symm
    obtain ⟨g5, g6, g7⟩ := lnOk_iff.1 g1
    obtain ⟨m, rfl⟩ : ∃ m : Nat, n = (m : Int) := ⟨n.toNat, by omega⟩
    have hm1 : m ≤ 1000 := by omega
    obtain ⟨am, ham⟩ : ∃ am, am = amts ps ins m := ⟨_, rfl⟩
    have hal : am.length = m := by rw [ham]; exact amts_len _ _ _
    have hbd : ∀ a ∈ am, 0 ≤ a ∧ a ≤ 1600000000000 := fun a ha => by
      rw [ham] at ha
      unfold amts at ha
      obtain ⟨t, -, rfl⟩ := List.mem_map.1 ha
      have := arr_bounds g2 g7 (t : Int)
      omega
    have HAL := Lib.hid hal
    have HBD := Lib.hid hbd
    have HAR := Lib.hid (fun (k : Nat) (a : Int) (ha : am[k]? = some a) (X : World) (hX : Below w.heap.size w X) => show Calls Try.prog 33 #[lnV C (.slice A ps.length c), .slice A2 ins.length c2, .int .i64 (k : Int)] X fun e w' => e = .returned (.int .i64 a) ∧ Below X.heap.size X w' from by
      have hk : k < m := by rw [← hal]; exact (List.getElem?_eq_some_iff.1 ha).1
      have h2 : a = arr ps ins (k : Int) := by rw [ham, amts_get ps ins hk] at ha; exact (Option.some.inj ha).symm
      rw [h2]
      exact d_arrives C ps ins (k : Int) g7 (by omega) g2 (by omega) _ _ X (HP.out.on hX (Nat.le_refl _)) (HI.out.on hX (Nat.le_refl _)))
    have hr2 : (if lstN s lim am ≤ 100000000 then (((lstN s lim am : Nat) : Int), (0 : Int)) else (0, 7)) = (y, r) := by
      rw [← hr]; unfold lstP; rw [← hf, if_pos rfl, Int.toNat_natCast, ← ham]
    unfold lnV at HAR
    clear hf g1 g2 g3 g6 g7 hr ham hbd hal
    rcases hd : decide (lim < s) with _ | _
    · have hsl : s ≤ lim := by have := of_decide_eq_false hd; omega
      have hl0 : 0 ≤ lim := by omega
      have hd2 : decide (lim < 0) = false := by rw [decide_eq_false_iff_not]; omega
      have HSL := Lib.hid hsl
      have HR := Lib.hid hr2
      clear hr2 hsl
      go_enter Try.func25, Try.ntmps25
      go_wp2_with (fail)
      rw [← hW]
      clear hW
      go_at_call 32
      refine HA.out.mono ?_
      rintro e w1 ⟨rfl, b1⟩
      have HB1 := Lib.hid (below_join HB.out b1 HB.out.size)
      have HL1 := Lib.hid ((b1.block _ hz).trans HL.out)
      have hz1 := Nat.lt_of_lt_of_le hz b1.size
      clear b1 x0 x1
      go_wp2_with (fail)
      go_loopw [14, 13] (fun i v wx => ∃ (k : Nat) (K : Int), i = .int .i64 (k : Int) ∧ v = .int .i64 K ∧ k ≤ m ∧ K ≤ 2000000000000000 ∧ Hid (LsI s lim am k k K) ∧ Hid (Below w1.heap.size w1 wx)) (fun i _ _ => m - (intOf i).toNat)
      case atStart => exact ⟨0, 0, rfl, rfl, Nat.zero_le _, by omega, Lib.hid (lsI_start s lim am), Lib.hid (Below.refl _ _)⟩
      case round =>
        obtain ⟨k, K, rfl, rfl, hk, hK, hS, hX⟩ := hrel
        by_cases hlt : k < m
        · have hkm : (k : Int) < (m : Int) := by omega
          have HLT := Lib.hid hlt
          have HX1 := Lib.hid hX.out
          have HLr := Lib.hid ((hX.out.block _ hz1).trans HL1.out)
          have h00 : ((am.take k).drop k).sum = 0 := by rw [List.drop_of_length_le (by rw [List.length_take]; omega)]; rfl
          have H00 := Lib.hid h00.symm
          clear h00 hlt hX
          go_wp2_with (fail)
          go_loopw [16, 15, 13] (fun t u v wx => ∃ (t' : Nat) (S K' : Int), t = .int .i64 (t' : Int) ∧ u = .int .i64 S ∧ v = .int .i64 K' ∧ k ≤ t' ∧ t' ≤ m ∧ K' ≤ 2000000000000000 ∧ Hid (S = ((am.take t').drop k).sum) ∧ Hid (LsI s lim am k t' K') ∧ Hid (Below w1.heap.size w1 wx)) (fun t _ _ _ => m - (intOf t).toNat)
          case atStart => exact ⟨k, 0, K, rfl, rfl, rfl, Nat.le_refl _, hk, hK, H00, hS, HX1⟩
          case round =>
            obtain ⟨t, S, K2, rfl, rfl, rfl, hkt, htm, hK2, hSS, hS2, hX2'⟩ := hrel
            have hX2 := hX2'
            by_cases hlt2 : t < m
            · obtain ⟨a, ha⟩ : ∃ a, am[t]? = some a := ⟨_, List.getElem?_eq_getElem (by have := HAL.out; omega)⟩
              have hab := HBD.out a (List.mem_of_getElem? ha)
              have hst := stretch_step ha hkt
              rw [← hSS.out] at hst
              have hsb := stretch_bound HBD.out HAL.out hm1 k (t + 1)
              rw [hst] at hsb
              have htm2 : (t : Int) < (m : Int) := by omega
              have HLr2 := Lib.hid ((hX2.out.block _ hz1).trans HL1.out)
              have HCA := Lib.hid (HAR.out t a ha wr (below_join HB1.out hX2.out HB1.out.size))
              have HST := Lib.hid hst
              obtain ⟨F, hF⟩ : ∃ F, F = abv (S + a) ((t + 1 - k : Nat) : Int) lim := ⟨_, rfl⟩
              have hFb := abv_bound (sum := S + a) (ticks := ((t + 1 - k : Nat) : Int)) (M := 1600000000000000) (by omega) hl0 (by omega) hsb.2
              rw [← hF] at hFb
              have HCB := Lib.hid (fun (X : World) => show Calls Try.prog 42 #[.int .i64 (S + a), .int .i64 ((t : Int) + 1 - (k : Int)), .int .i64 lim] X fun e w' => e = .returned (.int .i64 F) ∧ Below X.heap.size X w' from by
                rw [show (t : Int) + 1 - (k : Int) = ((t + 1 - k : Nat) : Int) by omega, hF]; exact d_above _ _ _ X (by omega) (by omega) hl0)
              have HF := Lib.hid hF
              have hw1 : IntKind.i64.wrap (S + a) = S + a := by rw [IntKind.wrap_i64]; omega
              have hw2 : IntKind.i64.wrap ((t : Int) + 1 - (k : Int)) = (t : Int) + 1 - (k : Int) := by rw [IntKind.wrap_i64]; omega
              have hw3 : IntKind.i64.wrap ((t : Int) + 1) = (t : Int) + 1 := by rw [IntKind.wrap_i64]; omega
              obtain ⟨mx, hmx⟩ : ∃ mx, mx = max K2 F := ⟨_, rfl⟩
              have hif : (if K2 < F then F else K2) = mx := by rw [hmx]; split <;> omega
              have hmb : mx ≤ 2000000000000000 := by omega
              have HMX := Lib.hid hmx
              have HLT2 := Lib.hid hlt2
              clear ha hst hF hmx hlt2 hX2 hFb
              obtain ⟨x0, x1⟩ := lin_cells HLr2.out
              rcases Nat.eq_zero_or_pos k with hk0 | hk0
              · have hkb : ((k : Int) == 0) = true := by rw [beq_iff_eq]; omega
                have hs0 : ((am.take (t + 1)).drop k).sum = (am.take (t + 1)).sum := by rw [hk0]; rfl
                obtain ⟨G, hG⟩ : ∃ G, G = abv (s + (S + a)) ((t + 1 : Nat) : Int) lim := ⟨_, rfl⟩
                have hGb := abv_bound (sum := s + (S + a)) (ticks := ((t + 1 : Nat) : Int)) (M := 2000000000000000) (by omega) hl0 (by omega) (by omega)
                rw [← hG] at hGb
                have HCG := Lib.hid (fun (X : World) => show Calls Try.prog 42 #[.int .i64 (s + (S + a)), .int .i64 ((t : Int) + 1), .int .i64 lim] X fun e w' => e = .returned (.int .i64 G) ∧ Below X.heap.size X w' from by
                  rw [show (t : Int) + 1 = ((t + 1 : Nat) : Int) by omega, hG]; exact d_above _ _ _ X (by omega) (by omega) hl0)
                obtain ⟨mz, hmz⟩ : ∃ mz, mz = max mx G := ⟨_, rfl⟩
                have hif2 : (if mx < G then G else mx) = mz := by rw [hmz]; split <;> omega
                have hmb2 : mz ≤ 2000000000000000 := by omega
                have hw4 : IntKind.i64.wrap (s + (S + a)) = s + (S + a) := by rw [IntKind.wrap_i64]; omega
                have HNS := Lib.hid (show LsI s lim am k (t + 1) mz by
                  have h0 := hS2.out
                  have h1 := HF.out
                  have h2 := HST.out
                  rw [hk0] at h0 h1 h2 ⊢
                  rw [hmz, HMX.out]
                  exact lsI_step0 h0 (by have := HLT2.out; have := HAL.out; omega) (by rw [h1, h2]) (by rw [hG, ← h2]; rfl))
                clear hmz hG hGb hs0 hk0
                go_wp2_with (fail)
                go_at_call 33
                refine HCA.out.mono ?_
                rintro e w7 ⟨rfl, b7⟩
                have HB7 := Lib.hid (below_join hX2'.out b7 hX2'.out.size)
                clear x0 x1 b7
                go_wp2_with (fail)
                go_at_call 42
                refine (HCB.out w7).mono ?_
                rintro e w8 ⟨rfl, b8⟩
                have HB8 := Lib.hid (below_join HB7.out b8 HB7.out.size)
                clear b8
                go_wp2_with (fail)
                go_at_call 42
                refine (HCG.out w8).mono ?_
                rintro e w9 ⟨rfl, b9⟩
                have HB9 := Lib.hid (below_join HB8.out b9 HB8.out.size)
                clear b9
                go_wp2_with (fail)
                go_roundw
                case rel => exact ⟨t + 1, S + a, mz, by go_num, rfl, rfl, by omega, by (have := HLT2.out; omega), hmb2, Lib.hid HST.out.symm, HNS, HB9⟩
                case measure => (have := HLT2.out; simp only [intOf]; omega)
              · have hkb : ((k : Int) == 0) = false := by rw [beq_eq_false_iff_ne]; omega
                have HNS := Lib.hid (show LsI s lim am k (t + 1) mx by
                  rw [HMX.out]; exact lsI_step hS2.out hk0 hkt (by have := HLT2.out; have := HAL.out; omega) (by rw [HF.out, HST.out]))
                go_wp2_with (fail)
                go_at_call 33
                refine HCA.out.mono ?_
                rintro e w7 ⟨rfl, b7⟩
                have HB7 := Lib.hid (below_join hX2'.out b7 hX2'.out.size)
                clear x0 x1 b7
                go_wp2_with (fail)
                go_at_call 42
                refine (HCB.out w7).mono ?_
                rintro e w8 ⟨rfl, b8⟩
                have HB8 := Lib.hid (below_join HB7.out b8 HB7.out.size)
                clear b8
                go_wp2_with (fail)
                go_roundw
                case rel => exact ⟨t + 1, S + a, mx, by go_num, rfl, rfl, by omega, by (have := HLT2.out; omega), hmb, Lib.hid HST.out.symm, HNS, HB8⟩
                case measure => (have := HLT2.out; simp only [intOf]; omega)
            · obtain hte : t = m := by omega
              have htm2 : ¬ (t : Int) < (m : Int) := by omega
              have HNS := Lib.hid (show LsI s lim am (k + 1) (k + 1) K2 by
                have h0 := hS2.out
                rw [hte, ← HAL.out] at h0
                exact lsI_next h0)
              have HXE := Lib.hid hX2'.out
              clear hlt2 hte hX2 hX2'
              go_wp2_with (fail)
              go_roundw
              case rel => exact ⟨k + 1, K2, by go_num, rfl, by (have := HLT.out; omega), hK2, HNS, HXE⟩
              case measure => (have := HLT.out; simp only [intOf]; omega)
        · obtain hke : k = m := by omega
          have hkm : ¬ (k : Int) < (m : Int) := by omega
          have HBE := Lib.hid (below_join HB1.out hX.out HB1.out.size)
          have hle := lsI_end (by have h0 := hS.out; rw [hke, ← HAL.out] at h0; exact h0) g4.1 HSL.out
          have hK0 := hS.out.1
          have h8 := HR.out
          clear hlt hX hke
          rcases hd3 : decide (100000000 < K) with _ | _
          · have h3 := of_decide_eq_false hd3
            have hv : lstN s lim am = K.toNat := by rw [hle, if_pos (show K ≤ 100000000 by omega)]
            rw [hv, if_pos (show K.toNat ≤ 100000000 by omega), Int.toNat_of_nonneg hK0] at h8
            obtain ⟨rfl, rfl⟩ := Prod.mk.inj h8
            clear hle h8 hK0 hK hv h3
            go_wp2_with (fail)
            exact retTT rfl rfl rfl rfl ⟨rfl, HBE.out⟩
          · have h3 := of_decide_eq_true hd3
            have hv : lstN s lim am = 100000001 := by rw [hle, if_neg (show ¬ K ≤ 100000000 by omega)]
            rw [hv, if_neg (by omega)] at h8
            obtain ⟨rfl, rfl⟩ := Prod.mk.inj h8
            clear hle h8 hK0 hK hv h3
            go_wp2_with (fail)
            exact retTT rfl rfl rfl rfl ⟨rfl, HBE.out⟩
    · have hsl : lim < s := of_decide_eq_true hd
      rw [lstN_none hsl, if_neg (by omega)] at hr2
      injection hr2 with hy hr2
      subst hy hr2
      clear hsl
      go_enter Try.func25, Try.ntmps25
      go_wp2_with (fail)
      rw [← hW]
      clear hW
      go_at_call 32
      refine HA.out.mono ?_
      rintro e w1 ⟨rfl, b1⟩
      have HB1 := Lib.hid (below_join HB.out b1 HB.out.size)
      clear b1 x0 x1
      go_wp2_with (fail)
      exact retTT rfl rfl rfl rfl ⟨rfl, HB1.out⟩
  · have hne : (f != 0) = true := by rw [bne_iff_ne]; exact h1
    rw [lstP_flt (by rw [← hf]; exact h1), ← hf] at hr
    injection hr with hy hr
    subst hy hr
    clear h1 hf
    go_enter Try.func25, Try.ntmps25
    go_wp2_with (fail)
    rw [← hW]
    clear hW
    go_at_call 32
    refine HA.out.mono ?_
    rintro e w1 ⟨rfl, b1⟩
    have HB1 := Lib.hid (below_join HB.out b1 HB.out.size)
    clear b1 x0 x1
    go_wp2_with (fail)
    exact retTT rfl rfl rfl rfl ⟨rfl, HB1.out⟩
end Go.Proofs.Ythghinkicaafmaa
