/-
  DERIVED. The law BreakerLower.
-/
import Derived.Test.YtomfaknemjbjcaaCB
import Derived.Test.YtomfaknemjbjcaaBK
namespace Go.Proofs.Ytomfaknemjbjcaa
open Go.RowKit
set_option maxRecDepth 100000

def LoRel (w w2 : World) (b : Nat) (l : List Int) (s : List Nat) (f L S F : Int) (lv : Value) (i : Value) (wr : World) : Prop :=
  ∃ k : Nat, i = .int .i64 (k : Int) ∧ k ≤ l.length ∧ wr.ownsRow w2.heap.size 3 1 lv l.length (ints (midL l s k)) ∧ Hid (Below w.heap.size w wr) ∧ Bk wr b f L S F ∧ Hid (Below w2.heap.size w2 wr)
theorem LoRel.drew {w w2 : World} {b : Nat} {l : List Int} {s : List Nat} {f L S F : Int} {lv : Value} {i : Value} {wr : World} (h : LoRel w w2 b l s f L S F lv i wr) : LoRel w w2 b l s f L S F lv i wr.drew := by
  obtain ⟨k, h1, h2, h3, h4, h5, h6⟩ := h
  exact ⟨k, h1, h2, h3.drew, Lib.hid h4.out.drew, h5, Lib.hid h6.out.drew⟩
set_option maxHeartbeats 16000000 in
theorem row_BreakerLower (w : World) (a b c e : Nat) (ha : a ≤ 255) (hb : b ≤ 255) (hc : c ≤ 255) (he : e ≤ 255) (v1 : Value) (l0 : List Nat) (hv1 : U8Sl w v1 l0) (v2 : Value) (s : List Nat) (hv2 : U8Sl w v2 s) (d : Nat) (hd : d ≤ 255) :
    Calls Try.prog 7 #[smV a b c e, v1, v2, .int .u8 (d : Int)] w fun e w' => e = .returned (.bool true) ∧ Below w.heap.size w w' := by
  obtain ⟨h, hh⟩ : ∃ h, h = e % (b + 1) := ⟨_, rfl⟩
  have hhb : h ≤ b := by have := Nat.mod_lt e (show 0 < b + 1 by omega); omega
  obtain ⟨l, hl⟩ : ∃ l, l = ldL l0 := ⟨_, rfl⟩
  obtain ⟨h2, hh2⟩ : ∃ z, z = max 0 ((h : Int) - (d : Int)) := ⟨_, rfl⟩
  have hh20 : 0 ≤ h2 ∧ h2 ≤ (h : Int) := by omega
  have hl255 : ∀ x ∈ l0, x ≤ 255 := by obtain ⟨_, _, _, _, _, _, h5, _⟩ := hv1; exact h5
  have hlm : ∀ x ∈ l, 0 ≤ x ∧ x ≤ 255 := by rw [hl]; exact ldL_mem hl255
  have hll : l.length ≤ 30 := by rw [hl]; exact ldL_len l0
  have hlow : ∀ x ∈ lowL l s, 0 ≤ x ∧ x ≤ 255 := by
    intro x hx
    obtain ⟨i, hi, rfl⟩ := List.getElem_of_mem hx
    have hi2 : i < l.length := by rw [lowL_len] at hi; exact hi
    have h1 := lowL_le l s (fun x hx => (hlm x hx).1) i _ _ (List.getElem?_eq_getElem hi) (List.getElem?_eq_getElem hi2)
    have h3 := hlm _ (List.getElem_mem hi2)
    omega
  obtain ⟨a1, ha1⟩ : ∃ z, z = trp (a : Int) (b : Int) ((a : Int) + (c : Int)) ((h : Int), false) l := ⟨_, rfl⟩
  obtain ⟨c1, hc1⟩ : ∃ z, z = trp (a : Int) (b : Int) ((a : Int) + (c : Int)) (h2, false) (lowL l s) := ⟨_, rfl⟩
  have HT1 := Lib.hid (fun (X : World) (u : Value) (hu : IntSl X u l) => c_Trips 0 (a : Int) (b : Int) ((a : Int) + (c : Int)) (h : Int) l u X hu (optI a1) 0 (by
    unfold tripsP
    rw [if_pos (fltH_ok (by omega) (by omega) (by omega) (by omega) (lsOk_of (by omega) hlm)), ha1]))
  have HT2 := Lib.hid (fun (X : World) (u : Value) (hu : IntSl X u (lowL l s)) => c_Trips 0 (a : Int) (b : Int) ((a : Int) + (c : Int)) h2 (lowL l s) u X hu (optI c1) 0 (by
    unfold tripsP
    rw [if_pos (fltH_ok (by omega) (by omega) (by omega) (by omega) (lsOk_of (by rw [lowL_len]; omega) hlow)), hc1]))
  have hfin : (optI c1 = -1) ∨ ((optI c1 == -1) = false ∧ (optI a1 != -1) = true ∧ optI a1 ≤ optI c1) := by
    cases hcc : c1 with
    | none => exact .inl rfl
    | some j =>
      right
      obtain ⟨i, hi, hij⟩ := trp_mono (L := (a : Int)) (S := (b : Int)) (F := (a : Int) + (c : Int)) (by omega) l (lowL l s) (h : Int) h2 hh20.2 (by omega) (lowL_len l s) (fun i x y h1 h2 => (lowL_le l s (fun x hx => (hlm x hx).1) i x y h1 h2).2) j (by rw [← hc1, hcc])
      rw [ha1, hi]
      refine ⟨by rw [beq_eq_false_iff_ne]; show (j : Int) ≠ -1; omega, by rw [bne_iff_ne]; show (i : Int) ≠ -1; omega, ?_⟩
      show (i : Int) ≤ (j : Int)
      omega
  have HFIN := Lib.hid hfin
  have HM := Lib.hid (fun (X : World) => c_made a b c e ha hb hc he (h : Int) (by rw [hh]) X)
  have HLD := Lib.hid (fun (X : World) (hX : Below w.heap.size w X) => c_loads l0 v1 X (hv1.on hX (Nat.le_refl _)))
  rw [← hl] at HLD
  have HCL := Lib.hid (fun (X : World) (u : Value) (hu : IntSl X u l) => c_Clone l (by omega) u X hu)
  have HV2 := Lib.hid hv2
  have HLM := Lib.hid hlm
  have HH2 := Lib.hid hh2
  unfold smallV at HM
  unfold bkV at HM HT1 HT2
  unfold smV
  obtain ⟨B1, k1, rfl, -, -⟩ := hv1.shape
  obtain ⟨B2, k2, rfl, hk2, hk2'⟩ := hv2.shape
  unfold maxLen at hk2'
  generalize optI a1 = oa at *
  generalize optI c1 = oc at *
  clear hfin ha1 hc1 hlow hl hl255 hlm hh hv1 hv2 hh2
  obtain ⟨w0, hW⟩ : ∃ w0, w0 = w.alloc (.cells #[.int .u8 (a : Int), .int .u8 (b : Int), .int .u8 (c : Int), .int .u8 (e : Int)] 44) := ⟨_, rfl⟩
  have HB0 := Lib.hid (show Below w.heap.size w w0 by subst hW; exact (Below.refl _ _).alloc (Nat.le_refl _) _)
  go_enter Try.func7, Try.ntmps7
  go_wp2_with (fail)
  rw [← hW]
  clear hW
  go_at_call 28
  refine (HM.out _).mono ?_
  rintro r w1 ⟨rfl, b1⟩
  have HB1 := Lib.hid (below_join HB0.out b1 HB0.out.size)
  obtain ⟨W1, hW1⟩ : ∃ W1, W1 = w1.alloc (.cells #[.int .i64 0, .int .i64 (a : Int), .int .i64 (b : Int), .int .i64 ((a : Int) + (c : Int))] 23) := ⟨_, rfl⟩
  have HBW := Lib.hid (show Below w.heap.size w W1 by subst hW1; exact HB1.out.alloc HB1.out.size _)
  have HK1 := Lib.hid (show Bk W1 w1.heap.size 0 (a : Int) (b : Int) ((a : Int) + (c : Int)) by subst hW1; exact bk_new _ _ _ _ _)
  have hz1 : w1.heap.size < W1.heap.size := block_lt HK1.out
  clear b1
  go_wp2_with (fail)
  rw [← hW1]
  clear hW1
  go_at_call 33
  refine (HLD.out _ HBW.out).mono ?_
  rintro r w2 ⟨u2, rfl, ho2, b2⟩
  have HU2 := Lib.hid (own_intSl ho2)
  obtain ⟨A2, c2, hu2, -, -⟩ := (own_intSl ho2).shape
  subst hu2
  have HB2 := Lib.hid (below_join HBW.out b2 HBW.out.size)
  have HK2 := Lib.hid (HK1.out.on b2 hz1)
  have hz2 := Nat.lt_of_lt_of_le hz1 b2.size
  clear ho2 b2
  go_wp2_with (fail)
  go_at_call 34
  refine (HCL.out _ _ HU2.out).mono ?_
  rintro r w3 ⟨u3, rfl, ho3, b3⟩
  obtain ⟨A3, c3, hu3, hcl3, hcm3⟩ := (own_intSl ho3).shape
  subst hu3
  have HO3 := Lib.hid ho3
  have HU3 := Lib.hid (HU2.out.on b3 (Nat.le_refl _))
  have HB3 := Lib.hid (below_join HB2.out b3 HB2.out.size)
  have HK3 := Lib.hid (HK2.out.on b3 hz2)
  have hz3 := Nat.lt_of_lt_of_le hz2 b3.size
  have hz23 := b3.size
  have HB23 := Lib.hid b3
  clear ho3 b3
  unfold maxLen at hcm3
  go_wp2_with (fail)
  go_loopw [29] (fun i wr => LoRel w w2 w1.heap.size l s 0 (a : Int) (b : Int) ((a : Int) + (c : Int)) (.slice A3 l.length c3) i wr) (fun i _ => l.length - (intOf i).toNat)
  case atStart => exact ⟨0, rfl, Nat.zero_le _, HO3.out, Lib.hid HB3.out, HK3.out, Lib.hid HB23.out⟩
  case round =>
    obtain ⟨k, rfl, hk, hown, hB, hK, hI⟩ := hrel
    have hwz := hI.out.size
    have HOr := Lib.hid hown
    have HKr := Lib.hid hK
    by_cases hlt : k < l.length
    · obtain ⟨g, cap, hAg, hg2, hgl⟩ := hown.form (show 0 < l.length by omega)
      injection hAg with hAg1 _ hAg2
      subst hAg1 hAg2
      obtain ⟨x, hx⟩ : ∃ x, l[k]? = some x := ⟨_, List.getElem?_eq_getElem hlt⟩
      have hx255 := HLM.out x (List.mem_of_getElem? hx)
      have HX := Lib.hid hx
      have hki : ((k : Nat) : Int).toNat = k := by omega
      by_cases hks : k < s.length
      · obtain ⟨y, hy⟩ : ∃ y, s[k]? = some y := ⟨_, List.getElem?_eq_getElem hks⟩
        obtain ⟨b5, o5, c5, e5, hbl5, hy255, hc50⟩ := HV2.out.at_ hy
        injection e5 with e51 _ e52
        subst e51 e52
        have hcell5 := (hB.out.cell (p := ⟨b5, o5 + k, none⟩) hbl5).trans hc50
        have hcellg : wr.cell? ⟨g, k, none⟩ = some (.int .i64 x) := by
          refine (hown.cellAt k (by omega)).trans ?_
          unfold ints
          rw [List.getElem?_map, midL_get l s k hlt, hx]; rfl
        have hfrg := hown.frozenAt k
        have hks' : (k : Int) < ((s.length : Nat) : Int) := by omega
        have hkl' : (k : Int) < ((l.length : Nat) : Int) := by omega
        have HY := Lib.hid hy
        obtain ⟨u, hu⟩ : ∃ u, u = max 0 (x - (y : Int)) := ⟨_, rfl⟩
        have HU := Lib.hid hu
        obtain ⟨hst, hgr⟩ := hown.stored k (.int .i64 u)
        have R := Lib.hid (show LoRel w w2 w1.heap.size l s 0 (a : Int) (b : Int) ((a : Int) + (c : Int)) (.slice (some ⟨g, 0, none⟩) l.length c3) (.int .i64 ((k : Int) + 1)) (wr.setCell ⟨g, k, none⟩ (.int .i64 u)) from by
          have hbb : Below w2.heap.size wr (wr.setCell ⟨g, k, none⟩ (.int .i64 u)) := (Below.refl _ _).setCell (by exact hg2) _
          refine ⟨k + 1, by go_num, by omega, ?_, Lib.hid (below_join hB.out hbb HB2.out.size), hK.on hbb hz2, Lib.hid (hI.out.trans hbb)⟩
          rw [ints_set, midL_succ l s k u hlt (by rw [lowL_get l s k x hx, hy, hu])] at hst
          exact hst)
        rw [hu] at R
        clear hx hy hst hgr hown hK hI hc50 hu
        go_wp2_with (fail)
        go_region
        all_goals go_wp2_with (fail)
        all_goals exact ⟨R.out.drew, by simp only [intOf]; omega⟩
      · have R := Lib.hid (show LoRel w w2 w1.heap.size l s 0 (a : Int) (b : Int) ((a : Int) + (c : Int)) (.slice (some ⟨g, 0, none⟩) l.length c3) (.int .i64 ((k : Int) + 1)) wr from
          ⟨k + 1, by go_num, by omega, by rw [midL_skip l s k x hx (by omega)] at hown; exact hown, hB, hK, hI⟩)
        have hks' : ((s.length : Nat) : Int) ≤ (k : Int) := by omega
        clear hx hown hK hI
        go_wp2_with (fail)
        go_roundw
        case rel => exact R.out
        case measure => simp only [intOf]; omega
    · obtain rfl : k = l.length := by omega
      rw [midL_end] at hown
      have HL := Lib.hid (show IntSl wr _ (lowL l s) from own_intSl (by rw [lowL_len]; exact hown))
      have HH := Lib.hid (HU2.out.on hI.out (Nat.le_refl _))
      have hzr := Nat.lt_of_lt_of_le hz2 hI.out.size
      obtain ⟨x0, x1, x2, x3⟩ := hK.cells
      clear hown hK hI
      go_wp2_with (fail)
      go_at_call 18
      refine (HT1.out _ _ HH.out).mono ?_
      rintro r w5 ⟨rfl, b5⟩
      have HB5 := Lib.hid (below_join hB.out b5 hB.out.size)
      have HK5 := Lib.hid (HKr.out.on b5 hzr)
      have HL5 := Lib.hid (HL.out.on b5 (Nat.le_refl _))
      clear b5 x0 x1 x2 x3
      obtain ⟨x0, x1, x2, x3⟩ := HK5.out.cells
      have hmx : max 0 ((h : Int) - (d : Int)) = h2 := HH2.out.symm
      go_wp2_with (fail)
      go_at_call 18
      refine (HT2.out _ _ HL5.out).mono ?_
      rintro r w6 ⟨rfl, b6⟩
      have HB6 := Lib.hid (below_join HB5.out b6 HB5.out.size)
      clear b6 x0 x1 x2 x3
      rcases HFIN.out with d0 | ⟨d0, d1, d2⟩
      · subst d0
        go_wp2_with (fail)
        go_at_call 21
        refine (c_works _).mono ?_
        rintro e w7 ⟨rfl, b7⟩
        have HB7 := Lib.hid (below_join HB6.out b7 HB6.out.size)
        clear b7
        go_wp2_with (fail)
        go_ret
        exact ⟨rfl, HB7.out⟩
      · go_wp2_with (fail)
        go_at_call 21
        refine (c_works _).mono ?_
        rintro e w7 ⟨rfl, b7⟩
        have HB7 := Lib.hid (below_join HB6.out b7 HB6.out.size)
        clear b7
        go_wp2_with (fail)
        go_ret
        exact ⟨rfl, HB7.out⟩
end Go.Proofs.Ytomfaknemjbjcaa
