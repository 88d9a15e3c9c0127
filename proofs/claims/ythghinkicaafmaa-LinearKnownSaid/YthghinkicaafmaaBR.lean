/-
  DERIVED. The reference's Peak (stage 6).
-/
import Derived.Test.YthghinkicaafmaaBQ
namespace Go.Proofs.Ythghinkicaafmaa
open Go.RowKit
set_option maxRecDepth 100000

theorem retTTT {fn : Func} {a : Act} {W : World} {R : Ending → World → Prop} {i j k : Nat} {x y z : Value} (hfn : fn.results = #[.tmp i, .tmp j, .tmp k]) (hi : a.tmps[i]?.getD undef = x) (hj : a.tmps[j]?.getD undef = y) (hk : a.tmps[k]?.getD undef = z) (hd : a.defers = [])
    (hR : R (.returned (.tuple #[x, y, z])) W) : bodyPost Try.prog fn R .ret a W :=
  bodyPost_ret (v := .tuple #[x, y, z]) (by simp [results, hfn, hi, hj, hk, go_sem]) hd hR
theorem pk_step {cs : List Int} {s x b : Int} {t k : Nat} (hs : 0 ≤ s) (h0 : cs[0]? = some s) (hx : cs[t]? = some x) (hb : cs[k]? = some b) (h : (t = 0 → k = 0) ∧ (0 < t → pkGo 0 (0, 0) (cs.take t) = ((k : Int), b))) :
    (b < x → (t + 1 = 0 → t = 0) ∧ (0 < t + 1 → pkGo 0 (0, 0) (cs.take (t + 1)) = ((t : Int), x))) ∧ (¬ b < x → (t + 1 = 0 → k = 0) ∧ (0 < t + 1 → pkGo 0 (0, 0) (cs.take (t + 1)) = ((k : Int), b))) := by
  have hlt := (List.getElem?_eq_some_iff.1 hx).1
  rcases Nat.eq_zero_or_pos t with rfl | hp
  · obtain rfl := h.1 rfl
    rw [h0] at hx hb
    injection hx with hx
    injection hb with hb
    subst hx hb
    refine ⟨fun h => absurd h (Int.lt_irrefl _), fun _ => ⟨fun _ => rfl, fun _ => ?_⟩⟩
    rw [List.take_add_one, h0]
    exact pkGo_start hs []
  · have e := h.2 hp
    have e2 : pkGo 0 (0, 0) (cs.take (t + 1)) = if b < x then ((t : Int), x) else ((k : Int), b) := by
      rw [List.take_add_one, hx]
      show pkGo 0 (0, 0) (cs.take t ++ [x]) = _
      rw [pkGo_snoc, e, List.length_take, Nat.min_eq_left (by omega), Int.zero_add]
    exact ⟨fun hd => ⟨fun h => by omega, fun _ => by rw [e2, if_pos hd]⟩, fun hd => ⟨fun h => by omega, fun _ => by rw [e2, if_neg hd]⟩⟩
set_option maxHeartbeats 8000000 in
theorem d_Peak (C : Int) (ps : List (Int × Int × Int)) (s : Int) (ins : List (List Int)) (n : Int) (P I : Value) (w : World) (hP : PtSl w P ps) (hI : LiSl w I ins) (y1 y2 r : Int) (hr : fltL C ps s ins n = r) (hy : (y1, y2) = if r = 0 then pkP C ps s ins n else (0, 0)) :
    Calls Try.prog 19 #[lnV C P, .int .i64 s, I, .int .i64 n] w fun e w' => e = .returned (.tuple #[.int .i64 y1, .int .i64 y2, .int .i64 r]) ∧ Below w.heap.size w w' := by
  obtain ⟨W, hW⟩ : ∃ W, W = w.alloc (.cells #[.int .i64 C, P] 24) := ⟨_, rfl⟩
  have B0 : Below w.heap.size w W := by subst hW; exact (Below.refl _ _).alloc (Nat.le_refl _) _
  have HB := Lib.hid B0
  have HL := Lib.hid (show W.heap[w.heap.size]? = some (.cells #[.int .i64 C, P] 24 (0, 0)) by subst hW; exact heap_alloc_new _ _)
  obtain ⟨cs, hcs⟩ : ∃ cs, cs = if r = 0 then crsP C ps s ins n else [] := ⟨_, rfl⟩
  have HC := Lib.hid (d_Course C ps s ins n P I W (hP.on B0 (Nat.le_refl _)) (hI.on B0 (Nat.le_refl _)) r hr cs hcs)
  obtain ⟨A, c, rfl, -, -⟩ := hP.shape
  obtain ⟨A2, c2, rfl, -, -⟩ := hI.shape
  obtain ⟨x0, x1⟩ := lin_cells HL.out
  unfold lnV at HC
  unfold lnV
  clear B0 hP hI
  by_cases h1 : r = 0
  · subst h1
    rw [if_pos rfl] at hy hcs
    obtain ⟨g1, g2, g3, g4⟩ := flt_cases hr
    obtain ⟨m, rfl⟩ : ∃ m : Nat, n = (m : Int) := ⟨n.toNat, by omega⟩
    have hm1 : m ≤ 1000 := by omega
    have HLN := Lib.hid (show cs.length = m + 1 by rw [hcs]; exact crsP_len _ _ _ _ _)
    have HY := Lib.hid (show (y1, y2) = pkGo 0 (0, 0) cs by rw [hy, hcs]; rfl)
    have HCS0 := Lib.hid (show cs[0]? = some s by rw [hcs]; rfl)
    clear hr hy g1 g2 g3 hcs
    go_enter Try.func19, Try.ntmps19
    go_wp2_with (fail)
    rw [← hW]
    clear hW
    go_at_call 14
    refine HC.out.mono ?_
    rintro e w1 ⟨v, rfl, hv, b1⟩
    have HB1 := Lib.hid (below_join HB.out b1 HB.out.size)
    have HV := Lib.hid hv
    obtain ⟨Av, cv, rfl, -, -⟩ := hv.shape
    clear hv b1 x0 x1
    go_wp2_with (fail)
    go_loopw [14, 13] (fun i a wx => ∃ (t k : Nat) (b : Int) (q : Nat), i = .int .i64 (t : Int) ∧ a = .int .i64 (k : Int) ∧ t ≤ m + 1 ∧ k ≤ m ∧ wx = w1.drewN q ∧ Hid (cs[k]? = some b) ∧ Hid ((t = 0 → k = 0) ∧ (0 < t → pkGo 0 (0, 0) (cs.take t) = ((k : Int), b)))) (fun i a _ => m + 1 - (intOf i).toNat)
    case atStart => exact ⟨0, 0, s, 0, rfl, rfl, Nat.zero_le _, Nat.zero_le _, rfl, HCS0, Lib.hid ⟨fun _ => rfl, fun h => absurd h (Nat.not_lt_zero _)⟩⟩
    case round =>
      obtain ⟨t, k, b, q, rfl, rfl, ht, hk, rfl, hb, hinv⟩ := hrel
      have hti : ((t : Nat) : Int).toNat = t := by omega
      have hki : ((k : Nat) : Int).toNat = k := by omega
      obtain ⟨b1, o1, c1', e1, -, -, -, hcb⟩ := HV.out.at_ hb.out
      injection e1 with e2 _ e3
      subst e2 e3
      have hkc : (k : Int) < ((cs.length : Nat) : Int) := by have := HLN.out; omega
      by_cases hlt : t ≤ m
      · obtain ⟨x, hx⟩ : ∃ x, cs[t]? = some x := ⟨_, List.getElem?_eq_getElem (by have := HLN.out; omega)⟩
        have HXX := Lib.hid hx
        obtain ⟨b2, o2, c2', e4, -, -, -, hcx⟩ := HV.out.at_ hx
        injection e4 with e5 _ e6
        injection e5 with e5
        injection e5 with e7 e8
        subst e6 e7 e8
        have htm : (t : Int) ≤ (m : Int) := by omega
        have htc : (t : Int) < ((cs.length : Nat) : Int) := by have := HLN.out; omega
        have ht1000 : t ≤ 1000 := by omega
        have HLT := Lib.hid hlt
        have HST := Lib.hid (pk_step g4.1 HCS0.out hx hb.out hinv.out)
        clear hx hlt
        rcases hd : decide (b < x) with _ | _
        · go_wp2_with (fail)
          go_quiet (fail)
          go_wp2_with (fail)
          go_roundw
          case rel => exact ⟨t + 1, k, b, _, by go_num, rfl, by (have := HLT.out; omega), hk, rfl, hb, Lib.hid (HST.out.2 (by have := of_decide_eq_false hd; omega))⟩
          case measure => (have := HLT.out; simp only [intOf]; omega)
        · go_wp2_with (fail)
          go_quiet (fail)
          go_wp2_with (fail)
          go_roundw
          case rel => exact ⟨t + 1, t, x, _, by go_num, rfl, by (have := HLT.out; omega), HLT.out, rfl, HXX, Lib.hid (HST.out.1 (of_decide_eq_true hd))⟩
          case measure => (have := HLT.out; simp only [intOf]; omega)
      · obtain hte : t = m + 1 := by omega
        have htm : ¬ (t : Int) ≤ (m : Int) := by omega
        have HYE := Lib.hid (show (y1, y2) = ((k : Int), b) by
          rw [HY.out, ← hinv.out.2 (by omega), List.take_of_length_le (by have := HLN.out; omega)])
        have HB2 := Lib.hid (drew_below HB1.out ⟨q, rfl⟩)
        clear hte hlt
        go_wp2_with (fail)
        go_quiet (fail)
        go_wp2_with (fail)
        exact retTTT rfl rfl rfl rfl rfl ⟨(show Ending.returned (.tuple #[.int .i64 (k : Int), .int .i64 b, .int .i64 0]) = .returned (.tuple #[.int .i64 y1, .int .i64 y2, .int .i64 0]) by injection HYE.out with h1 h2; rw [h1, h2]), drew_below HB2.out ⟨_, rfl⟩⟩
  · have hne : (r != 0) = true := by rw [bne_iff_ne]; exact h1
    rw [if_neg h1] at hy
    injection hy with hy1 hy2
    subst hy1 hy2
    clear hr h1 hcs
    go_enter Try.func19, Try.ntmps19
    go_wp2_with (fail)
    rw [← hW]
    clear hW
    go_at_call 14
    refine HC.out.mono ?_
    rintro e w1 ⟨v, rfl, hv, b1⟩
    have HB1 := Lib.hid (below_join HB.out b1 HB.out.size)
    clear hv b1 x0 x1
    go_wp2_with (fail)
    exact retTTT rfl rfl rfl rfl rfl ⟨rfl, HB1.out⟩
end Go.Proofs.Ythghinkicaafmaa
