/-
  DERIVED. areLoads, fault, faultOfHeat.
-/
import Derived.Test.YtomfaknemjbjcaaBD
namespace Go.Proofs.Ytomfaknemjbjcaa
open Go.RowKit
set_option maxRecDepth 100000

theorem IntSl.at_ {w : World} {v : Value} {l : List Int} (h : IntSl w v l) {k : Nat} {x : Int} (hk : l[k]? = some x) : ∃ b o c, v = .slice (some ⟨b, o, none⟩) l.length c ∧ b < w.heap.size ∧ l.length ≤ c ∧ c ≤ maxLen ∧ w.cell? ⟨b, o + k, none⟩ = some (.int .i64 x) := by
  obtain ⟨A, c, h1, h2, h3, -, h4⟩ := h
  have hl := (List.getElem?_eq_some_iff.1 hk).1
  obtain ⟨b, o, rfl, hlt, hc⟩ := h4 (by omega)
  exact ⟨b, o, c, h1, hlt, h2, h3, hc k x hk⟩
theorem IntSl.shape {w : World} {v : Value} {l : List Int} (h : IntSl w v l) : ∃ A c, v = .slice A l.length c ∧ l.length ≤ c ∧ c ≤ maxLen := by
  obtain ⟨A, c, h1, h2, h3, -⟩ := h
  exact ⟨A, c, h1, h2, h3⟩
theorem all_true {l : List Int} {p : Int → Bool} (h : ∀ i x, i < l.length → l[i]? = some x → p x = true) : l.all p = true := by
  rw [List.all_eq_true]
  intro x hx
  obtain ⟨i, hi, rfl⟩ := List.getElem_of_mem hx
  exact h i _ hi (List.getElem?_eq_getElem hi)
theorem all_false {l : List Int} {p : Int → Bool} {i : Nat} {x : Int} (h : l[i]? = some x) (hp : p x = false) : l.all p = false := by
  rw [Bool.eq_false_iff]
  intro h2
  rw [List.all_eq_true] at h2
  have := h2 x (List.mem_of_getElem? h)
  rw [hp] at this
  cases this
set_option maxHeartbeats 4000000 in
theorem c_areLoads (l : List Int) (r : Bool) (hr : lsOk l = r) (v : Value) (w : World) (hv : IntSl w v l) :
    Calls Try.prog 54 #[v] w fun e w' => e = .returned (.bool r) ∧ w = w' := by
  have HV := Lib.hid hv
  obtain ⟨A, c, rfl, hc1, hc2⟩ := hv.shape
  unfold maxLen at hc2
  clear hv
  unfold lsOk at hr
  by_cases h1 : l.length ≤ 1000
  · have HR := Lib.hid (show l.all wOk = r by rw [decide_eq_true h1, Bool.true_and] at hr; exact hr)
    clear hr
    go_enter Try.func54, Try.ntmps54
    go_wp2_with (fail)
    go_loop [10] (fun n => ∃ k : Nat, k ≤ l.length ∧ n = .int .i64 k ∧ Hid (∀ i x, i < k → l[i]? = some x → wOk x = true)) (fun n => l.length - (intOf n).toNat)
    case atStart => exact ⟨0, Nat.zero_le _, rfl, Lib.hid (fun i x hi => absurd hi (by omega))⟩
    case round =>
      obtain ⟨k, hk, rfl, hz⟩ := hrel
      by_cases hlt : k < l.length
      · obtain ⟨x, hx⟩ : ∃ x, l[k]? = some x := ⟨_, List.getElem?_eq_getElem hlt⟩
        obtain ⟨b, o, c', e, -, -, -, hc⟩ := HV.out.at_ hx
        injection e with e1 _ e2
        subst e1 e2
        have HX := Lib.hid hx
        clear hx
        have hki : ((k : Nat) : Int).toNat = k := by omega
        rcases hw : wOk x with _ | _
        · have HW := Lib.hid (show (decide (0 ≤ x) && decide (x ≤ 100000000)) = false from hw)
          have hrr : r = false := by rw [← HR.out]; exact all_false HX.out hw
          subst hrr
          clear hw
          go_wp2_with (fail)
          go_at_call 43
          refine (c_isUpTo _ _ _ HW.out _).mono ?_
          rintro e w1 ⟨rfl, rfl⟩
          go_wp2_with (fail)
          go_ret
          exact ⟨rfl, rfl⟩
        · have HW := Lib.hid (show (decide (0 ≤ x) && decide (x ≤ 100000000)) = true from hw)
          clear hw
          go_wp2_with (fail)
          go_at_call 43
          refine (c_isUpTo _ _ _ HW.out _).mono ?_
          rintro e w1 ⟨rfl, rfl⟩
          go_wp2_with (fail)
          go_round
          case rel => exact ⟨k + 1, by omega, by go_num, Lib.hid (fun i y hi hy => by
            rcases Nat.lt_or_ge i k with h | h
            · exact hz.out i y h hy
            · obtain rfl : i = k := by omega
              have := HX.out
              rw [hy] at this
              cases this
              exact HW.out)⟩
          case measure => simp [intOf]; omega
      · obtain rfl : k = l.length := by omega
        have hrr : r = true := by rw [← HR.out]; exact all_true hz.out
        subst hrr
        go_wp2_with (fail)
        go_ret
        exact ⟨rfl, rfl⟩
  · have hrr : r = false := by rw [← hr, decide_eq_false h1, Bool.false_and]
    have h1' : (1000 : Int) < (l.length : Nat) := by omega
    subst hrr
    clear hr
    go_enter Try.func54, Try.ntmps54
    go_wp2_with (fail)
    go_ret
    exact ⟨rfl, rfl⟩
/-- fault's answer. -/
def fltS (L S F h : Int) (t : Bool) (l : List Int) : Int := if (bOk L S F && tOk S h t) = true then (if lsOk l = true then 0 else 2) else 1
set_option maxHeartbeats 4000000 in
theorem c_fault (f L S F h : Int) (t : Bool) (l : List Int) (r : Int) (hr : fltS L S F h t l = r) (v : Value) (w : World) (hv : IntSl w v l) :
    Calls Try.prog 38 #[bkV f L S F, stV (h, t), v] w fun e w' => e = .returned (.int .i64 r) ∧ Below w.heap.size w w' := by
  obtain ⟨W, hW⟩ : ∃ W, W = (w.alloc (.cells #[.int .i64 f, .int .i64 L, .int .i64 S, .int .i64 F] 23)).alloc (.cells #[.int .i64 h, .bool t] 25) := ⟨_, rfl⟩
  have B0 : Below w.heap.size w W := by subst hW; exact below_a2 _ _ _
  have HB := Lib.hid B0
  have HK := Lib.hid (show Bk W w.heap.size f L S F by subst hW; exact old_heap _ (bk_new _ _ _ _ _))
  have HS := Lib.hid (show St W (w.heap.size + 1) h t by subst hW; exact row_new4 _ _ _ (by simp))
  have HC := Lib.hid (fun (r1 : Bool) (h1 : bOk L S F = r1) => c_Valid f L S F r1 h1 W)
  have hz : w.heap.size + 1 < W.heap.size := block_lt HS.out
  unfold bkV stV
  unfold bkV at HC
  obtain ⟨A, c, rfl, hc1, hc2⟩ := hv.shape
  have HV := Lib.hid hv
  obtain ⟨x0, x1, x2, x3⟩ := HK.out.cells
  obtain ⟨y0, y1⟩ := HS.out.cells
  clear B0 hv
  unfold fltS at hr
  rcases h1 : bOk L S F with _ | _
  · have H1 := Lib.hid h1
    rw [h1, Bool.false_and, if_neg (by decide)] at hr
    subst hr
    clear h1
    go_enter Try.func38, Try.ntmps38
    go_wp2_with (fail)
    rw [← hW]
    clear hW
    go_at_call 16
    refine (HC.out _ H1.out).mono ?_
    rintro e w1 ⟨rfl, b1⟩
    have HB1 := Lib.hid (below_join HB.out b1 HB.out.size)
    clear b1 x0 x1 x2 x3 y0 y1
    go_wp2_with (fail)
    go_ret
    exact ⟨rfl, HB1.out⟩
  · have H1 := Lib.hid h1
    rw [h1, Bool.true_and] at hr
    have HI := Lib.hid (fun (X : World) (r1 : Bool) (h1 : tOk S h t = r1) => c_isState f L S F h t r1 h1 X)
    unfold bkV stV at HI
    rcases h2 : tOk S h t with _ | _
    · have H2 := Lib.hid h2
      rw [h2, if_neg (by decide)] at hr
      subst hr
      clear h1 h2
      go_enter Try.func38, Try.ntmps38
      go_wp2_with (fail)
      rw [← hW]
      clear hW
      go_at_call 16
      refine (HC.out _ H1.out).mono ?_
      rintro e w1 ⟨rfl, b1⟩
      have HB1 := Lib.hid (below_join HB.out b1 HB.out.size)
      have HK1 := Lib.hid (HK.out.on b1 (by omega))
      have HS1 := Lib.hid (HS.out.on b1 (by omega))
      clear b1 x0 x1 x2 x3 y0 y1
      obtain ⟨x0, x1, x2, x3⟩ := HK1.out.cells
      obtain ⟨y0, y1⟩ := HS1.out.cells
      go_wp2_with (fail)
      go_at_call 53
      refine (HI.out _ _ H2.out).mono ?_
      rintro e w2 ⟨rfl, b2⟩
      have HB2 := Lib.hid (below_join HB1.out b2 HB1.out.size)
      clear b2 x0 x1 x2 x3 y0 y1
      go_wp2_with (fail)
      go_ret
      exact ⟨rfl, HB2.out⟩
    · have H2 := Lib.hid h2
      rw [h2, if_pos rfl] at hr
      clear h1 h2
      rcases h3 : lsOk l with _ | _
      all_goals
        have H3 := Lib.hid h3
        rw [h3] at hr
        simp only [if_true, Bool.false_eq_true, if_false] at hr
        subst hr
        clear h3
        go_enter Try.func38, Try.ntmps38
        go_wp2_with (fail)
        rw [← hW]
        clear hW
        go_at_call 16
        refine (HC.out _ H1.out).mono ?_
        rintro e w1 ⟨rfl, b1⟩
        have HB1 := Lib.hid (below_join HB.out b1 HB.out.size)
        have HK1 := Lib.hid (HK.out.on b1 (by omega))
        have HS1 := Lib.hid (HS.out.on b1 (by omega))
        clear b1 x0 x1 x2 x3 y0 y1
        obtain ⟨x0, x1, x2, x3⟩ := HK1.out.cells
        obtain ⟨y0, y1⟩ := HS1.out.cells
        go_wp2_with (fail)
        go_at_call 53
        refine (HI.out _ _ H2.out).mono ?_
        rintro e w2 ⟨rfl, b2⟩
        have HB2 := Lib.hid (below_join HB1.out b2 HB1.out.size)
        have HL2 := Lib.hid (c_areLoads l _ H3.out _ w2 (HV.out.on HB2.out (Nat.le_refl _)))
        clear b2 x0 x1 x2 x3 y0 y1
        go_wp2_with (fail)
        go_at_call 54
        refine HL2.out.mono ?_
        rintro e w3 ⟨rfl, rfl⟩
        go_wp2_with (fail)
        go_ret
        exact ⟨rfl, HB2.out⟩
end Go.Proofs.Ytomfaknemjbjcaa
