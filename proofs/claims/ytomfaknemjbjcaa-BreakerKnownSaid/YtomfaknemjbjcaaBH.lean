/-
  DERIVED. Bears: sort.Search over the loads.
-/
import Derived.Test.YtomfaknemjbjcaaBG
import Derived.Shelf.SlSorted.Search
import Derived.Shelf.Lay
namespace Go.Proofs
open Go.Shelf Go.RowKit Go.Lib Go.Sort
set_option maxRecDepth 100000
shelf_lay SlLaysO.n16 Slso 16 at Try as Try.search
namespace Ytomfaknemjbjcaa

/-- What Bears judges too much. -/
def tooB (L S F h k w : Int) : Bool := !brn L S F h k w
set_option maxHeartbeats 4000000 in
theorem c_tooMuch (b0 b1 b2 : Nat) (f L S F h k p : Int) (hb : 0 ≤ L ∧ L ≤ 1000000 ∧ 0 ≤ h ∧ h ≤ S ∧ S ≤ 1000000 ∧ 0 ≤ p ∧ p ≤ 100000000) (hk : 0 < k) (W : World) (h0 : Bk W b0 f L S F) (h1 : W.cell? ⟨b1, 0, none⟩ = some (.int .i64 h)) (h2 : W.cell? ⟨b2, 0, none⟩ = some (.int .i64 k))
    (l2 : b2 < W.heap.size) :
    Calls Try.prog 48 #[.int .i64 p, .pointer (some ⟨b0, 0, none⟩), .pointer (some ⟨b1, 0, none⟩), .pointer (some ⟨b2, 0, none⟩)] W fun e w' => e = .returned (.bool (!brn L S F h k p)) ∧ ∃ q os, w' = grow (W.drewN q) os := by
  obtain ⟨x0, x1, x2, x3⟩ := h0.cells
  have hx : (lst L S F h p = -1 ∨ k ≤ lst L S F h p) ↔ brn L S F h k p = true := lst_brn hb.2.2.2.1 hk
  have HL := Lib.hid (fun (r : Int) (hr : lst L S F h p = r) => c_lastingX f L S F h p hb r hr W)
  unfold bkV at HL
  have H2 := Lib.hid (fun (X : World) (hX : Below W.heap.size W X) => (hX.cell (p := ⟨b2, 0, none⟩) l2).trans h2)
  generalize hr : lst L S F h p = r at hx
  have HR := Lib.hid hr
  clear hr h0 h2 l2 hb
  generalize brn L S F h k p = g at *
  by_cases c1 : r = -1
  · obtain rfl : g = true := hx.1 (.inl c1)
    subst c1
    clear hx
    go_enter Try.func48, Try.ntmps48
    go_wp2_with (fail)
    go_at_call 45
    refine (HL.out _ HR.out).mono ?_
    rintro e w1 ⟨rfl, o, rfl⟩
    clear x0 x1 x2 x3 h1
    go_wp2_with (fail)
    go_ret
    exact ⟨rfl, 0, #[o], alloc_eq_grow _ _⟩
  · have hne : (r != -1) = true := by rw [bne_iff_ne]; exact c1
    obtain rfl : g = !decide (r < k) := by
      by_cases c2 : k ≤ r
      · rw [decide_eq_false (by omega)]; exact hx.1 (.inr c2)
      · rw [decide_eq_true (by omega)]
        cases g
        · rfl
        · rcases hx.2 rfl with h | h
          · exact absurd h c1
          · exact absurd h c2
    rw [Bool.not_not]
    clear hx
    go_enter Try.func48, Try.ntmps48
    go_wp2_with (fail)
    go_at_call 45
    refine (HL.out _ HR.out).mono ?_
    rintro e w1 ⟨rfl, o, rfl⟩
    have y2 := H2.out _ ((Below.refl W.heap.size W).alloc (Nat.le_refl _) o)
    clear x0 x1 x2 x3 h1
    go_wp2_with (fail)
    go_ret
    exact ⟨rfl, 0, #[o], alloc_eq_grow _ _⟩
theorem Bk.grown {W : World} {b : Nat} {f L S F : Int} (h : Bk W b f L S F) (m : Nat) (os : Array Obj) : Bk (grow (W.drewN m) os) b f L S F := by
  unfold Bk at *
  show ((W.drewN m).heap ++ os)[b]? = _
  rw [Array.getElem?_append_left (by exact block_lt h)]
  exact h
/-- What Bears answers. -/
def bearsP (L S F h k : Int) : Int × Int := if fltH L S F h [] = 0 then (if (decide (1 ≤ k) && decide (k ≤ 1000)) = true then (brsR L S F h k, 0) else (0, 2)) else (0, fltH L S F h [])
set_option maxHeartbeats 4000000 in
theorem c_search (f L S F q k : Int) (b0 b1 b2 : Nat) (hb : 0 ≤ L ∧ L ≤ 1000000 ∧ 0 ≤ q ∧ q ≤ S ∧ S ≤ 1000000 ∧ L ≤ F ∧ F ≤ 1000000) (hk : 0 < k) (W : World) (h0 : Bk W b0 f L S F) (h1 : W.cell? ⟨b1, 0, none⟩ = some (.int .i64 q)) (h2 : W.cell? ⟨b2, 0, none⟩ = some (.int .i64 k)) (l1 : b1 < W.heap.size) (l2 : b2 < W.heap.size) :
    Calls Try.prog 49 #[.int .i64 (F + 1), .func (.func 48) #[] #[.pointer (some ⟨b0, 0, none⟩), .pointer (some ⟨b1, 0, none⟩), .pointer (some ⟨b2, 0, none⟩)]] W fun e w' => e = .returned (.int .i64 (brsR L S F q k + 1)) ∧ Below W.heap.size W w' := by
  have eg : ∀ args w, (callFunc 48 args).run Try.prog w = .ok (.enter 48 args) w := enters_of Try.func48 (by kernel_rfl) rfl
  have hS := Any.sort_Search Try.search 48 #[.pointer (some ⟨b0, 0, none⟩), .pointer (some ⟨b1, 0, none⟩), .pointer (some ⟨b2, 0, none⟩)] (F + 1).toNat (fun i : Nat => !brn L S F q k (i : Int)) W eg (by omega)
    (fun m os i hi => c_tooMuch b0 b1 b2 f L S F q k i ⟨hb.1, hb.2.1, hb.2.2.1, hb.2.2.2.1, hb.2.2.2.2.1, by omega, by omega⟩ hk _ (h0.grown m os) (cell_grown l1 h1 m os) (cell_grown l2 h2 m os)
      (Nat.lt_of_lt_of_le l2 (by simp [grow])))
    (fun a b hab hb' h => by
      simp only [Bool.not_eq_true'] at h ⊢
      rcases hn : brn L S F q k (b : Int) with _ | _
      · rfl
      · have := brn_mono hk (show (a : Int) ≤ b by omega) hn
        rw [h] at this; cases this)
  rw [show ((F + 1).toNat : Int) = F + 1 by omega] at hS
  refine hS.mono ?_
  rintro e w' ⟨rfl, n, os, rfl⟩
  refine ⟨?_, below_grown_sl _ _ n os (Nat.le_refl _)⟩
  unfold brsR
  simp only [Bool.not_not]
  congr 2
  omega
set_option maxHeartbeats 4000000 in
theorem c_Bears (f L S F q k : Int) (y r : Int) (hr : bearsP L S F q k = (y, r)) (w : World) :
    Calls Try.prog 26 #[bkV f L S F, .int .i64 q, .int .i64 k] w fun e w' => e = .returned (.tuple #[.int .i64 y, .int .i64 r]) ∧ Below w.heap.size w w' := by
  obtain ⟨W, hW⟩ : ∃ W, W = ((w.alloc (.cells #[.int .i64 f, .int .i64 L, .int .i64 S, .int .i64 F] 23)).alloc (.cells #[.int .i64 q] 3)).alloc (.cells #[.int .i64 k] 3) := ⟨_, rfl⟩
  have B0 : Below w.heap.size w W := by subst hW; exact below_a3 _ _ _ _
  have HB := Lib.hid B0
  have HK := Lib.hid (show Bk W w.heap.size f L S F by subst hW; exact old_heap _ (old_heap _ (bk_new _ _ _ _ _)))
  have H1 := Lib.hid (show W.cell? ⟨w.heap.size + 1, 0, none⟩ = some (.int .i64 q) by subst hW; exact one_cell (old_heap _ (row_new4 _ _ _ (by simp))))
  have H2 := Lib.hid (show W.cell? ⟨w.heap.size + 1 + 1, 0, none⟩ = some (.int .i64 k) by subst hW; exact one_cell (row_new4 _ _ _ (by simp)))
  have hz : w.heap.size + 1 + 1 < W.heap.size := by subst hW; simp
  have HC := Lib.hid (fun (r1 : Int) (h1 : fltH L S F q [] = r1) => c_faultOfHeat f L S F q [] r1 h1 _ W (IntSl.nil W))
  have e0 : (List.length ([] : List Int)) = 0 := rfl
  unfold bkV
  unfold bkV at HC
  obtain ⟨x0, x1, x2, x3⟩ := HK.out.cells
  have y1 := H1.out
  have y2 := H2.out
  clear B0
  unfold bearsP at hr
  by_cases h1 : fltH L S F q [] = 0
  · rw [if_pos h1] at hr
    have HF := Lib.hid h1
    obtain ⟨g1, g2, g3, -⟩ := fltH_zero h1
    have g4 := bOk_iff.1 g1
    clear h1
    by_cases h2 : (decide (1 ≤ k) && decide (k ≤ 1000)) = true
    · rw [if_pos h2] at hr
      injection hr with hy hr
      subst hr
      simp only [Bool.and_eq_true, decide_eq_true_eq] at h2
      have hne : (k == 0) = false := by rw [beq_eq_false_iff_ne]; omega
      have HU := Lib.hid (show (decide (0 ≤ k) && decide (k ≤ 1000)) = true by simp; omega)
      have HS := Lib.hid (fun (X : World) => c_search f L S F q k w.heap.size (w.heap.size + 1) (w.heap.size + 1 + 1) ⟨g4.1, g4.2.1, g2, g3, g4.2.2.2.1, g4.2.2.2.2.1, g4.2.2.2.2.2⟩ (by omega) X)
      have hbr := brs_R (S := S) (h := q) (k := k) g4.1 g4.2.2.2.2.1 (by omega)
      obtain ⟨hb1, hb2, -, -⟩ := hbr
      have gF := g4.2.2.2.2
      rw [hy] at HS hb1 hb2
      have hLy : 0 ≤ y := Int.le_trans g4.1 hb1
      clear g1 g2 g3 g4 hy hb1
      go_enter Try.func26, Try.ntmps26
      go_wp2_with (fail)
      rw [← hW]
      clear hW
      go_at_call 44
      refine (HC.out _ HF.out).mono ?_
      rintro e w1 ⟨rfl, b1⟩
      have HB1 := Lib.hid (below_join HB.out b1 HB.out.size)
      have HK1 := Lib.hid (HK.out.on b1 (by omega))
      have y11 := (b1.cell (p := ⟨w.heap.size + 1, 0, none⟩) (by show w.heap.size + 1 < _; omega)).trans H1.out
      have y12 := (b1.cell (p := ⟨w.heap.size + 1 + 1, 0, none⟩) hz).trans H2.out
      have hz1 := Nat.lt_of_lt_of_le hz b1.size
      have HS1 := Lib.hid (HS.out w1 HK1.out y11 y12 (by omega) hz1)
      clear b1 x0 x1 x2 x3 y1 y2
      obtain ⟨x0, x1, x2, x3⟩ := HK1.out.cells
      go_wp2_with (fail)
      go_at_call 43
      refine (c_isUpTo _ _ _ HU.out _).mono ?_
      rintro e w2 ⟨rfl, rfl⟩
      go_wp2_with (fail)
      go_at_call 49
      refine HS1.out.mono ?_
      rintro e w3 ⟨rfl, b3⟩
      have HB3 := Lib.hid (below_join HB1.out b3 HB1.out.size)
      have ey : y + 1 - 1 = y := by omega
      clear b3 x0 x1 x2 x3 y11 y12
      go_wp2_with (fail)
      exact retTT rfl rfl rfl rfl ⟨rfl, HB3.out⟩
    · rw [if_neg h2] at hr
      injection hr with hy hr
      subst hy hr
      simp only [Bool.and_eq_true, decide_eq_true_eq] at h2
      clear g1 g2 g3 g4
      by_cases hk0 : k = 0
      · subst hk0
        clear h2
        go_enter Try.func26, Try.ntmps26
        go_wp2_with (fail)
        rw [← hW]
        clear hW
        go_at_call 44
        refine (HC.out _ HF.out).mono ?_
        rintro e w1 ⟨rfl, b1⟩
        have HB1 := Lib.hid (below_join HB.out b1 HB.out.size)
        have y12 := (b1.cell (p := ⟨w.heap.size + 1 + 1, 0, none⟩) hz).trans H2.out
        clear b1 x0 x1 x2 x3 y1 y2
        go_wp2_with (fail)
        exact retTT rfl rfl rfl rfl ⟨rfl, HB1.out⟩
      · have hne : (k == 0) = false := by rw [beq_eq_false_iff_ne]; exact hk0
        have HU := Lib.hid (show (decide (0 ≤ k) && decide (k ≤ 1000)) = false by rw [Bool.eq_false_iff]; simp; omega)
        clear h2 hk0
        go_enter Try.func26, Try.ntmps26
        go_wp2_with (fail)
        rw [← hW]
        clear hW
        go_at_call 44
        refine (HC.out _ HF.out).mono ?_
        rintro e w1 ⟨rfl, b1⟩
        have HB1 := Lib.hid (below_join HB.out b1 HB.out.size)
        have y12 := (b1.cell (p := ⟨w.heap.size + 1 + 1, 0, none⟩) hz).trans H2.out
        clear b1 x0 x1 x2 x3 y1 y2
        go_wp2_with (fail)
        go_at_call 43
        refine (c_isUpTo _ _ _ HU.out _).mono ?_
        rintro e w2 ⟨rfl, rfl⟩
        go_wp2_with (fail)
        exact retTT rfl rfl rfl rfl ⟨rfl, HB1.out⟩
  · rw [if_neg h1] at hr
    injection hr with hy hr
    subst hy
    have HF := Lib.hid hr
    have hne : (r == 0) = false := by rw [beq_eq_false_iff_ne, ← hr]; exact h1
    clear h1 hr
    go_enter Try.func26, Try.ntmps26
    go_wp2_with (fail)
    rw [← hW]
    clear hW
    go_at_call 44
    refine (HC.out _ HF.out).mono ?_
    rintro e w1 ⟨rfl, b1⟩
    have HB1 := Lib.hid (below_join HB.out b1 HB.out.size)
    clear b1 x0 x1 x2 x3 y1 y2
    go_wp2_with (fail)
    exact retTT rfl rfl rfl rfl ⟨rfl, HB1.out⟩
end Ytomfaknemjbjcaa
end Go.Proofs
