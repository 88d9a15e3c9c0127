/-
  DERIVED. Several texts in one.
-/
import Derived.Test.YtglpaihadongkaaDD
import Derived.Test.YtglpaihadongkaaCE
import Derived.Test.YtglpaihadongkaaCD
set_option linter.unusedVariables false
set_option linter.unusedSimpArgs false

/- DERIVED. own of the law: a net cut to 130 arcs, copied (stage 5). -/
namespace Go.Proofs.Ytglpaihadongkaa
open Go.RowKit Go.Shelf
set_option maxRecDepth 100000
set_option linter.unusedSimpArgs false
set_option linter.unusedVariables false

set_option maxHeartbeats 8000000 in
theorem c_own (N : Int) (L : Value) (l : List (Int × Int × Int)) (w : World) (hL : PtSl w L l) :
    Calls Try.prog 10 #[ntV N L] w fun e w' => ∃ L', e = .returned (ntV N L') ∧ (∀ Y : World, (∀ k, w.heap.size ≤ k → Y.heap[k]? = w'.heap[k]?) → PtSl Y L' (l.take 130)) ∧ Below w.heap.size w w' := by
  obtain ⟨A, c, rfl, hc1, hc2⟩ := hL.shape
  unfold maxLen at hc2
  obtain ⟨W, hW⟩ : ∃ W, W = (w.alloc (.cells #[.int .i64 N, .slice A l.length c] 24)).alloc (.cells #[.int .i64 0, .slice none 0 0] 24) := ⟨_, rfl⟩
  have B0 : Below w.heap.size w W := by subst hW; exact ((Below.refl _ _).alloc (Nat.le_refl _) _).alloc (by simp) _
  have hzw : W.heap.size = w.heap.size + 2 := by subst hW; simp
  have HB0 := Lib.hid B0
  have HX := Lib.hid (show W.heap[w.heap.size]? = some (.cells #[.int .i64 N, .slice A l.length c] 24 (0, 0)) by subst hW; exact old_heap _ (heap_alloc_new _ _))
  have HZ := Lib.hid (show W.heap[w.heap.size + 1]? = some (.cells #[.int .i64 0, .slice none 0 0] 24 (0, 0)) by subst hW; exact row_new _ _ _ (by simp))
  have x0 : W.cell? ⟨w.heap.size, 0, none⟩ = some (.int .i64 N) := cell_of HX.out rfl
  have x1 : W.cell? ⟨w.heap.size, 1, none⟩ = some (.slice A l.length c) := cell_of HX.out rfl
  have HLW := Lib.hid (hL.on B0 (Nat.le_refl _))
  have hfm : Try.prog.follows Departure.mixedOrders = true := by kernel_rfl
  have hm1 : min l.length 130 ≤ c := by omega
  have hm2 : min (l.length : Int) 130 ≤ (c : Int) := by omega
  have hm3 : 0 ≤ min (l.length : Int) 130 := by omega
  unfold ntV
  clear B0 hL
  go_enter Try.func10, Try.ntmps10
  go_wp2_with (fail)
  rw [← hW]
  clear hW
  refine region_z 12 hfm (S := fun X => X.cell? ⟨w.heap.size, 0, none⟩ = some (.int .i64 N) ∧ X.cell? ⟨w.heap.size, 1, none⟩ = some (.slice A l.length c)) ⟨x0, x1⟩ (fun hHeld => ?_)
  refine takeZ 0 (some 4) (by kernel_rfl) rfl rfl (by kernel_rfl) (by kernel_rfl) (by kernel_rfl) (fun _ _ _ h => h) (by rfl) (by intro w ⟨g1, g2⟩; go_simp; try with_reducible rfl) hHeld ?_
  simp only [Act.put, List.setIfInBounds_toArray, List.set_cons_zero, List.set_cons_succ]
  refine takeZ 1 (some 5) (by kernel_rfl) rfl rfl (by kernel_rfl) (by kernel_rfl) (by kernel_rfl) (fun _ _ _ h => h) (by rfl) (by intro w ⟨g1, g2⟩; go_simp; try with_reducible rfl) hHeld ?_
  simp only [Act.put, List.setIfInBounds_toArray, List.set_cons_zero, List.set_cons_succ]
  refine takeZ 2 (some 6) (by kernel_rfl) rfl rfl (by kernel_rfl) (by kernel_rfl) (by kernel_rfl) (fun _ _ _ h => h) (by rfl) (by intro w ⟨g1, g2⟩; go_simp; try with_reducible rfl) hHeld ?_
  simp only [Act.put, List.setIfInBounds_toArray, List.set_cons_zero, List.set_cons_succ]
  refine takeZ 3 (some 7) (by kernel_rfl) rfl rfl (by kernel_rfl) (by kernel_rfl) (by kernel_rfl) (fun _ _ _ h => h) (by rfl) (by intro w ⟨g1, g2⟩; go_simp; try with_reducible rfl) hHeld ?_
  simp only [Act.put, List.setIfInBounds_toArray, List.set_cons_zero, List.set_cons_succ]
  refine takeZ 4 (some 8) (by kernel_rfl) rfl rfl (by kernel_rfl) (by kernel_rfl) (by kernel_rfl) (fun _ _ _ h => h) (by rfl) (by intro w ⟨g1, g2⟩; go_simp; try with_reducible rfl) hHeld ?_
  simp only [Act.put, List.setIfInBounds_toArray, List.set_cons_zero, List.set_cons_succ]
  refine takeZ 5 (some 9) (by kernel_rfl) rfl rfl (by kernel_rfl) (by kernel_rfl) (by kernel_rfl) (fun _ _ _ h => h) (by rfl) (by intro w ⟨g1, g2⟩; go_simp; try with_reducible rfl) hHeld ?_
  simp only [Act.put, List.setIfInBounds_toArray, List.set_cons_zero, List.set_cons_succ]
  refine takeZ 6 (some 10) (by kernel_rfl) rfl rfl (by kernel_rfl) (by kernel_rfl) (by kernel_rfl) (fun _ _ _ h => h) (by rfl) (by intro w ⟨g1, g2⟩; go_simp; try with_reducible rfl) hHeld ?_
  simp only [Act.put, List.setIfInBounds_toArray, List.set_cons_zero, List.set_cons_succ]
  refine takeZ 7 (some 11) (by kernel_rfl) rfl rfl (by kernel_rfl) (by kernel_rfl) (by kernel_rfl) (fun _ _ _ h => h) (by rfl) (by intro w ⟨g1, g2⟩; go_simp; try with_reducible rfl) hHeld ?_
  simp only [Act.put, List.setIfInBounds_toArray, List.set_cons_zero, List.set_cons_succ]
  refine takeZ 8 (some 12) (by kernel_rfl) rfl rfl (by kernel_rfl) (by kernel_rfl) (by kernel_rfl) (fun _ _ _ h => h) (by rfl) (by intro w ⟨g1, g2⟩; go_simp; try with_reducible rfl) hHeld ?_
  simp only [Act.put, List.setIfInBounds_toArray, List.set_cons_zero, List.set_cons_succ]
  obtain ⟨m, hm⟩ : ∃ m, m = min l.length 130 := ⟨_, rfl⟩
  rw [show (if (130 : Int) < (l.length : Int) then (130 : Int) else (l.length : Int)) = (m : Int) by rw [hm]; split <;> omega]
  have hmc : (m : Int) ≤ (c : Int) := by omega
  have hml : (l.take 130).length = m := by rw [List.length_take, hm, Nat.min_comm]
  have hm130 : m ≤ 130 := by omega
  have HML := Lib.hid hml
  clear hm hm1 hm2 hm3 hml
  refine takeZ 9 (some 13) (by kernel_rfl) rfl rfl (by kernel_rfl) (by kernel_rfl) (by kernel_rfl) (fun _ _ _ h => h) (by rfl) (by intro w ⟨g1, g2⟩; go_simp; try with_reducible rfl) hHeld ?_
  simp only [Act.put, List.setIfInBounds_toArray, List.set_cons_zero, List.set_cons_succ]
  refine oneZ 10 rfl (by kernel_rfl) (fun K hK => ?_)
  obtain ⟨i0, hi0, hz0, hz1, hz2⟩ := info_parts arc_info
  have hw : W.heap.size ≤ W.drew.heap.size := Nat.le_refl _
  cases A with
  | none =>
    have hl0 : l = [] := by
      obtain ⟨A1, c1, e, -, -, h4⟩ := HLW.out
      by_cases h0 : 0 < l.length
      · obtain ⟨b, o, e2, -⟩ := h4 h0
        rw [e2] at e; cases e
      · exact List.eq_nil_of_length_eq_zero (by omega)
    subst hl0
    obtain rfl : m = 0 := by have := HML.out; simpa using this.symm
    go_simp
    obtain ⟨Y, hY⟩ : ∃ Y, Y = W.drew := ⟨_, rfl⟩
    have HBY := Lib.hid (show Below W.heap.size W Y by rw [hY]; exact (Below.refl _ _).drew)
    have HO := Lib.hid (show Y.ownsRow W.heap.size 39 3 (.slice none 0 0) (([] : List (Int × Int × Int)).take 130).length (cellsA (([] : List (Int × Int × Int)).take 130)) from World.ownsRow_nil _ _ _ _)
    have h1X := (HBY.out.block _ (by omega)).trans HX.out
    have h1Z := (HBY.out.block _ (by omega)).trans HZ.out
    have y0 : Y.cell? ⟨w.heap.size, 0, none⟩ = some (.int .i64 N) := cell_of h1X rfl
    have y1 : Y.cell? ⟨w.heap.size, 1, none⟩ = some (.slice none ([] : List (Int × Int × Int)).length c) := cell_of h1X rfl
    have z0 : Y.cell? ⟨w.heap.size + 1, 0, none⟩ = some (.int .i64 0) := cell_of h1Z rfl
    have z1 : Y.cell? ⟨w.heap.size + 1, 1, none⟩ = some (.slice none 0 0) := cell_of h1Z rfl
    have f0 : Y.frozen? ⟨w.heap.size + 1, 0, none⟩ = false := by simp [World.frozen?, h1Z]
    have f1 : Y.frozen? ⟨w.heap.size + 1, 1, none⟩ = false := by simp [World.frozen?, h1Z]
    have H1Z := Lib.hid h1Z
    rw [← hY]
    clear hHeld h1X h1Z x0 x1 hY
    refine hK.out _ _ (.inr ⟨y0, y1⟩) ?_
    clear hK K
    try simp only [Act.put, List.setIfInBounds_toArray, List.set_cons_zero, List.set_cons_succ]
    refine oneZ 11 rfl (by kernel_rfl) (fun K hK => ?_)
    go_simp
    refine hK.out _ _ (.inr ⟨y0, y1⟩) ?_
    clear hK K
    try simp only [Act.put, List.setIfInBounds_toArray, List.set_cons_zero, List.set_cons_succ]
    refine oneZ 12 rfl (by kernel_rfl) (fun K hK => ?_)
    go_simp
    refine hK.out _ _ (.inl rfl) ?_
    clear hK K
    refine doneZ (by kernel_rfl) ?_ _
    go_wp2_with (fail)
    obtain ⟨W5, hW5⟩ : ∃ X, X = (Y.setCell ⟨w.heap.size + 1, 0, none⟩ (.int .i64 N)).setCell ⟨w.heap.size + 1, 1, none⟩ (.slice none 0 0) := ⟨_, rfl⟩
    have h5 : W5.heap[w.heap.size + 1]? = some (.cells #[.int .i64 N, .slice none 0 0] 24 (0, 0)) := by rw [hW5]; exact row_set3 (row_set3 H1Z.out _) _
    have hB5 : Below w.heap.size w W5 := by rw [hW5]; exact ((below_join HB0.out HBY.out HB0.out.size).setCell (by show w.heap.size ≤ w.heap.size + 1; omega) _).setCell (by show w.heap.size ≤ w.heap.size + 1; omega) _
    have hpt : ∀ Y' : World, (∀ k, w.heap.size ≤ k → Y'.heap[k]? = W5.heap[k]?) → PtSl Y' (.slice none 0 0) (([] : List (Int × Int × Int)).take 130) := by
      intro Y' hY'
      exact own_ptSl (base := W.heap.size) (own_row_kept HO.out (fun g cur e h => by
        have hg := (ownsRow_lt HO.out e).1
        rw [hY' g (by omega), hW5, Below.heap_setCell _ ⟨w.heap.size + 1, 1, none⟩ _ g (by show g ≠ w.heap.size + 1; omega), Below.heap_setCell _ ⟨w.heap.size + 1, 0, none⟩ _ g (by show g ≠ w.heap.size + 1; omega)]; exact h))
    rw [← hW5]
    clear hW5
    have c0 : W5.cell? ⟨w.heap.size + 1, 0, none⟩ = some (.int .i64 N) := cell_of h5 rfl
    have c1 : W5.cell? ⟨w.heap.size + 1, 1, none⟩ = some (.slice none 0 0) := cell_of h5 rfl
    refine bodyPost_ret (v := .agg #[.int .i64 N, .slice none 0 0]) ?_ rfl ⟨_, rfl, hpt, hB5⟩
    simp [results, Try.results10, go_sem, c0, c1]
  | some ad =>
    rw [if_pos (by rfl)]
    refine wp_append_own (P := Try.prog) W.drew (.tmp 6) (.tmp 13) 22 rfl W.heap.size 39 i0 (.agg #[.int .i64 0, .int .i64 0, .int .i64 0]) 3 24 Try.underlying22 hi0 hz0 hz1 hz2 rfl (by omega) (.slice none 0 0) 0 [] rfl (World.ownsRow_nil _ _ _ _) ad m c (cellsA (l.take 130)) rfl ?q1 ?q2 ?q3 ?q4 ?q5 ?q6 ?_
    case q1 => rw [cellsA_len, HML.out]
    case q2 =>
      intro j u hj
      obtain ⟨p, hp, hu⟩ := cellsA_of hj
      rw [List.getElem?_take] at hp
      split at hp
      · obtain ⟨b, o, c', e, hlt, -, -, y0, y1, y2⟩ := HLW.out.at_ hp
        injection e with e _ _
        injection e with e
        subst e
        have e : (⟨b, o, none⟩ : Addr).add j = ⟨b, o + j, none⟩ := by unfold Addr.add; split <;> simp_all
        rw [e]
        rcases hu with ⟨e3, rfl⟩ | ⟨e3, rfl⟩ | ⟨e3, rfl⟩
        · rw [show o + j = o + j / 3 * 3 by omega]; exact y0
        · rw [show o + j = o + j / 3 * 3 + 1 by omega]; exact y1
        · rw [show o + j = o + j / 3 * 3 + 2 by omega]; exact y2
      · cases hp
    case q3 => exact cellsA_one
    case q4 => unfold maxLen; omega
    case q5 => omega
    case q6 => exact hw
    intro v' Y hown hgrow _
    have HO := Lib.hid (show Y.ownsRow W.heap.size 39 3 v' (l.take 130).length (cellsA (l.take 130)) by rw [HML.out]; simpa using hown)
    have HBY := Lib.hid (show Below W.heap.size W Y from ((Below.refl W.heap.size W).drew).grown hgrow (Nat.le_refl _) (by intro k hk; cases hk))
    have h1X := (HBY.out.block _ (by omega)).trans HX.out
    have h1Z := (HBY.out.block _ (by omega)).trans HZ.out
    have y0 : Y.cell? ⟨w.heap.size, 0, none⟩ = some (.int .i64 N) := cell_of h1X rfl
    have y1 : Y.cell? ⟨w.heap.size, 1, none⟩ = some (.slice (some ad) l.length c) := cell_of h1X rfl
    have z0 : Y.cell? ⟨w.heap.size + 1, 0, none⟩ = some (.int .i64 0) := cell_of h1Z rfl
    have z1 : Y.cell? ⟨w.heap.size + 1, 1, none⟩ = some (.slice none 0 0) := cell_of h1Z rfl
    have f0 : Y.frozen? ⟨w.heap.size + 1, 0, none⟩ = false := by simp [World.frozen?, h1Z]
    have f1 : Y.frozen? ⟨w.heap.size + 1, 1, none⟩ = false := by simp [World.frozen?, h1Z]
    have H1Z := Lib.hid h1Z
    obtain ⟨A5, n5, c5, rfl⟩ := own_shape HO.out
    clear hHeld hown hgrow h1X h1Z x0 x1
    refine hK.out _ _ (.inr ⟨y0, y1⟩) ?_
    clear hK K
    simp only [Act.put, List.setIfInBounds_toArray, List.set_cons_zero, List.set_cons_succ]
    refine oneZ 11 rfl (by kernel_rfl) (fun K hK => ?_)
    go_simp
    refine hK.out _ _ (.inr ⟨y0, y1⟩) ?_
    clear hK K
    try simp only [Act.put, List.setIfInBounds_toArray, List.set_cons_zero, List.set_cons_succ]
    refine oneZ 12 rfl (by kernel_rfl) (fun K hK => ?_)
    go_simp
    refine hK.out _ _ (.inl rfl) ?_
    clear hK K
    refine doneZ (by kernel_rfl) ?_ _
    go_wp2_with (fail)
    obtain ⟨W5, hW5⟩ : ∃ X, X = (Y.setCell ⟨w.heap.size + 1, 0, none⟩ (.int .i64 N)).setCell ⟨w.heap.size + 1, 1, none⟩ (.slice A5 n5 c5) := ⟨_, rfl⟩
    have h5 : W5.heap[w.heap.size + 1]? = some (.cells #[.int .i64 N, .slice A5 n5 c5] 24 (0, 0)) := by rw [hW5]; exact row_set3 (row_set3 H1Z.out _) _
    have hB5 : Below w.heap.size w W5 := by rw [hW5]; exact ((below_join HB0.out HBY.out HB0.out.size).setCell (by show w.heap.size ≤ w.heap.size + 1; omega) _).setCell (by show w.heap.size ≤ w.heap.size + 1; omega) _
    have hpt : ∀ Y' : World, (∀ k, w.heap.size ≤ k → Y'.heap[k]? = W5.heap[k]?) → PtSl Y' (.slice A5 n5 c5) (l.take 130) := by
      intro Y' hY'
      exact own_ptSl (base := W.heap.size) (own_row_kept HO.out (fun g cur e h => by
        have hg := (ownsRow_lt HO.out e).1
        rw [hY' g (by omega), hW5, Below.heap_setCell _ ⟨w.heap.size + 1, 1, none⟩ _ g (by show g ≠ w.heap.size + 1; omega), Below.heap_setCell _ ⟨w.heap.size + 1, 0, none⟩ _ g (by show g ≠ w.heap.size + 1; omega)]; exact h))
    rw [← hW5]
    clear hW5
    have c0 : W5.cell? ⟨w.heap.size + 1, 0, none⟩ = some (.int .i64 N) := cell_of h5 rfl
    have c1 : W5.cell? ⟨w.heap.size + 1, 1, none⟩ = some (.slice A5 n5 c5) := cell_of h5 rfl
    refine bodyPost_ret (v := .agg #[.int .i64 N, .slice A5 n5 c5]) ?_ rfl ⟨_, rfl, hpt, hB5⟩
    simp [results, Try.results10, go_sem, c0, c1]
end Go.Proofs.Ytglpaihadongkaa

/- DERIVED. The law FlowChecks (stage 5). -/
namespace Go.Proofs.Ytglpaihadongkaa
open Go.RowKit Go.Shelf
set_option maxRecDepth 100000
set_option linter.unusedSimpArgs false
set_option linter.unusedVariables false

theorem IntSl.cut {w : World} {A : Option Addr} {n c : Nat} {xs : List Int} (h : IntSl w (.slice A n c) xs) (m : Nat) (hm : m ≤ xs.length) : IntSl w (.slice A m c) (xs.take m) := by
  obtain ⟨A', c', e, h1, h2, h3, h4⟩ := h
  injection e with e1 e2 e3
  subst e1 e2 e3
  have hl : (xs.take m).length = m := by rw [List.length_take]; omega
  refine ⟨A, c, by rw [hl], by omega, h2, h3, fun h0 => ?_⟩
  obtain ⟨b, o, e, hlt, hc⟩ := h4 (by omega)
  refine ⟨b, o, e, hlt, fun j x hj => hc j x ?_⟩
  rw [List.getElem?_take] at hj
  split at hj
  · exact hj
  · cases hj
set_option maxHeartbeats 16000000 in
theorem row_FlowChecks (w : World) (N : Int) (L : Value) (l : List (Int × Int × Int)) (hL : PtSl w L l) (s t : Int) (Xv : Value) (xs : List Int) (hX : IntSl w Xv xs) (Sv : Value) (S : List Int) (hS : IntSl w Sv S) :
    Calls Try.prog 3 #[ntV N L, .int .i64 s, .int .i64 t, Xv, Sv] w fun e w' => e = .returned (.bool true) ∧ Below w.heap.size w w' := by
  obtain ⟨A, c, rfl, hc1, hc2⟩ := hL.shape
  obtain ⟨A2, c2, rfl, hd1, hd2⟩ := hX.shape
  obtain ⟨A3, c3, rfl, he1, he2⟩ := hS.shape
  unfold maxLen at hc2 hd2 he2
  obtain ⟨W, hW⟩ : ∃ W, W = w.alloc (.cells #[.int .i64 N, .slice A l.length c] 24) := ⟨_, rfl⟩
  have B0 : Below w.heap.size w W := by subst hW; exact (Below.refl _ _).alloc (Nat.le_refl _) _
  have hzw : W.heap.size = w.heap.size + 1 := by subst hW; simp
  have HB0 := Lib.hid B0
  have HX := Lib.hid (show W.heap[w.heap.size]? = some (.cells #[.int .i64 N, .slice A l.length c] 24 (0, 0)) by subst hW; exact heap_alloc_new _ _)
  have x0 : W.cell? ⟨w.heap.size, 0, none⟩ = some (.int .i64 N) := cell_of HX.out rfl
  have x1 : W.cell? ⟨w.heap.size, 1, none⟩ = some (.slice A l.length c) := cell_of HX.out rfl
  have HOWN := Lib.hid (c_own N (.slice A l.length c) l W (hL.on B0 (Nat.le_refl _)))
  obtain ⟨l2, hl2⟩ : ∃ l2, l2 = l.take 130 := ⟨_, rfl⟩
  rw [← hl2] at HOWN
  have HXS := Lib.hid (hX.on B0 (Nat.le_refl _))
  have HSS := Lib.hid (hS.on B0 (Nat.le_refl _))
  have hX0 := hX
  have hS0 := hS
  unfold ntV at HOWN ⊢
  clear B0 hL hX hS hl2
  rw [hW] at x0 x1
  go_enter Try.func3, Try.ntmps3
  go_wp2_with (fail)
  rw [← hW]
  clear hW x0 x1
  go_at_call 10
  refine HOWN.out.mono ?_
  rintro e w1 ⟨L2, rfl, hpt, hb⟩

  have h1X := (hb.block _ (by omega)).trans HX.out
  have x0 : w1.cell? ⟨w.heap.size, 0, none⟩ = some (.int .i64 N) := cell_of h1X rfl
  have x1 : w1.cell? ⟨w.heap.size, 1, none⟩ = some (.slice A l.length c) := cell_of h1X rfl
  have f0 : w1.frozen? ⟨w.heap.size, 0, none⟩ = false := by simp [World.frozen?, h1X]
  have f1 : w1.frozen? ⟨w.heap.size, 1, none⟩ = false := by simp [World.frozen?, h1X]
  obtain ⟨A4, c4, rfl, -, -⟩ := (hpt w1 (fun _ _ => rfl)).shape
  obtain ⟨V, hV⟩ : ∃ V, V = (w1.setCell ⟨w.heap.size, 0, none⟩ (.int .i64 N)).setCell ⟨w.heap.size, 1, none⟩ (.slice A4 l2.length c4) := ⟨_, rfl⟩
  have HLV := Lib.hid (show V.heap[w.heap.size]? = some (.cells #[.int .i64 N, .slice A4 l2.length c4] 24 (0, 0)) by rw [hV]; exact row_set3 (row_set3 h1X _) _)
  have HBV := Lib.hid (show Below w.heap.size w V by rw [hV]; exact ((below_join HB0.out hb HB0.out.size).setCell (by show w.heap.size ≤ w.heap.size; omega) _).setCell (by show w.heap.size ≤ w.heap.size; omega) _)
  have HPV := Lib.hid (hpt V (fun k hk => by rw [hV, Below.heap_setCell _ ⟨w.heap.size, 1, none⟩ _ k (by show k ≠ w.heap.size; omega), Below.heap_setCell _ ⟨w.heap.size, 0, none⟩ _ k (by show k ≠ w.heap.size; omega)]))
  have HXV := Lib.hid (hX0.on HBV.out (Nat.le_refl _))
  have HSV := Lib.hid (hS0.on HBV.out (Nat.le_refl _))
  clear HOWN hpt hb
  go_wp2_with (fail)
  rw [← hV]
  clear hV x0 x1 f0 f1 h1X
  obtain ⟨x0, x1⟩ : V.cell? ⟨w.heap.size, 0, none⟩ = some (.int .i64 N) ∧ V.cell? ⟨w.heap.size, 1, none⟩ = some (.slice A4 l2.length c4) := ⟨cell_of HLV.out rfl, cell_of HLV.out rfl⟩
  obtain ⟨m2, hm2⟩ : ∃ m, m = min xs.length 130 := ⟨_, rfl⟩
  obtain ⟨m3, hm3⟩ : ∃ m, m = min S.length 130 := ⟨_, rfl⟩
  have e2 : (if (130 : Int) < (xs.length : Int) then (130 : Int) else (xs.length : Int)) = (m2 : Int) := by rw [hm2]; split <;> omega
  have e3 : (if (130 : Int) < (S.length : Int) then (130 : Int) else (S.length : Int)) = (m3 : Int) := by rw [hm3]; split <;> omega
  have hb2 : (m2 : Int) ≤ (c2 : Int) := by omega
  have hb3 : (m3 : Int) ≤ (c3 : Int) := by omega
  have HX2 := Lib.hid (show IntSl V (.slice A2 m2 c2) (xs.take m2) from HXV.out.cut m2 (by omega))
  have HS2 := Lib.hid (show IntSl V (.slice A3 m3 c3) (S.take m3) from HSV.out.cut m3 (by omega))
  have hl2 : (xs.take m2).length = m2 := by rw [List.length_take]; omega
  have hl3 : (S.take m3).length = m3 := by rw [List.length_take]; omega
  have hm2' : m2 ≤ 130 := by omega
  have hm3' : m3 ≤ 130 := by omega
  obtain ⟨ys, hys⟩ : ∃ ys, ys = xs.take m2 := ⟨_, rfl⟩
  obtain ⟨zs, hzs⟩ : ∃ zs, zs = S.take m3 := ⟨_, rfl⟩
  rw [← hys] at HX2 hl2
  rw [← hzs] at HS2 hl3
  clear hm2 hm3 hys hzs
  go_quiet (fail)
  obtain ⟨V0, hV0⟩ : ∃ X, X = V.drewN nq := ⟨_, rfl⟩
  rw [← hV0]
  have HBV0 := Lib.hid (show Below w.heap.size w V0 by rw [hV0]; exact below_drewN HBV.out)
  have HL0 := Lib.hid (show V0.heap[w.heap.size]? = some (.cells #[.int .i64 N, .slice A4 l2.length c4] 24 (0, 0)) by rw [hV0]; exact HLV.out)
  have HP0 := Lib.hid (show PtSl V0 (.slice A4 l2.length c4) l2 by rw [hV0]; exact HPV.out)
  have HX0 := Lib.hid (show IntSl V0 (.slice A2 m2 c2) ys by rw [hV0]; exact HX2.out)
  have HS0 := Lib.hid (show IntSl V0 (.slice A3 m3 c3) zs by rw [hV0]; exact HS2.out)
  have hz0 := at_lt HL0.out
  clear hV0 e2 e3 hb2 hb3 x0 x1
  have HXF := Lib.hid (fun (X : World) (hX : Below V0.heap.size V0 X) => (⟨⟨cell_of ((hX.block _ hz0).trans HL0.out) rfl, cell_of ((hX.block _ hz0).trans HL0.out) rfl⟩, HP0.out.on hX (Nat.le_refl _), HX0.out.on hX (Nat.le_refl _), HS0.out.on hX (Nat.le_refl _)⟩ : (X.cell? ⟨w.heap.size, 0, none⟩ = some (.int .i64 N) ∧ X.cell? ⟨w.heap.size, 1, none⟩ = some (.slice A4 l2.length c4)) ∧ PtSl X (.slice A4 l2.length c4) l2 ∧ IntSl X (.slice A2 m2 c2) ys ∧ IntSl X (.slice A3 m3 c3) zs))
  obtain ⟨⟨y1, r1⟩, hq1⟩ : ∃ q, chkV N l2 s t ys = q := ⟨_, rfl⟩
  obtain ⟨⟨y2, r2⟩, hq2⟩ : ∃ q, acrV N l2 zs = q := ⟨_, rfl⟩
  obtain ⟨r3, hq3⟩ : ∃ q, ntOk N l2 = q := ⟨_, rfl⟩
  have HK1 := Lib.hid (fun (u : Value) (X : World) (hX : PtSl X (.slice A4 l2.length c4) l2) (hU : IntSl X u ys) => c_Check N (.slice A4 l2.length c4) u l2 s t ys X hX hU y1 r1 hq1)
  have HK2 := Lib.hid (fun (u : Value) (X : World) (hX : PtSl X (.slice A4 l2.length c4) l2) (hU : IntSl X u ys) => d_Check N (.slice A4 l2.length c4) u l2 s t ys X hX hU y1 r1 hq1)
  have HA1 := Lib.hid (fun (u : Value) (X : World) (hX : PtSl X (.slice A4 l2.length c4) l2) (hU : IntSl X u zs) => c_Across N (.slice A4 l2.length c4) u l2 zs X hX hU y2 r2 hq2)
  have HA2 := Lib.hid (fun (u : Value) (X : World) (hX : PtSl X (.slice A4 l2.length c4) l2) (hU : IntSl X u zs) => d_Across N (.slice A4 l2.length c4) u l2 zs X hX hU y2 r2 hq2)
  have HV1 := Lib.hid (fun (X : World) (hX : Below V0.heap.size V0 X) => c_Valid N (.slice A4 l2.length c4) l2 X (HXF.out X hX).2.1 r3 hq3)
  have HV2 := Lib.hid (fun (X : World) (hX : Below V0.heap.size V0 X) => d_Valid N (.slice A4 l2.length c4) l2 X (HXF.out X hX).2.1 r3 hq3)
  have HC1 := Lib.hid (fun (X : World) (hX : Below V0.heap.size V0 X) => c_Clone ys (by omega) (.slice A2 m2 c2) X (HXF.out X hX).2.2.1)
  have HC2 := Lib.hid (fun (X : World) (hX : Below V0.heap.size V0 X) => c_Clone zs (by omega) (.slice A3 m3 c3) X (HXF.out X hX).2.2.2)
  have HWK := Lib.hid (fun (X : World) => c_works X)
  have hrr : (r3 == r3) = true := by simp
  unfold ntV at HK1 HK2 HA1 HA2 HV1 HV2
  clear hq1 hq2 hq3
  go_wp2_with (fail)
  go_region_held3 (fun X => X.cell? ⟨w.heap.size, 0, none⟩ = some (.int .i64 N) ∧ X.cell? ⟨w.heap.size, 1, none⟩ = some (.slice A4 l2.length c4))
    (first | exact (HXF.out v2 HBv2.out).1 | exact (HXF.out v1 HBv1.out).1 | exact (HXF.out V0 (Below.refl _ _)).1)
    (first
      | (go_at_call 12; (with_reducible refine (HC1.out V0.drew (Below.refl _ _).drew).mono ?_); rintro e v1 ⟨u1, rfl, hown1, bb0⟩; have HBv1 := Lib.hid (below_join (Below.refl V0.heap.size V0).drew bb0 (Nat.le_refl _)); have HU1 := Lib.hid (own_intSl hown1); clear bb0 hown1)
      | (go_at_call 11; (with_reducible refine (HK1.out _ v1 (HXF.out v1 HBv1.out).2.1 HU1.out).mono ?_); rintro e v2 ⟨rfl, bb0⟩; have HBv2 := Lib.hid (below_join HBv1.out bb0 HBv1.out.size); clear bb0)
      | fail)
  obtain ⟨⟨x0, x1⟩, p0, i0, -⟩ := HXF.out v2 HBv2.out
  go_wp2_with (fail)
  clear x0 x1
  go_at_call 13
  refine (HK2.out _ v2 p0 i0).mono ?_
  rintro e v3 ⟨rfl, bb0⟩
  have HBv3 := Lib.hid (below_join HBv2.out bb0 HBv2.out.size)
  clear bb0 p0 i0
  go_wp2_with (fail)
  go_region_held3 (fun X => X.cell? ⟨w.heap.size, 0, none⟩ = some (.int .i64 N) ∧ X.cell? ⟨w.heap.size, 1, none⟩ = some (.slice A4 l2.length c4))
    (first | exact (HXF.out v5 HBv5.out).1 | exact (HXF.out v4 HBv4.out).1 | exact (HXF.out v3 HBv3.out).1)
    (first
      | (go_at_call 12; (with_reducible refine (HC2.out v3.drew HBv3.out.drew).mono ?_); rintro e v4 ⟨u4, rfl, hown4, bb0⟩; have HBv4 := Lib.hid (below_join HBv3.out.drew bb0 HBv3.out.size); have HU4 := Lib.hid (own_intSl hown4); clear bb0 hown4)
      | (go_at_call 14; (with_reducible refine (HA1.out _ v4 (HXF.out v4 HBv4.out).2.1 HU4.out).mono ?_); rintro e v5 ⟨rfl, bb0⟩; have HBv5 := Lib.hid (below_join HBv4.out bb0 HBv4.out.size); clear bb0)
      | fail)
  obtain ⟨⟨x0, x1⟩, p0, -, i0⟩ := HXF.out v5 HBv5.out
  go_wp2_with (fail)
  clear x0 x1
  go_at_call 15
  refine (HA2.out _ v5 p0 i0).mono ?_
  rintro e v6 ⟨rfl, bb0⟩
  have HBv6 := Lib.hid (below_join HBv5.out bb0 HBv5.out.size)
  clear bb0 p0 i0
  go_wp2_with (fail)
  go_region_held3 (fun X => X.cell? ⟨w.heap.size, 0, none⟩ = some (.int .i64 N) ∧ X.cell? ⟨w.heap.size, 1, none⟩ = some (.slice A4 l2.length c4))
    (first | exact (HXF.out v9 HBv9.out).1 | exact (HXF.out v8 HBv8.out).1 | exact (HXF.out v7 HBv7.out).1 | exact (HXF.out v6 HBv6.out).1)
    (first
      | (go_at_call 16; (with_reducible refine (HV1.out v6.drew HBv6.out.drew).mono ?_); rintro e v7 ⟨rfl, bb0⟩; have HBv7 := Lib.hid (below_join HBv6.out.drew bb0 HBv6.out.size); clear bb0)
      | (go_at_call 17; (with_reducible refine (HV2.out v7 HBv7.out).mono ?_); rintro e v8 ⟨rfl, bb0⟩; have HBv8 := Lib.hid (below_join HBv7.out bb0 HBv7.out.size); clear bb0)
      | (go_at_call 18; (with_reducible refine (HWK.out v8).mono ?_); rintro e v9 ⟨rfl, bb0⟩; have HBv9 := Lib.hid (below_join HBv8.out bb0 HBv8.out.size); clear bb0)
      | fail)
  have HEND := Lib.hid (below_join HBV0.out HBv9.out HBV0.out.size)
  go_wp2_with (fail)
  go_ret
  exact ⟨rfl, HEND.out⟩
end Go.Proofs.Ytglpaihadongkaa

/- DERIVED. From a row's claim to the walks: nets and lists of numbers that come in (stage 5). -/
namespace Go.Proofs.Ytglpaihadongkaa
open Go.ChangeShapes Go.WideShapes Go.Deep Go.RowKit
set_option maxRecDepth 100000
set_option linter.unusedSimpArgs false
set_option linter.unusedVariables false

theorem cells_it : Try.prog.cellsOf 3 = 1 := by kernel_rfl
theorem cells_ac : Try.prog.cellsOf 39 = 3 := by kernel_rfl
theorem cells_as : Try.prog.cellsOf 22 = 1 := by kernel_rfl
theorem cells_nt : Try.prog.cellsOf 24 = 2 := by kernel_rfl
section
variable {H : Type} {enc : TypeId × Value → H} {W : World} {base : Nat} {spare : Nat → Bool} {held : Bool} {r : Go.Reach} {b0 : Nat} {v : Value} {d : DataW H} {p : List MemPlace}
theorem open_is {fuel : Nat} {x : DataW H × List MemPlace} (hf : DataW.trod enc Try.prog W base spare held fuel 25 [v] = some x) : ∃ l, IntSl W v l := by
  rcases open_ints Try.underlying25 Try.underlying3 (by kernel_rfl) hf with ⟨h0, -⟩ | ⟨a, len, cap, zs, hcs, hb, hl, hm, hz, -, hc, hwf⟩
  · simp at h0
    subst h0
    exact ⟨[], IntSl.nil W⟩
  · simp at hcs
    subst hcs
    have hlz : len ≤ zs.length := by rw [hz]; split <;> omega
    have hlen : (zs.take len).length = len := by simp; omega
    refine ⟨zs.take len, some a, cap, by rw [hlen], by rw [hlen]; exact hl, hm, (by intro h; cases h), fun h0 => ?_⟩
    rw [hlen] at h0
    have hc0 := hc 0 (by omega)
    obtain ⟨b, off, rfl, hlt⟩ := add_spot hc0
    refine ⟨b, off, rfl, hlt, fun j x hj => ?_⟩
    have hjl : j < len := by
      have := (List.getElem?_eq_some_iff.1 hj).1
      omega
    rw [List.getElem?_take_of_lt hjl] at hj
    have h1 := hc j (by omega)
    rw [plain_add, List.getD_eq_getElem?_getD, hj] at h1
    exact h1
theorem open_one64 {fuel : Nat} {x : DataW H × List MemPlace} {u : Value} (hf : DataW.trod enc Try.prog W base spare held fuel 3 [u] = some x) : ∃ n : Int, u = .int .i64 n := by
  obtain ⟨n, g, -, -⟩ := DataW.trod_int Try.underlying3 hf
  simp at g
  exact ⟨n, g⟩
theorem open_arcs {fuel : Nat} {x : DataW H × List MemPlace} (hf : DataW.trod enc Try.prog W base spare held fuel 22 [v] = some x) : ∃ ps, PtSl W v ps ∧ ∀ m c, v = .slice none m c → c = 0 := by
  rcases open_slice Try.underlying22 hf with ⟨h0, _⟩ | ⟨a, len, cap, m, n, D, Pl, hcs, hb, hl, hm, hmm, hx, hi⟩
  · simp at h0
    subst h0
    exact ⟨[], ⟨none, 0, rfl, Nat.le_refl _, Nat.zero_le _, fun h => absurd h (Nat.lt_irrefl _)⟩, fun m c h => by injection h with h1 h2 h3; exact h3.symm⟩
  · simp at hcs
    subst hcs
    have hel : ∀ i, i < len → ∃ y : Int × Int × Int, W.cell? (a.add (i * 3)) = some (.int .i64 y.1) ∧ W.cell? (a.add (i * 3 + 1)) = some (.int .i64 y.2.1) ∧ W.cell? (a.add (i * 3 + 2)) = some (.int .i64 y.2.2) := by
      intro i him
      obtain ⟨cs', hc, ht'⟩ := hi i (by rw [hmm]; split <;> omega)
      rw [cells_ac] at hc
      obtain ⟨_, hcl, hat⟩ := World.cells?_some hc
      obtain ⟨xs, k, -, -, -, hxl, hg⟩ := DataW.trod_struct Try.underlying39 ht'
      have hxl' : xs.length = 3 := hxl
      have g0 : DataW.trod enc Try.prog W base spare held k 3 ((cs'.drop 0).take (Try.prog.cellsOf 3)) = xs[0]? := hg 0 _ rfl
      have g1 : DataW.trod enc Try.prog W base spare held k 3 ((cs'.drop 1).take (Try.prog.cellsOf 3)) = xs[1]? := hg 1 _ rfl
      have g2 : DataW.trod enc Try.prog W base spare held k 3 ((cs'.drop 2).take (Try.prog.cellsOf 3)) = xs[2]? := hg 2 _ rfl
      rw [List.getElem?_eq_getElem (by omega)] at g0 g1 g2
      rw [cells_it] at g0 g1 g2
      match cs', hcl with
      | [c0, c1, c2], _ =>
        obtain ⟨p0, rfl⟩ := open_one64 (u := c0) g0
        obtain ⟨p1, rfl⟩ := open_one64 (u := c1) g1
        obtain ⟨p2, rfl⟩ := open_one64 (u := c2) g2
        have e0 := hat 0 (by omega)
        have e1 := hat 1 (by omega)
        have e2 := hat 2 (by omega)
        rw [Go.Deep.add_add] at e0 e1 e2
        exact ⟨(p0, p1, p2), by simpa using e0, by simpa using e1, by simpa using e2⟩
    obtain ⟨F, hF⟩ := choose_lt hel
    refine ⟨(List.range len).map F, ⟨some a, cap, by simp, by simpa using hl, hm, fun h0 => ?_⟩, fun m c h => by cases h⟩
    have h0' : 0 < len := by simpa using h0
    obtain ⟨b, off, rfl, hlt⟩ := add_spot (hF 0 h0').1
    refine ⟨b, off, rfl, hlt, fun j q hj => ?_⟩
    have hjl : j < len := by have := (List.getElem?_eq_some_iff.1 hj).1; simpa using this
    rw [List.getElem?_map, List.getElem?_range hjl] at hj
    injection hj with hj
    subst hj
    obtain ⟨e0, e1, e2⟩ := hF j hjl
    rw [plain_add] at e0 e1 e2
    exact ⟨e0, e1, e2⟩
theorem open_ints_ (h : DataW.Trod enc Try.prog W base spare held 25 v d p) (hv : Value.okWide Try.prog W r b0 25 v) : ∃ l, IntSl W v l := by
  obtain ⟨a0, len0, cap0, rfl⟩ := okWide_slice Try.underlying25 hv
  obtain ⟨fuel, hf⟩ := h
  exact open_is (by simpa [Value.cells] using hf)
theorem open_int_ (h : DataW.Trod enc Try.prog W base spare held 3 v d p) (hv : Value.okWide Try.prog W r b0 3 v) : ∃ n : Int, v = .int .i64 n := by
  obtain ⟨m, rfl⟩ := okWide_int Try.underlying3 hv
  obtain ⟨fuel, hf⟩ := h
  obtain ⟨n, g, -, hw⟩ := DataW.trod_int Try.underlying3 (by simpa [Value.cells] using hf)
  simp at g
  subst g
  exact ⟨_, rfl⟩
theorem open_net (h : DataW.Trod enc Try.prog W base spare held 24 v d p) (hv : Value.okWide Try.prog W r b0 24 v) : ∃ (N : Int) (L : Value) (l : List (Int × Int × Int)), v = ntV N L ∧ PtSl W L l := by
  obtain ⟨⟨l⟩, rfl, hsz⟩ := okWide_struct Try.underlying24 hv
  obtain ⟨fuel, hf⟩ := h
  obtain ⟨xs, k, -, -, -, hl, hg⟩ := DataW.trod_struct Try.underlying24 hf
  have hlen : l.length = 2 := hsz.trans cells_nt
  have hxl : xs.length = 2 := hl
  have g0 : DataW.trod enc Try.prog W base spare held k 3 ((l.drop 0).take (Try.prog.cellsOf 3)) = xs[0]? := hg 0 _ rfl
  have g1 : DataW.trod enc Try.prog W base spare held k 22 ((l.drop 1).take (Try.prog.cellsOf 22)) = xs[1]? := hg 1 _ rfl
  rw [List.getElem?_eq_getElem (by omega)] at g0 g1
  rw [cells_it] at g0
  rw [cells_as] at g1
  match l, hlen with
  | [c0, c1], _ =>
    obtain ⟨N, rfl⟩ := open_one64 (u := c0) g0
    obtain ⟨ps, hps, -⟩ := open_arcs (v := c1) g1
    exact ⟨N, c1, ps, rfl, hps⟩
end
end Go.Proofs.Ytglpaihadongkaa
