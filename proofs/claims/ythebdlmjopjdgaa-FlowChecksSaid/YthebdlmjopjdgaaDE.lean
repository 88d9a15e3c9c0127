/-
  DERIVED. own of the law: a net cut to 130 arcs, copied (stage 5).
-/
import Derived.Test.YthebdlmjopjdgaaDD
namespace Go.Proofs.Ythebdlmjopjdgaa
open Go.RowKit Go.Shelf
set_option maxRecDepth 100000
set_option linter.unusedSimpArgs false
set_option linter.unusedVariables false

set_option maxHeartbeats 8000000 in
theorem c_own (N : Int) (L : Value) (l : List (Int × Int × Int)) (w : World) (hL : PtSl w L l) :
    Calls Try.prog 10 #[ntV N L] w fun e w' => ∃ L', e = .returned (ntV N L') ∧ (∀ Y : World, (∀ k, w.heap.size ≤ k → Y.heap[k]? = w'.heap[k]?) → PtSl Y L' (l.take 130)) ∧ Below w.heap.size w w' := by
  obtain ⟨A, c, rfl, hc1, hc2⟩ := hL.shape
  unfold maxLen at hc2
  obtain ⟨W, hW⟩ : ∃ W, W = (w.alloc (.cells #[.int .i64 N, .slice A l.length c] 24)).alloc (.cells #[.int .i64 0, .slice none 0 0] 24) := ⟨_, rfl⟩
  have B0 : Below w.heap.size w W := by subst hW; exact ((Below.refl _ _).alloc (Nat.le_refl _) _).alloc (by simp) _
  have hzw : W.heap.size = w.heap.size + 2 := by subst hW; simp
  have HB0 := Lib.hid B0
  have HX := Lib.hid (show W.heap[w.heap.size]? = some (.cells #[.int .i64 N, .slice A l.length c] 24 (0, 0)) by subst hW; exact old_heap _ (heap_alloc_new _ _))
  have HZ := Lib.hid (show W.heap[w.heap.size + 1]? = some (.cells #[.int .i64 0, .slice none 0 0] 24 (0, 0)) by subst hW; exact row_new _ _ _ (by simp))
  have x0 : W.cell? ⟨w.heap.size, 0, none⟩ = some (.int .i64 N) := cell_of HX.out rfl
  have x1 : W.cell? ⟨w.heap.size, 1, none⟩ = some (.slice A l.length c) := cell_of HX.out rfl
  have HLW := Lib.hid (hL.on B0 (Nat.le_refl _))
  have hfm : Try.prog.follows Departure.mixedOrders = true := by kernel_rfl
  have hm1 : min l.length 130 ≤ c := by omega
  have hm2 : min (l.length : Int) 130 ≤ (c : Int) := by omega
  have hm3 : 0 ≤ min (l.length : Int) 130 := by omega
  unfold ntV
  clear B0 hL
  go_enter Try.func10, Try.ntmps10
  go_wp2_with (fail)
  rw [← hW]
  clear hW
  refine region_z 12 hfm (S := fun X => X.cell? ⟨w.heap.size, 0, none⟩ = some (.int .i64 N) ∧ X.cell? ⟨w.heap.size, 1, none⟩ = some (.slice A l.length c)) ⟨x0, x1⟩ (fun hHeld => ?_)
  refine takeZ 0 (some 4) (by kernel_rfl) rfl rfl (by kernel_rfl) (by kernel_rfl) (by kernel_rfl) (fun _ _ _ h => h) (by rfl) (by intro w ⟨g1, g2⟩; go_simp; try with_reducible rfl) hHeld ?_
  simp only [Act.put, List.setIfInBounds_toArray, List.set_cons_zero, List.set_cons_succ]
  refine takeZ 1 (some 5) (by kernel_rfl) rfl rfl (by kernel_rfl) (by kernel_rfl) (by kernel_rfl) (fun _ _ _ h => h) (by rfl) (by intro w ⟨g1, g2⟩; go_simp; try with_reducible rfl) hHeld ?_
  simp only [Act.put, List.setIfInBounds_toArray, List.set_cons_zero, List.set_cons_succ]
  refine takeZ 2 (some 6) (by kernel_rfl) rfl rfl (by kernel_rfl) (by kernel_rfl) (by kernel_rfl) (fun _ _ _ h => h) (by rfl) (by intro w ⟨g1, g2⟩; go_simp; try with_reducible rfl) hHeld ?_
  simp only [Act.put, List.setIfInBounds_toArray, List.set_cons_zero, List.set_cons_succ]
  refine takeZ 3 (some 7) (by kernel_rfl) rfl rfl (by kernel_rfl) (by kernel_rfl) (by kernel_rfl) (fun _ _ _ h => h) (by rfl) (by intro w ⟨g1, g2⟩; go_simp; try with_reducible rfl) hHeld ?_
  simp only [Act.put, List.setIfInBounds_toArray, List.set_cons_zero, List.set_cons_succ]
  refine takeZ 4 (some 8) (by kernel_rfl) rfl rfl (by kernel_rfl) (by kernel_rfl) (by kernel_rfl) (fun _ _ _ h => h) (by rfl) (by intro w ⟨g1, g2⟩; go_simp; try with_reducible rfl) hHeld ?_
  simp only [Act.put, List.setIfInBounds_toArray, List.set_cons_zero, List.set_cons_succ]
  refine takeZ 5 (some 9) (by kernel_rfl) rfl rfl (by kernel_rfl) (by kernel_rfl) (by kernel_rfl) (fun _ _ _ h => h) (by rfl) (by intro w ⟨g1, g2⟩; go_simp; try with_reducible rfl) hHeld ?_
  simp only [Act.put, List.setIfInBounds_toArray, List.set_cons_zero, List.set_cons_succ]
  refine takeZ 6 (some 10) (by kernel_rfl) rfl rfl (by kernel_rfl) (by kernel_rfl) (by kernel_rfl) (fun _ _ _ h => h) (by rfl) (by intro w ⟨g1, g2⟩; go_simp; try with_reducible rfl) hHeld ?_
  simp only [Act.put, List.setIfInBounds_toArray, List.set_cons_zero, List.set_cons_succ]
  refine takeZ 7 (some 11) (by kernel_rfl) rfl rfl (by kernel_rfl) (by kernel_rfl) (by kernel_rfl) (fun _ _ _ h => h) (by rfl) (by intro w ⟨g1, g2⟩; go_simp; try with_reducible rfl) hHeld ?_
  simp only [Act.put, List.setIfInBounds_toArray, List.set_cons_zero, List.set_cons_succ]
  refine takeZ 8 (some 12) (by kernel_rfl) rfl rfl (by kernel_rfl) (by kernel_rfl) (by kernel_rfl) (fun _ _ _ h => h) (by rfl) (by intro w ⟨g1, g2⟩; go_simp; try with_reducible rfl) hHeld ?_
  simp only [Act.put, List.setIfInBounds_toArray, List.set_cons_zero, List.set_cons_succ]
  obtain ⟨m, hm⟩ : ∃ m, m = min l.length 130 := ⟨_, rfl⟩
  rw [show (if (130 : Int) < (l.length : Int) then (130 : Int) else (l.length : Int)) = (m : Int) by rw [hm]; split <;> omega]
  have hmc : (m : Int) ≤ (c : Int) := by omega
  have hml : (l.take 130).length = m := by rw [List.length_take, hm, Nat.min_comm]
  have hm130 : m ≤ 130 := by omega
  have HML := Lib.hid hml
  clear hm hm1 hm2 hm3 hml
  refine takeZ 9 (some 13) (by kernel_rfl) rfl rfl (by kernel_rfl) (by kernel_rfl) (by kernel_rfl) (fun _ _ _ h => h) (by rfl) (by intro w ⟨g1, g2⟩; go_simp; try with_reducible rfl) hHeld ?_
  simp only [Act.put, List.setIfInBounds_toArray, List.set_cons_zero, List.set_cons_succ]
  refine oneZ 10 rfl (by kernel_rfl) (fun K hK => ?_)
  obtain ⟨i0, hi0, hz0, hz1, hz2⟩ := info_parts arc_info
  have hw : W.heap.size ≤ W.drew.heap.size := Nat.le_refl _
  cases A with
  | none =>
    have hl0 : l = [] := by
      obtain ⟨A1, c1, e, -, -, h4⟩ := HLW.out
      by_cases h0 : 0 < l.length
      · obtain ⟨b, o, e2, -⟩ := h4 h0
        rw [e2] at e; cases e
      · exact List.eq_nil_of_length_eq_zero (by omega)
    subst hl0
    obtain rfl : m = 0 := by have := HML.out; simpa using this.symm
    go_simp
    obtain ⟨Y, hY⟩ : ∃ Y, Y = W.drew := ⟨_, rfl⟩
    have HBY := Lib.hid (show Below W.heap.size W Y by rw [hY]; exact (Below.refl _ _).drew)
    have HO := Lib.hid (show Y.ownsRow W.heap.size 39 3 (.slice none 0 0) (([] : List (Int × Int × Int)).take 130).length (cellsA (([] : List (Int × Int × Int)).take 130)) from World.ownsRow_nil _ _ _ _)
    have h1X := (HBY.out.block _ (by omega)).trans HX.out
    have h1Z := (HBY.out.block _ (by omega)).trans HZ.out
    have y0 : Y.cell? ⟨w.heap.size, 0, none⟩ = some (.int .i64 N) := cell_of h1X rfl
    have y1 : Y.cell? ⟨w.heap.size, 1, none⟩ = some (.slice none ([] : List (Int × Int × Int)).length c) := cell_of h1X rfl
    have z0 : Y.cell? ⟨w.heap.size + 1, 0, none⟩ = some (.int .i64 0) := cell_of h1Z rfl
    have z1 : Y.cell? ⟨w.heap.size + 1, 1, none⟩ = some (.slice none 0 0) := cell_of h1Z rfl
    have f0 : Y.frozen? ⟨w.heap.size + 1, 0, none⟩ = false := by simp [World.frozen?, h1Z]
    have f1 : Y.frozen? ⟨w.heap.size + 1, 1, none⟩ = false := by simp [World.frozen?, h1Z]
    have H1Z := Lib.hid h1Z
    rw [← hY]
    clear hHeld h1X h1Z x0 x1 hY
    refine hK.out _ _ (.inr ⟨y0, y1⟩) ?_
    clear hK K
    try simp only [Act.put, List.setIfInBounds_toArray, List.set_cons_zero, List.set_cons_succ]
    refine oneZ 11 rfl (by kernel_rfl) (fun K hK => ?_)
    go_simp
    refine hK.out _ _ (.inr ⟨y0, y1⟩) ?_
    clear hK K
    try simp only [Act.put, List.setIfInBounds_toArray, List.set_cons_zero, List.set_cons_succ]
    refine oneZ 12 rfl (by kernel_rfl) (fun K hK => ?_)
    go_simp
    refine hK.out _ _ (.inl rfl) ?_
    clear hK K
    refine doneZ (by kernel_rfl) ?_ _
    go_wp2_with (fail)
    obtain ⟨W5, hW5⟩ : ∃ X, X = (Y.setCell ⟨w.heap.size + 1, 0, none⟩ (.int .i64 N)).setCell ⟨w.heap.size + 1, 1, none⟩ (.slice none 0 0) := ⟨_, rfl⟩
    have h5 : W5.heap[w.heap.size + 1]? = some (.cells #[.int .i64 N, .slice none 0 0] 24 (0, 0)) := by rw [hW5]; exact row_set3 (row_set3 H1Z.out _) _
    have hB5 : Below w.heap.size w W5 := by rw [hW5]; exact ((below_join HB0.out HBY.out HB0.out.size).setCell (by show w.heap.size ≤ w.heap.size + 1; omega) _).setCell (by show w.heap.size ≤ w.heap.size + 1; omega) _
    have hpt : ∀ Y' : World, (∀ k, w.heap.size ≤ k → Y'.heap[k]? = W5.heap[k]?) → PtSl Y' (.slice none 0 0) (([] : List (Int × Int × Int)).take 130) := by
      intro Y' hY'
      exact own_ptSl (base := W.heap.size) (own_row_kept HO.out (fun g cur e h => by
        have hg := (ownsRow_lt HO.out e).1
        rw [hY' g (by omega), hW5, Below.heap_setCell _ ⟨w.heap.size + 1, 1, none⟩ _ g (by show g ≠ w.heap.size + 1; omega), Below.heap_setCell _ ⟨w.heap.size + 1, 0, none⟩ _ g (by show g ≠ w.heap.size + 1; omega)]; exact h))
    rw [← hW5]
    clear hW5
    have c0 : W5.cell? ⟨w.heap.size + 1, 0, none⟩ = some (.int .i64 N) := cell_of h5 rfl
    have c1 : W5.cell? ⟨w.heap.size + 1, 1, none⟩ = some (.slice none 0 0) := cell_of h5 rfl
    refine bodyPost_ret (v := .agg #[.int .i64 N, .slice none 0 0]) ?_ rfl ⟨_, rfl, hpt, hB5⟩
    simp [results, Try.results10, go_sem, c0, c1]
  | some ad =>
    rw [if_pos (by rfl)]
    refine wp_append_own (P := Try.prog) W.drew (.tmp 6) (.tmp 13) 22 rfl W.heap.size 39 i0 (.agg #[.int .i64 0, .int .i64 0, .int .i64 0]) 3 24 Try.underlying22 hi0 hz0 hz1 hz2 rfl (by omega) (.slice none 0 0) 0 [] rfl (World.ownsRow_nil _ _ _ _) ad m c (cellsA (l.take 130)) rfl ?q1 ?q2 ?q3 ?q4 ?q5 ?q6 ?_
    case q1 => rw [cellsA_len, HML.out]
    case q2 =>
      intro j u hj
      obtain ⟨p, hp, hu⟩ := cellsA_of hj
      rw [List.getElem?_take] at hp
      split at hp
      · obtain ⟨b, o, c', e, hlt, -, -, y0, y1, y2⟩ := HLW.out.at_ hp
        injection e with e _ _
        injection e with e
        subst e
        have e : (⟨b, o, none⟩ : Addr).add j = ⟨b, o + j, none⟩ := by unfold Addr.add; split <;> simp_all
        rw [e]
        rcases hu with ⟨e3, rfl⟩ | ⟨e3, rfl⟩ | ⟨e3, rfl⟩
        · rw [show o + j = o + j / 3 * 3 by omega]; exact y0
        · rw [show o + j = o + j / 3 * 3 + 1 by omega]; exact y1
        · rw [show o + j = o + j / 3 * 3 + 2 by omega]; exact y2
      · cases hp
    case q3 => exact cellsA_one
    case q4 => unfold maxLen; omega
    case q5 => omega
    case q6 => exact hw
    intro v' Y hown hgrow _
    have HO := Lib.hid (show Y.ownsRow W.heap.size 39 3 v' (l.take 130).length (cellsA (l.take 130)) by rw [HML.out]; simpa using hown)
    have HBY := Lib.hid (show Below W.heap.size W Y from ((Below.refl W.heap.size W).drew).grown hgrow (Nat.le_refl _) (by intro k hk; cases hk))
    have h1X := (HBY.out.block _ (by omega)).trans HX.out
    have h1Z := (HBY.out.block _ (by omega)).trans HZ.out
    have y0 : Y.cell? ⟨w.heap.size, 0, none⟩ = some (.int .i64 N) := cell_of h1X rfl
    have y1 : Y.cell? ⟨w.heap.size, 1, none⟩ = some (.slice (some ad) l.length c) := cell_of h1X rfl
    have z0 : Y.cell? ⟨w.heap.size + 1, 0, none⟩ = some (.int .i64 0) := cell_of h1Z rfl
    have z1 : Y.cell? ⟨w.heap.size + 1, 1, none⟩ = some (.slice none 0 0) := cell_of h1Z rfl
    have f0 : Y.frozen? ⟨w.heap.size + 1, 0, none⟩ = false := by simp [World.frozen?, h1Z]
    have f1 : Y.frozen? ⟨w.heap.size + 1, 1, none⟩ = false := by simp [World.frozen?, h1Z]
    have H1Z := Lib.hid h1Z
    obtain ⟨A5, n5, c5, rfl⟩ := own_shape HO.out
    clear hHeld hown hgrow h1X h1Z x0 x1
    refine hK.out _ _ (.inr ⟨y0, y1⟩) ?_
    clear hK K
    simp only [Act.put, List.setIfInBounds_toArray, List.set_cons_zero, List.set_cons_succ]
    refine oneZ 11 rfl (by kernel_rfl) (fun K hK => ?_)
    go_simp
    refine hK.out _ _ (.inr ⟨y0, y1⟩) ?_
    clear hK K
    try simp only [Act.put, List.setIfInBounds_toArray, List.set_cons_zero, List.set_cons_succ]
    refine oneZ 12 rfl (by kernel_rfl) (fun K hK => ?_)
    go_simp
    refine hK.out _ _ (.inl rfl) ?_
    clear hK K
    refine doneZ (by kernel_rfl) ?_ _
    go_wp2_with (fail)
    obtain ⟨W5, hW5⟩ : ∃ X, X = (Y.setCell ⟨w.heap.size + 1, 0, none⟩ (.int .i64 N)).setCell ⟨w.heap.size + 1, 1, none⟩ (.slice A5 n5 c5) := ⟨_, rfl⟩
    have h5 : W5.heap[w.heap.size + 1]? = some (.cells #[.int .i64 N, .slice A5 n5 c5] 24 (0, 0)) := by rw [hW5]; exact row_set3 (row_set3 H1Z.out _) _
    have hB5 : Below w.heap.size w W5 := by rw [hW5]; exact ((below_join HB0.out HBY.out HB0.out.size).setCell (by show w.heap.size ≤ w.heap.size + 1; omega) _).setCell (by show w.heap.size ≤ w.heap.size + 1; omega) _
    have hpt : ∀ Y' : World, (∀ k, w.heap.size ≤ k → Y'.heap[k]? = W5.heap[k]?) → PtSl Y' (.slice A5 n5 c5) (l.take 130) := by
      intro Y' hY'
      exact own_ptSl (base := W.heap.size) (own_row_kept HO.out (fun g cur e h => by
        have hg := (ownsRow_lt HO.out e).1
        rw [hY' g (by omega), hW5, Below.heap_setCell _ ⟨w.heap.size + 1, 1, none⟩ _ g (by show g ≠ w.heap.size + 1; omega), Below.heap_setCell _ ⟨w.heap.size + 1, 0, none⟩ _ g (by show g ≠ w.heap.size + 1; omega)]; exact h))
    rw [← hW5]
    clear hW5
    have c0 : W5.cell? ⟨w.heap.size + 1, 0, none⟩ = some (.int .i64 N) := cell_of h5 rfl
    have c1 : W5.cell? ⟨w.heap.size + 1, 1, none⟩ = some (.slice A5 n5 c5) := cell_of h5 rfl
    refine bodyPost_ret (v := .agg #[.int .i64 N, .slice A5 n5 c5]) ?_ rfl ⟨_, rfl, hpt, hB5⟩
    simp [results, Try.results10, go_sem, c0, c1]
end Go.Proofs.Ythebdlmjopjdgaa
