/-
  DERIVED. A net's arcs copied; a net without an arc (stage 5).
-/
import Derived.Test.YtglpaihadongkaaBU
import Derived.Laws.AppendOwn
import Derived.Lib.SliceRun
namespace Go.Proofs.Ytglpaihadongkaa
open Go.RowKit Go.Shelf
set_option maxRecDepth 100000
set_option linter.unusedSimpArgs false
set_option linter.unusedVariables false

/-- Arcs as cells. -/
def cellsA (l : List (Int × Int × Int)) : List Value := l.flatMap fun p => [.int .i64 p.1, .int .i64 p.2.1, .int .i64 p.2.2]
theorem cellsA_len (l : List (Int × Int × Int)) : (cellsA l).length = l.length * 3 := by
  induction l with
  | nil => rfl
  | cons q l ih => show (cellsA l).length + 1 + 1 + 1 = _; rw [ih, List.length_cons]; omega
theorem cellsA_get (l : List (Int × Int × Int)) : ∀ j p, l[j]? = some p → (cellsA l)[j * 3]? = some (.int .i64 p.1) ∧ (cellsA l)[j * 3 + 1]? = some (.int .i64 p.2.1) ∧ (cellsA l)[j * 3 + 2]? = some (.int .i64 p.2.2) := by
  induction l with
  | nil => intro j p h; simp at h
  | cons q l ih =>
    intro j p h
    cases j with
    | zero => simp at h; subst h; exact ⟨rfl, rfl, rfl⟩
    | succ j =>
      have := ih j p (by simpa using h)
      rw [show (j + 1) * 3 = j * 3 + 1 + 1 + 1 by omega]
      exact this
theorem cellsA_of {l : List (Int × Int × Int)} {j : Nat} {u : Value} (h : (cellsA l)[j]? = some u) : ∃ p, l[j / 3]? = some p ∧ ((j % 3 = 0 ∧ u = .int .i64 p.1) ∨ (j % 3 = 1 ∧ u = .int .i64 p.2.1) ∨ (j % 3 = 2 ∧ u = .int .i64 p.2.2)) := by
  have hj := (List.getElem?_eq_some_iff.1 h).1
  rw [cellsA_len] at hj
  obtain ⟨p, hp⟩ : ∃ p, l[j / 3]? = some p := ⟨_, List.getElem?_eq_getElem (by omega)⟩
  obtain ⟨c0, c1, c2⟩ := cellsA_get l _ p hp
  refine ⟨p, hp, ?_⟩
  have h3 : j % 3 = 0 ∨ j % 3 = 1 ∨ j % 3 = 2 := by omega
  rcases h3 with e | e | e
  · rw [show j / 3 * 3 = j by omega, h] at c0; injection c0 with c0; exact .inl ⟨e, c0⟩
  · rw [show j / 3 * 3 + 1 = j by omega, h] at c1; injection c1 with c1; exact .inr (.inl ⟨e, c1⟩)
  · rw [show j / 3 * 3 + 2 = j by omega, h] at c2; injection c2 with c2; exact .inr (.inr ⟨e, c2⟩)
theorem cellsA_one {l : List (Int × Int × Int)} : ∀ u ∈ cellsA l, u.oneCell' = true := by
  intro u hu
  unfold cellsA at hu
  rw [List.mem_flatMap] at hu
  obtain ⟨p, -, h⟩ := hu
  simp at h
  rcases h with rfl | rfl | rfl <;> rfl
theorem own_ptSl {w : World} {base : Nat} {v : Value} {l : List (Int × Int × Int)} (h : w.ownsRow base 39 3 v l.length (cellsA l)) : PtSl w v l := by
  have hc := h
  obtain ⟨k1, ⟨e, e2⟩ | ⟨g, cap, cur, e, k3, k4, k5, k6, k7, k8⟩⟩ := h
  · subst e
    obtain rfl : l = [] := List.eq_nil_of_length_eq_zero e2
    exact ⟨none, 0, rfl, Nat.le_refl _, Nat.zero_le _, fun h => absurd h (Nat.lt_irrefl _)⟩
  · subst e
    refine ⟨some ⟨g, 0, none⟩, cap, rfl, k5, k6, fun _ => ⟨g, 0, rfl, (Array.getElem?_eq_some_iff.1 k4).1, fun j x hj => ?_⟩⟩
    have hj' := (List.getElem?_eq_some_iff.1 hj).1
    obtain ⟨c1, c2, c3⟩ := cellsA_get l j x hj
    rw [Nat.zero_add]
    exact ⟨(hc.cellAt (j * 3) (by omega)).trans c1, (hc.cellAt (j * 3 + 1) (by omega)).trans c2, (hc.cellAt (j * 3 + 2) (by omega)).trans c3⟩
theorem own_set {X : World} {base : Nat} {e : TypeId} {size n g cap i : Nat} {xs : List Value} {v : Value} (h : X.ownsRow base e size (.slice (some ⟨g, 0, none⟩) n cap) n xs) :
    (X.setCell ⟨g, i, none⟩ v).ownsRow base e size (.slice (some ⟨g, 0, none⟩) n cap) n (xs.set i v) := by
  obtain ⟨k1, ⟨e0, -⟩ | ⟨g', cap', cur, e0, k3, k4, k5, k6, k7, k8⟩⟩ := h
  · cases e0
  · injection e0 with e1 _ e2
    injection e1 with e1
    injection e1 with e1
    subst e1 e2
    refine ⟨by rw [List.length_set]; exact k1, .inr ⟨g, cap, cur.setIfInBounds i v, rfl, k3, row_set3 k4 v, k5, k6, by rw [Array.size_setIfInBounds]; exact k7, ?_⟩⟩
    rw [Array.toList_setIfInBounds, List.take_set, k8]
/-- An arc of capacity 0. -/
def zeroAt (l : List (Int × Int × Int)) (i : Nat) : List (Int × Int × Int) := l.modify i fun a => (a.1, a.2.1, 0)
theorem zeroAt_len (l : List (Int × Int × Int)) (i : Nat) : (zeroAt l i).length = l.length := by unfold zeroAt; simp
theorem cellsA_zero (l : List (Int × Int × Int)) : ∀ {i : Nat}, i < l.length → cellsA (zeroAt l i) = (cellsA l).set (i * 3 + 2) (.int .i64 0) := by
  induction l with
  | nil => intro i h; cases h
  | cons q l ih =>
    intro i h
    cases i with
    | zero => rfl
    | succ i =>
      have := ih (i := i) (by simpa using h)
      show Value.int .i64 q.1 :: Value.int .i64 q.2.1 :: Value.int .i64 q.2.2 :: cellsA (zeroAt l i) = _
      rw [this, show (i + 1) * 3 + 2 = (i * 3 + 2) + 1 + 1 + 1 by omega]
      rfl
theorem arc_info : (Try.prog.info? 39).map (fun i => (i.zero, i.size, i.bytes)) = some (some (.agg #[.int .i64 0, .int .i64 0, .int .i64 0]), 3, 24) := by kernel_rfl
set_option maxHeartbeats 2000000 in
theorem c_cloneArcs (l : List (Int × Int × Int)) (hm : l.length ≤ 100000) (v : Value) (w : World) (h : PtSl w v l) : Calls Try.prog 46 #[v] w fun e w' => ∃ v', e = .returned v' ∧ w'.ownsRow w.heap.size 39 3 v' l.length (cellsA l) ∧ Below w.heap.size w w' := by
  have HP := Lib.hid h
  obtain ⟨A, c, rfl, h2, h3, h4⟩ := h
  have H3 := Lib.hid h3
  have H4 := Lib.hid h4
  clear h3
  obtain ⟨i0, hi0, hz0, hz1, hz2⟩ := info_parts arc_info
  have q22 : ∀ (w : World) (a : Option Addr) (n c n' c' : Nat), (binOp .eql 22 (.slice a n c) (.slice none n' c')).run Try.prog w = .ok (.bool a.isNone) w := fun w a n c n' c' => Lib.run_eql_slice_nil w _ _ a n c n' c' Try.underlying22
  cases A with
  | none =>
    have hl : l = [] := by
      by_cases h0 : 0 < l.length
      · obtain ⟨b, o, e, -⟩ := h4 h0; cases e
      · exact List.eq_nil_of_length_eq_zero (by omega)
    clear h4
    subst hl
    go_enter Try.func46, Try.ntmps46
    go_wp2
    go_ret
    exact ⟨_, rfl, World.ownsRow_nil _ _ _ _, Below.refl _ _⟩
  | some ad =>
    clear h4
    go_enter Try.func46, Try.ntmps46
    go_wp2_with (at_builtin; refine wpList_append_own _ rfl _ _ 22 rfl w.heap.size 39 i0 (.agg #[.int .i64 0, .int .i64 0, .int .i64 0]) 3 24 Try.underlying22 hi0 hz0 hz1 hz2 rfl (by omega) _ _ _ rfl (World.ownsRow_made w #[] 0 (Nat.le_refl _) (Nat.zero_le _) (by simp)) ad l.length c (cellsA l) rfl ?qc1 ?qc2 ?qc3 ?qc4 ?qc5 ?qc6 ?_)
    case qc1 => exact cellsA_len l
    case qc2 =>
      intro j u hj
      obtain ⟨p, hp, hu⟩ := cellsA_of hj
      obtain ⟨b, o, c', e, hlt, -, -, y0, y1, y2⟩ := HP.out.at_ hp
      injection e with e _ _
      injection e with e
      subst e
      have e : (⟨b, o, none⟩ : Addr).add j = ⟨b, o + j, none⟩ := by unfold Addr.add; split <;> simp_all
      rw [e]
      refine (World.cell?_alloc_lt w _ ⟨b, o + j, none⟩ hlt).trans ?_
      rcases hu with ⟨e3, rfl⟩ | ⟨e3, rfl⟩ | ⟨e3, rfl⟩
      · rw [show o + j = o + j / 3 * 3 by omega]; exact y0
      · rw [show o + j = o + j / 3 * 3 + 1 by omega]; exact y1
      · rw [show o + j = o + j / 3 * 3 + 2 by omega]; exact y2
    case qc3 => exact cellsA_one
    case qc4 => unfold maxLen; omega
    case qc5 => omega
    case qc6 => simp
    intro v' w1 hown hgrow hnil
    have HO := Lib.hid (show w1.ownsRow w.heap.size 39 3 v' l.length (cellsA l) by simpa using hown)
    have HB := Lib.hid (((Below.refl w.heap.size w).alloc (Nat.le_refl _) _).grown hgrow (by simp) (by intro k hk; simp [Value.ownBlock] at hk; omega))
    clear hown hgrow hnil
    go_wp2
    go_ret
    exact ⟨_, rfl, HO.out, HB.out⟩
set_option maxHeartbeats 4000000 in
theorem c_without (N : Int) (L : Value) (l : List (Int × Int × Int)) (i : Nat) (hi : i < l.length) (hm : l.length ≤ 128) (w : World) (hL : PtSl w L l) :
    Calls Try.prog 40 #[ntV N L, .int .i64 (i : Int)] w fun e w' => ∃ L', e = .returned (ntV N L') ∧ PtSl w' L' (zeroAt l i) ∧ Below w.heap.size w w' := by
  obtain ⟨A, c, rfl, hc1, hc2⟩ := hL.shape
  obtain ⟨W, hW⟩ : ∃ W, W = (w.alloc (.cells #[.int .i64 N, .slice A l.length c] 24)).alloc (.cells #[.int .i64 0, .slice none 0 0] 24) := ⟨_, rfl⟩
  have B0 : Below w.heap.size w W := by subst hW; exact ((Below.refl _ _).alloc (Nat.le_refl _) _).alloc (by simp) _
  have hzw : W.heap.size = w.heap.size + 2 := by subst hW; simp
  have HB0 := Lib.hid B0
  have HX := Lib.hid (show W.heap[w.heap.size]? = some (.cells #[.int .i64 N, .slice A l.length c] 24 (0, 0)) by subst hW; exact old_heap _ (heap_alloc_new _ _))
  have HZ := Lib.hid (show W.heap[w.heap.size + 1]? = some (.cells #[.int .i64 0, .slice none 0 0] 24 (0, 0)) by subst hW; exact row_new _ _ _ (by simp))
  have x0 : W.cell? ⟨w.heap.size, 0, none⟩ = some (.int .i64 N) := cell_of HX.out rfl
  have x1 : W.cell? ⟨w.heap.size, 1, none⟩ = some (.slice A l.length c) := cell_of HX.out rfl
  have HCL := Lib.hid (c_cloneArcs l (by omega) (.slice A l.length c) W (hL.on B0 (Nat.le_refl _)))
  unfold ntV
  clear B0 hL
  rw [hW] at x0 x1
  go_enter Try.func40, Try.ntmps40
  go_wp2_with (fail)
  rw [← hW]
  clear hW x0 x1
  go_at_call 46
  refine HCL.out.mono ?_
  rintro e w1 ⟨v', rfl, hown, hb1⟩
  obtain ⟨k1, ⟨-, k2⟩ | ⟨g, cap, cur, rfl, k3, k4, k5, k6, k7, k8⟩⟩ := id hown
  · omega
  have HOW := Lib.hid hown
  have hz1 := hb1.size
  have h1X := (hb1.block _ (by omega)).trans HX.out
  have h1Z := (hb1.block _ (by omega)).trans HZ.out
  have x0 : w1.cell? ⟨w.heap.size, 0, none⟩ = some (.int .i64 N) := cell_of h1X rfl
  have x1 : w1.cell? ⟨w.heap.size, 1, none⟩ = some (.slice A l.length c) := cell_of h1X rfl
  have q1 : w1.frozen? ⟨w.heap.size, 1, none⟩ = false := by simp [World.frozen?, h1X]
  have HB1 := Lib.hid (below_join HB0.out hb1 HB0.out.size)
  have H1X := Lib.hid h1X
  have H1Z := Lib.hid h1Z
  have hgl : g < w1.heap.size := at_lt k4
  obtain ⟨W2, hW2⟩ : ∃ X, X = w1.setCell ⟨w.heap.size, 1, none⟩ (.slice (some ⟨g, 0, none⟩) l.length cap) := ⟨_, rfl⟩
  have HX2 := Lib.hid (show W2.heap[w.heap.size]? = some (.cells #[.int .i64 N, .slice (some ⟨g, 0, none⟩) l.length cap] 24 (0, 0)) by subst hW2; exact row_set3 H1X.out _)
  have HZ2 := Lib.hid (show W2.heap[w.heap.size + 1]? = some (.cells #[.int .i64 0, .slice none 0 0] 24 (0, 0)) by subst hW2; exact (Below.heap_setCell w1 ⟨w.heap.size, 1, none⟩ _ (w.heap.size + 1) (by show w.heap.size + 1 ≠ w.heap.size; omega)).trans H1Z.out)
  have HO2 := Lib.hid (show W2.ownsRow W.heap.size 39 3 (.slice (some ⟨g, 0, none⟩) l.length cap) l.length (cellsA l) by subst hW2; exact own_row_kept HOW.out (fun g' cur' e h => by
    obtain rfl : g = g' := by simpa [Value.ownBlock] using e
    exact (Below.heap_setCell w1 ⟨w.heap.size, 1, none⟩ _ g (by show g ≠ w.heap.size; omega)).trans h))
  have HB2 := Lib.hid (show Below w.heap.size w W2 by subst hW2; exact HB1.out.setCell (by show w.heap.size ≤ w.heap.size; omega) _)
  obtain ⟨W3, hW3⟩ : ∃ X, X = W2.setCell ⟨g, i * 3 + 2, none⟩ (.int .i64 0) := ⟨_, rfl⟩
  have HX3 := Lib.hid (show W3.heap[w.heap.size]? = some (.cells #[.int .i64 N, .slice (some ⟨g, 0, none⟩) l.length cap] 24 (0, 0)) by subst hW3; exact (Below.heap_setCell W2 ⟨g, i * 3 + 2, none⟩ _ w.heap.size (by show w.heap.size ≠ g; omega)).trans HX2.out)
  have HZ3 := Lib.hid (show W3.heap[w.heap.size + 1]? = some (.cells #[.int .i64 0, .slice none 0 0] 24 (0, 0)) by subst hW3; exact (Below.heap_setCell W2 ⟨g, i * 3 + 2, none⟩ _ (w.heap.size + 1) (by show w.heap.size + 1 ≠ g; omega)).trans HZ2.out)
  have HO3 := Lib.hid (show W3.ownsRow W.heap.size 39 3 (.slice (some ⟨g, 0, none⟩) l.length cap) l.length (cellsA (zeroAt l i)) by rw [cellsA_zero l hi]; subst hW3; exact own_set HO2.out)
  have HB3 := Lib.hid (show Below w.heap.size w W3 by subst hW3; exact HB2.out.setCell (by show w.heap.size ≤ g; omega) _)
  obtain ⟨x, hx⟩ : ∃ x, (cellsA l)[i * 3 + 2]? = some x := ⟨_, List.getElem?_eq_getElem (by rw [cellsA_len]; omega)⟩
  have z2 : w1.cell? ⟨g, i * 3 + 2, none⟩ = some x := (HOW.out.cellAt (i * 3 + 2) (by omega)).trans hx
  have z3 : w1.frozen? ⟨g, i * 3 + 2, none⟩ = false := HOW.out.frozenAt _
  have z4 := (cell_of H1Z.out rfl : w1.cell? ⟨w.heap.size + 1, 0, none⟩ = some (.int .i64 0))
  have z5 := (cell_of H1Z.out rfl : w1.cell? ⟨w.heap.size + 1, 1, none⟩ = some (.slice none 0 0))
  have z6 : w1.frozen? ⟨w.heap.size + 1, 0, none⟩ = false := by simp [World.frozen?, H1Z.out]
  have z7 : w1.frozen? ⟨w.heap.size + 1, 1, none⟩ = false := by simp [World.frozen?, H1Z.out]
  have hn1 : g ≠ w.heap.size := by omega
  have hn2 : g ≠ w.heap.size + 1 := by omega
  have hil : (i : Int) < (l.length : Int) := by omega
  have hwo : w1.cell? ⟨w.heap.size, 1, none⟩ = some (.slice A l.length c) := x1
  clear hown hb1 k1 k3 k4 k5 k6 k7 k8 h1X h1Z hx hwo
  go_wp2_with (fail)
  rw [← hW2, ← hW3]
  clear hW2 hW3 z2 z3 z4 z5 z6 z7 x0 x1 q1 hil
  obtain ⟨W5, hW5⟩ : ∃ X, X = (W3.setCell ⟨w.heap.size + 1, 0, none⟩ (.int .i64 N)).setCell ⟨w.heap.size + 1, 1, none⟩ (.slice (some ⟨g, 0, none⟩) l.length cap) := ⟨_, rfl⟩
  have h5 : W5.heap[w.heap.size + 1]? = some (.cells #[.int .i64 N, .slice (some ⟨g, 0, none⟩) l.length cap] 24 (0, 0)) := by rw [hW5]; exact row_set3 (row_set3 HZ3.out _) _
  have hO5 : W5.ownsRow W.heap.size 39 3 (.slice (some ⟨g, 0, none⟩) l.length cap) l.length (cellsA (zeroAt l i)) := by
    rw [hW5]
    exact own_row_kept HO3.out (fun g' cur' e h => by
      obtain rfl : g = g' := by simpa [Value.ownBlock] using e
      rw [Below.heap_setCell _ ⟨w.heap.size + 1, 1, none⟩ _ g hn2, Below.heap_setCell _ ⟨w.heap.size + 1, 0, none⟩ _ g hn2]; exact h)
  have hB5 : Below w.heap.size w W5 := by rw [hW5]; exact (HB3.out.setCell (by show w.heap.size ≤ w.heap.size + 1; omega) _).setCell (by show w.heap.size ≤ w.heap.size + 1; omega) _
  rw [← hW5]
  clear hW5
  have c0 : W5.cell? ⟨w.heap.size + 1, 0, none⟩ = some (.int .i64 N) := cell_of h5 rfl
  have c1 : W5.cell? ⟨w.heap.size + 1, 1, none⟩ = some (.slice (some ⟨g, 0, none⟩) l.length cap) := cell_of h5 rfl
  have hpt : PtSl W5 (.slice (some ⟨g, 0, none⟩) l.length cap) (zeroAt l i) := own_ptSl (base := W.heap.size) (by rw [zeroAt_len]; exact hO5)
  refine bodyPost_ret (v := .agg #[.int .i64 N, .slice (some ⟨g, 0, none⟩) l.length cap]) ?_ rfl ⟨_, rfl, hpt, hB5⟩
  simp [results, Try.results40, go_sem, c0, c1]
end Go.Proofs.Ytglpaihadongkaa
