/-
  DERIVED. Several texts in one.
-/
import Derived.Test.YtidpiokkfnhobaaGreatPV53
import Derived.Deep.QuietTactic
import Derived.Laws.AppendOwn
import Derived.Lib.SliceRun
import Derived.Deep.Onto
import Derived.Test.YtidpiokkfnhobaaGreatPV51
import Derived.Deep.LoopGhost
set_option linter.unusedVariables false
set_option linter.unusedSimpArgs false

namespace Go.Proofs.YtidpiokkfnhobaaGreat.v5
open Go.RowKit Go.Shelf
set_option maxRecDepth 100000
set_option linter.unusedSimpArgs false
set_option linter.unusedVariables false

theorem range_all {f : Nat → Bool} (k : Nat) (h : (List.range k).all f = true) (h2 : f k = true) : (List.range (k + 1)).all f = true := by
  rw [List.range_succ, List.all_append, h]; simp [h2]
theorem range_not {f : Nat → Bool} {k n : Nat} (hk : k < n) (h2 : f k = false) : (List.range n).all f = false := by
  rw [List.all_eq_false]; exact ⟨k, List.mem_range.2 hk, by rw [h2]; simp⟩
/-- Bools in cells that may be written. -/
def BRow (X : World) (b N : Nat) (f : Nat → Bool) : Prop := ∀ n, n < N → X.cell? ⟨b, n, none⟩ = some (.bool (f n)) ∧ X.frozen? ⟨b, n, none⟩ = false
theorem BRow.kept {X Y : World} {b N : Nat} {f : Nat → Bool} (h : BRow X b N f) (hk : ∀ cs t fr, X.heap[b]? = some (.cells cs t fr) → Y.heap[b]? = some (.cells cs t fr)) : BRow Y b N f := fun n hn => by
  obtain ⟨h1, h2⟩ := h n hn
  obtain ⟨cs, t, fr, hb⟩ := cell_block h1
  have e : Y.heap[b]? = X.heap[b]? := (hk _ _ _ hb).trans hb.symm
  exact ⟨(World.cell?_of_block (a := ⟨b, n, none⟩) e).trans h1, (frozen_of_block e).trans h2⟩
theorem BRow.set {X : World} {b N j : Nat} {f g : Nat → Bool} (h : BRow X b N f) (hj : j < N) (hg : ∀ n, n < N → g n = if n = j then true else f n) : BRow (X.setCell ⟨b, j, none⟩ (.bool true)) b N g := fun n hn => by
  obtain ⟨h3, h4⟩ := h j hj
  rw [World.frozen?_setCell, hg n hn]
  by_cases e : n = j
  · subst e
    rw [if_pos rfl]
    exact ⟨World.cell?_setCell_same _ _ _ h3, h4⟩
  · rw [if_neg e, World.cell?_setCell_other _ _ _ _ (fun e' => e (congrArg (fun a : Addr => a.off) e').symm)]
    · exact h n hn
end Go.Proofs.YtidpiokkfnhobaaGreat.v5

namespace Go.Proofs.YtidpiokkfnhobaaGreat.v5
open Go.RowKit Go.Shelf
set_option maxRecDepth 100000
set_option linter.unusedSimpArgs false
set_option linter.unusedVariables false

def chkV (N : Int) (l : List (Int × Int × Int)) (s t : Int) (xs : List Int) : Int × Int :=
  if nfault N l s t = 0 then (if fitB l xs = true then (if (List.range N.toNat).all (evenAt (zipX l xs) s t) = true then (gain (zipX l xs) s.toNat, 0) else (0, 13)) else (0, 13)) else (0, nfault N l s t)
theorem below_drewN {B n : Nat} {a w : World} (h : Below B a w) : Below B a (w.drewN n) := ⟨h.os, h.tape, h.output, h.size, h.block⟩
end Go.Proofs.YtidpiokkfnhobaaGreat.v5

namespace Go.Proofs.YtidpiokkfnhobaaGreat.v5
open Go.RowKit Go.Shelf
set_option maxRecDepth 100000
set_option linter.unusedSimpArgs false
set_option linter.unusedVariables false

theorem nfault_zero {N : Int} {l : List (Int × Int × Int)} {s t : Int} (h : nfault N l s t = 0) : ntOk N l = true ∧ ndOk N s = true ∧ ndOk N t = true ∧ s ≠ t := by
  unfold nfault at h
  split at h
  · rename_i h0
    split at h
    · rename_i h1
      simp only [Bool.and_eq_true, Bool.not_eq_true', beq_eq_false_iff_ne] at h1
      exact ⟨h0, h1.1, h1.2.1, h1.2.2⟩
    · cases h
  · cases h
theorem zip_len {l : List (Int × Int × Int)} {xs : List Int} {k : Nat} (h1 : k ≤ l.length) (h2 : xs.length = l.length) : (zipX (l.take k) (xs.take k)).length = k := by
  simp [zipX]; omega
end Go.Proofs.YtidpiokkfnhobaaGreat.v5

namespace Go.Proofs.YtidpiokkfnhobaaGreat.v5
open Go.RowKit Go.Shelf
set_option maxRecDepth 100000
set_option linter.unusedSimpArgs false
set_option linter.unusedVariables false

/-- Arcs as cells. -/
def cellsA (l : List (Int × Int × Int)) : List Value := l.flatMap fun p => [.int .i64 p.1, .int .i64 p.2.1, .int .i64 p.2.2]
theorem cellsA_len (l : List (Int × Int × Int)) : (cellsA l).length = l.length * 3 := by
  induction l with
  | nil => rfl
  | cons q l ih => show (cellsA l).length + 1 + 1 + 1 = _; rw [ih, List.length_cons]; omega
theorem cellsA_get (l : List (Int × Int × Int)) : ∀ j p, l[j]? = some p → (cellsA l)[j * 3]? = some (.int .i64 p.1) ∧ (cellsA l)[j * 3 + 1]? = some (.int .i64 p.2.1) ∧ (cellsA l)[j * 3 + 2]? = some (.int .i64 p.2.2) := by
  induction l with
  | nil => intro j p h; simp at h
  | cons q l ih =>
    intro j p h
    cases j with
    | zero => simp at h; subst h; exact ⟨rfl, rfl, rfl⟩
    | succ j =>
      have := ih j p (by simpa using h)
      rw [show (j + 1) * 3 = j * 3 + 1 + 1 + 1 by omega]
      exact this
theorem cellsA_of {l : List (Int × Int × Int)} {j : Nat} {u : Value} (h : (cellsA l)[j]? = some u) : ∃ p, l[j / 3]? = some p ∧ ((j % 3 = 0 ∧ u = .int .i64 p.1) ∨ (j % 3 = 1 ∧ u = .int .i64 p.2.1) ∨ (j % 3 = 2 ∧ u = .int .i64 p.2.2)) := by
  have hj := (List.getElem?_eq_some_iff.1 h).1
  rw [cellsA_len] at hj
  obtain ⟨p, hp⟩ : ∃ p, l[j / 3]? = some p := ⟨_, List.getElem?_eq_getElem (by omega)⟩
  obtain ⟨c0, c1, c2⟩ := cellsA_get l _ p hp
  refine ⟨p, hp, ?_⟩
  have h3 : j % 3 = 0 ∨ j % 3 = 1 ∨ j % 3 = 2 := by omega
  rcases h3 with e | e | e
  · rw [show j / 3 * 3 = j by omega, h] at c0; injection c0 with c0; exact .inl ⟨e, c0⟩
  · rw [show j / 3 * 3 + 1 = j by omega, h] at c1; injection c1 with c1; exact .inr (.inl ⟨e, c1⟩)
  · rw [show j / 3 * 3 + 2 = j by omega, h] at c2; injection c2 with c2; exact .inr (.inr ⟨e, c2⟩)
theorem cellsA_one {l : List (Int × Int × Int)} : ∀ u ∈ cellsA l, u.oneCell' = true := by
  intro u hu
  unfold cellsA at hu
  rw [List.mem_flatMap] at hu
  obtain ⟨p, -, h⟩ := hu
  simp at h
  rcases h with rfl | rfl | rfl <;> rfl
theorem own_ptSl {w : World} {base : Nat} {v : Value} {l : List (Int × Int × Int)} (h : w.ownsRow base 67 3 v l.length (cellsA l)) : PtSl w v l := by
  have hc := h
  obtain ⟨k1, ⟨e, e2⟩ | ⟨g, cap, cur, e, k3, k4, k5, k6, k7, k8⟩⟩ := h
  · subst e
    obtain rfl : l = [] := List.eq_nil_of_length_eq_zero e2
    exact ⟨none, 0, rfl, Nat.le_refl _, Nat.zero_le _, fun h => absurd h (Nat.lt_irrefl _)⟩
  · subst e
    refine ⟨some ⟨g, 0, none⟩, cap, rfl, k5, k6, fun _ => ⟨g, 0, rfl, (Array.getElem?_eq_some_iff.1 k4).1, fun j x hj => ?_⟩⟩
    have hj' := (List.getElem?_eq_some_iff.1 hj).1
    obtain ⟨c1, c2, c3⟩ := cellsA_get l j x hj
    rw [Nat.zero_add]
    exact ⟨(hc.cellAt (j * 3) (by omega)).trans c1, (hc.cellAt (j * 3 + 1) (by omega)).trans c2, (hc.cellAt (j * 3 + 2) (by omega)).trans c3⟩
theorem arc_info : (Tryz.prog.info? 67).map (fun i => (i.zero, i.size, i.bytes)) = some (some (.agg #[.int .i64 0, .int .i64 0, .int .i64 0]), 3, 24) := by kernel_rfl
end Go.Proofs.YtidpiokkfnhobaaGreat.v5

namespace Go.Proofs.YtidpiokkfnhobaaGreat.v5
open Go.RowKit Go.Shelf
set_option maxRecDepth 100000
set_option linter.unusedSimpArgs false
set_option linter.unusedVariables false

theorem Best.gr {N s t : Nat} {L : List (Int × Int × Int)} {lf : List Ar} {v : Int} (h : Best N s t L lf v) : Gr N (ends (arsOf L)) s t lf v := ⟨h.ends_, h.flow, h.value, h.no⟩
end Go.Proofs.YtidpiokkfnhobaaGreat.v5

namespace Go.Proofs.YtidpiokkfnhobaaGreat.v5
open Go.RowKit Go.Shelf
set_option maxRecDepth 100000
set_option linter.unusedSimpArgs false
set_option linter.unusedVariables false

/-- Edges by small numbers, as a slice. -/
def EdSl (w : World) (v : Value) (l : List (Nat × Nat × Nat)) : Prop :=
  ∃ A c, v = .slice A l.length c ∧ l.length ≤ c ∧ c ≤ maxLen ∧ (∀ p ∈ l, p.1 ≤ 255 ∧ p.2.1 ≤ 255 ∧ p.2.2 ≤ 255) ∧ (0 < l.length → ∃ b o, A = some ⟨b, o, none⟩ ∧ b < w.heap.size ∧ ∀ j p, l[j]? = some p → w.cell? ⟨b, o + j * 3, none⟩ = some (.int .u8 (p.1 : Int)) ∧ w.cell? ⟨b, o + j * 3 + 1, none⟩ = some (.int .u8 (p.2.1 : Int)) ∧ w.cell? ⟨b, o + j * 3 + 2, none⟩ = some (.int .u8 (p.2.2 : Int)))
theorem EdSl.shape {w : World} {v : Value} {l : List (Nat × Nat × Nat)} (h : EdSl w v l) : ∃ A c, v = .slice A l.length c ∧ l.length ≤ c ∧ c ≤ maxLen := by
  obtain ⟨A, c, h1, h2, h3, -⟩ := h
  exact ⟨A, c, h1, h2, h3⟩
theorem EdSl.at_ {w : World} {v : Value} {l : List (Nat × Nat × Nat)} (h : EdSl w v l) {k : Nat} {p : Nat × Nat × Nat} (hk : l[k]? = some p) : ∃ b o c, v = .slice (some ⟨b, o, none⟩) l.length c ∧ b < w.heap.size ∧ w.cell? ⟨b, o + k * 3, none⟩ = some (.int .u8 (p.1 : Int)) ∧ w.cell? ⟨b, o + k * 3 + 1, none⟩ = some (.int .u8 (p.2.1 : Int)) ∧ w.cell? ⟨b, o + k * 3 + 2, none⟩ = some (.int .u8 (p.2.2 : Int)) := by
  obtain ⟨A, c, h1, h2, h3, -, h4⟩ := h
  obtain ⟨b, o, e, hlt, hc⟩ := h4 (by have := (List.getElem?_eq_some_iff.1 hk).1; omega)
  subst e
  exact ⟨b, o, c, h1, hlt, hc k p hk⟩
theorem EdSl.on {w w' : World} {v : Value} {l : List (Nat × Nat × Nat)} {B : Nat} (h : EdSl w v l) (hb : Below B w w') (hB : w.heap.size ≤ B) : EdSl w' v l := by
  obtain ⟨A, c, h1, h2, h3, h5, h4⟩ := h
  refine ⟨A, c, h1, h2, h3, h5, fun h0 => ?_⟩
  obtain ⟨b, o, e, hlt, hc⟩ := h4 h0
  refine ⟨b, o, e, Nat.lt_of_lt_of_le hlt hb.size, fun j p hj => ?_⟩
  obtain ⟨c1, c2, c3⟩ := hc j p hj
  exact ⟨(hb.cell (p := ⟨b, o + j * 3, none⟩) (by show b < B; omega)).trans c1, (hb.cell (p := ⟨b, o + j * 3 + 1, none⟩) (by show b < B; omega)).trans c2, (hb.cell (p := ⟨b, o + j * 3 + 2, none⟩) (by show b < B; omega)).trans c3⟩
end Go.Proofs.YtidpiokkfnhobaaGreat.v5

namespace Go.Proofs.YtidpiokkfnhobaaGreat.v5
open Go.RowKit Go.Shelf
set_option maxRecDepth 100000
set_option linter.unusedSimpArgs false
set_option linter.unusedVariables false

set_option maxHeartbeats 16000000 in
theorem d_Valid (N : Int) (L : Value) (l : List (Int × Int × Int)) (w : World) (hL : PtSl w L l) (r : Bool) (hr : ntOk N l = r) :
    Calls Tryz.prog 93 #[ntV N L] w fun e w' => e = .returned (.bool r) ∧ Below w.heap.size w w' := by
  obtain ⟨A, c, rfl, hc1, hc2⟩ := hL.shape
  unfold maxLen at hc2
  unfold ntV
  obtain ⟨W, hW⟩ : ∃ W, W = w.alloc (.cells #[.int .i64 N, .slice A l.length c] 44) := ⟨_, rfl⟩
  have B0 : Below w.heap.size w W := by subst hW; exact (Below.refl _ _).alloc (Nat.le_refl _) _
  have HB0 := Lib.hid B0
  have HL := Lib.hid (hL.on B0 (Nat.le_refl _))
  have HX := Lib.hid (show W.heap[w.heap.size]? = some (.cells #[.int .i64 N, .slice A l.length c] 44 (0, 0)) by subst hW; exact heap_alloc_new _ _)
  have x0 : W.cell? ⟨w.heap.size, 0, none⟩ = some (.int .i64 N) := cell_of HX.out rfl
  have x1 : W.cell? ⟨w.heap.size, 1, none⟩ = some (.slice A l.length c) := cell_of HX.out rfl
  unfold ntOk at hr
  have HR := Lib.hid hr
  clear B0 hL hr
  rw [hW] at x0 x1
  rcases h1 : decide (N < 2) with _ | _
  rotate_left
  · obtain rfl : false = r := by have := HR.out; rw [h1] at this; exact this
    go_enter Tryz.func93, Tryz.ntmps93
    go_wp2_with (fail)
    go_ret
    rw [← hW]
    exact ⟨rfl, HB0.out⟩
  rcases h2 : decide (64 < N) with _ | _
  rotate_left
  · obtain rfl : false = r := by have := HR.out; rw [h1, h2] at this; exact this
    go_enter Tryz.func93, Tryz.ntmps93
    go_wp2_with (fail)
    go_ret
    rw [← hW]
    exact ⟨rfl, HB0.out⟩
  rcases h3 : decide (128 < (l.length : Int)) with _ | _
  rotate_left
  · obtain rfl : false = r := by have := HR.out; rw [h1, h2, h3] at this; exact this
    go_enter Tryz.func93, Tryz.ntmps93
    go_wp2_with (fail)
    go_ret
    rw [← hW]
    exact ⟨rfl, HB0.out⟩
  have HA := Lib.hid (show l.all (arOk N) = r by have := HR.out; rw [h1, h2, h3] at this; exact this)
  have hl128 : l.length ≤ 128 := by have := of_decide_eq_false h3; omega
  go_enter Tryz.func93, Tryz.ntmps93
  go_wp2_with (fail)
  rw [← hW]
  clear hW x0 x1
  go_loopw [22] (fun i wr => ∃ k : Nat, k ≤ l.length ∧ i = .int .i64 (k : Int) ∧ Hid (Below W.heap.size W wr) ∧ Hid ((l.take k).all (arOk N) = true)) (fun i _ => l.length - (intOf i).toNat)
  case atStart => exact ⟨0, Nat.zero_le _, rfl, Lib.hid (Below.refl _ _), Lib.hid rfl⟩
  case round =>
    obtain ⟨k, hk, rfl, hB, hall⟩ := hrel
    have hki : ((k : Nat) : Int).toNat = k := by omega
    by_cases hlt : k < l.length
    · obtain ⟨⟨u, v, cp⟩, hx⟩ : ∃ p, l[k]? = some p := ⟨_, List.getElem?_eq_getElem hlt⟩
      obtain ⟨b, o, c', e, hb, -, -, y0, y1, y2⟩ := (HL.out.on hB.out (Nat.le_refl _)).at_ hx
      injection e with e1 hle e2
      clear hle
      subst e1 e2
      obtain ⟨V, hV⟩ : ∃ V, V = wr.alloc (.cells #[.int .i64 u, .int .i64 v, .int .i64 cp] 67) := ⟨_, rfl⟩
      have hBV : Below W.heap.size W V := by subst hV; exact hB.out.alloc hB.out.size _
      have HBV := Lib.hid hBV
      have HVA := Lib.hid (show V.heap[wr.heap.size]? = some (.cells #[.int .i64 u, .int .i64 v, .int .i64 cp] 67 (0, 0)) by subst hV; exact heap_alloc_new _ _)
      have HVN := Lib.hid ((hBV.block _ (at_lt HX.out)).trans HX.out)
      have v0 : V.cell? ⟨w.heap.size, 0, none⟩ = some (.int .i64 N) := cell_of HVN.out rfl
      have v1 : V.cell? ⟨w.heap.size, 1, none⟩ = some (.slice (some ⟨b, o, none⟩) l.length c) := cell_of HVN.out rfl
      have a0 : V.cell? ⟨wr.heap.size, 0, none⟩ = some (.int .i64 u) := cell_of HVA.out rfl
      have a1 : V.cell? ⟨wr.heap.size, 1, none⟩ = some (.int .i64 v) := cell_of HVA.out rfl
      have a2 : V.cell? ⟨wr.heap.size, 2, none⟩ = some (.int .i64 cp) := cell_of HVA.out rfl
      have HXK := Lib.hid hx
      have hzw : W.heap.size ≤ wr.heap.size := hB.out.size
      have hxw := at_lt HX.out
      clear hx hb hBV
      rw [hV] at v0 v1 a0 a1 a2
      rcases q0 : decide (u < 0) with _ | _
      rotate_left
      · have hno : arOk N (u, v, cp) = false := by
          rw [Bool.eq_false_iff]; intro h
          obtain ⟨g1, g2, g3, g4, g5⟩ := arOk_iff.1 h
          simp only at g1 g2 g3 g4 g5
          have := of_decide_eq_true q0; omega
        obtain rfl : false = r := by rw [← HA.out, all_false HXK.out hno]
        clear hno
        go_wp2_with (fail)
        rw [← hV]
        clear hV
        go_ret
        exact ⟨rfl, below_join HB0.out HBV.out HB0.out.size⟩
      rcases q1 : decide (N ≤ u) with _ | _
      rotate_left
      · have hno : arOk N (u, v, cp) = false := by
          rw [Bool.eq_false_iff]; intro h
          obtain ⟨g1, g2, g3, g4, g5⟩ := arOk_iff.1 h
          simp only at g1 g2 g3 g4 g5
          have := of_decide_eq_true q1; omega
        obtain rfl : false = r := by rw [← HA.out, all_false HXK.out hno]
        clear hno
        go_wp2_with (fail)
        rw [← hV]
        clear hV
        go_ret
        exact ⟨rfl, below_join HB0.out HBV.out HB0.out.size⟩
      rcases q2 : decide (v < 0) with _ | _
      rotate_left
      · have hno : arOk N (u, v, cp) = false := by
          rw [Bool.eq_false_iff]; intro h
          obtain ⟨g1, g2, g3, g4, g5⟩ := arOk_iff.1 h
          simp only at g1 g2 g3 g4 g5
          have := of_decide_eq_true q2; omega
        obtain rfl : false = r := by rw [← HA.out, all_false HXK.out hno]
        clear hno
        go_wp2_with (fail)
        rw [← hV]
        clear hV
        go_ret
        exact ⟨rfl, below_join HB0.out HBV.out HB0.out.size⟩
      rcases q3 : decide (N ≤ v) with _ | _
      rotate_left
      · have hno : arOk N (u, v, cp) = false := by
          rw [Bool.eq_false_iff]; intro h
          obtain ⟨g1, g2, g3, g4, g5⟩ := arOk_iff.1 h
          simp only at g1 g2 g3 g4 g5
          have := of_decide_eq_true q3; omega
        obtain rfl : false = r := by rw [← HA.out, all_false HXK.out hno]
        clear hno
        go_wp2_with (fail)
        rw [← hV]
        clear hV
        go_ret
        exact ⟨rfl, below_join HB0.out HBV.out HB0.out.size⟩
      rcases q4 : (u == v) with _ | _
      rotate_left
      · have hno : arOk N (u, v, cp) = false := by
          rw [Bool.eq_false_iff]; intro h
          obtain ⟨g1, g2, g3, g4, g5⟩ := arOk_iff.1 h
          simp only at g1 g2 g3 g4 g5
          exact g3 (by simpa using q4)
        obtain rfl : false = r := by rw [← HA.out, all_false HXK.out hno]
        clear hno
        go_wp2_with (fail)
        rw [← hV]
        clear hV
        go_ret
        exact ⟨rfl, below_join HB0.out HBV.out HB0.out.size⟩
      rcases q5 : decide (cp < 0) with _ | _
      rotate_left
      · have hno : arOk N (u, v, cp) = false := by
          rw [Bool.eq_false_iff]; intro h
          obtain ⟨g1, g2, g3, g4, g5⟩ := arOk_iff.1 h
          simp only at g1 g2 g3 g4 g5
          have := of_decide_eq_true q5; omega
        obtain rfl : false = r := by rw [← HA.out, all_false HXK.out hno]
        clear hno
        go_wp2_with (fail)
        rw [← hV]
        clear hV
        go_ret
        exact ⟨rfl, below_join HB0.out HBV.out HB0.out.size⟩
      rcases q6 : decide (100000000 < cp) with _ | _
      rotate_left
      · have hno : arOk N (u, v, cp) = false := by
          rw [Bool.eq_false_iff]; intro h
          obtain ⟨g1, g2, g3, g4, g5⟩ := arOk_iff.1 h
          simp only at g1 g2 g3 g4 g5
          have := of_decide_eq_true q6; omega
        obtain rfl : false = r := by rw [← HA.out, all_false HXK.out hno]
        clear hno
        go_wp2_with (fail)
        rw [← hV]
        clear hV
        go_ret
        exact ⟨rfl, below_join HB0.out HBV.out HB0.out.size⟩
      have hall2 := Lib.hid (all_take_succ HXK.out hall.out (show arOk N (u, v, cp) = true by
        refine arOk_iff.2 ⟨⟨?_, ?_⟩, ⟨?_, ?_⟩, ?_, ?_, ?_⟩
        · have := of_decide_eq_false q0; show 0 ≤ u; omega
        · have := of_decide_eq_false q1; show u < N; omega
        · have := of_decide_eq_false q2; show 0 ≤ v; omega
        · have := of_decide_eq_false q3; show v < N; omega
        · show u ≠ v; simpa using q4
        · have := of_decide_eq_false q5; show 0 ≤ cp; omega
        · have := of_decide_eq_false q6; show cp ≤ 100000000; omega))
      go_wp2_with (fail)
      rw [← hV]
      clear hV
      go_roundw
      case rel => exact ⟨k + 1, by omega, by go_num, HBV, hall2⟩
      case measure => simp only [intOf]; omega
    · obtain rfl : k = l.length := by omega
      have hal := hall.out
      rw [List.take_length, HA.out] at hal
      subst hal
      go_wp2_with (fail)
      go_ret
      exact ⟨rfl, below_join HB0.out hB.out HB0.out.size⟩
end Go.Proofs.YtidpiokkfnhobaaGreat.v5

namespace Go.Proofs.YtidpiokkfnhobaaGreat.v5
open Go.RowKit Go.Shelf
set_option maxRecDepth 100000
set_option linter.unusedSimpArgs false
set_option linter.unusedVariables false

set_option maxHeartbeats 8000000 in
theorem d_asked (N : Int) (L : Value) (l : List (Int × Int × Int)) (s t : Int) (w : World) (hL : PtSl w L l) (r : Int) (hr : nfault N l s t = r) :
    Calls Tryz.prog 58 #[ntV N L, .int .i64 s, .int .i64 t] w fun e w' => e = .returned (.int .i64 r) ∧ Below w.heap.size w w' := by
  obtain ⟨A, c, rfl, hc1, hc2⟩ := hL.shape
  obtain ⟨W, hW⟩ : ∃ W, W = w.alloc (.cells #[.int .i64 N, .slice A l.length c] 44) := ⟨_, rfl⟩
  have B0 : Below w.heap.size w W := by subst hW; exact (Below.refl _ _).alloc (Nat.le_refl _) _
  have HB0 := Lib.hid B0
  have HX := Lib.hid (show W.heap[w.heap.size]? = some (.cells #[.int .i64 N, .slice A l.length c] 44 (0, 0)) by subst hW; exact heap_alloc_new _ _)
  have x0 : W.cell? ⟨w.heap.size, 0, none⟩ = some (.int .i64 N) := cell_of HX.out rfl
  have x1 : W.cell? ⟨w.heap.size, 1, none⟩ = some (.slice A l.length c) := cell_of HX.out rfl
  obtain ⟨r0, h0⟩ : ∃ b, ntOk N l = b := ⟨_, rfl⟩
  have HF := Lib.hid (d_Valid N (.slice A l.length c) l W (hL.on B0 (Nat.le_refl _)) r0 h0)
  unfold nfault at hr
  rw [h0] at hr
  unfold ntV at HF ⊢
  clear B0 hL h0
  rw [hW] at x0 x1
  go_enter Tryz.func58, Tryz.ntmps58
  go_wp2_with (fail)
  rw [← hW]
  clear hW x0 x1
  go_at_call 93
  refine HF.out.mono ?_
  rintro e w1 ⟨rfl, hb⟩
  have HX1 := Lib.hid ((hb.block _ (at_lt HX.out)).trans HX.out)
  have x0 : w1.cell? ⟨w.heap.size, 0, none⟩ = some (.int .i64 N) := cell_of HX1.out rfl
  have x1 : w1.cell? ⟨w.heap.size, 1, none⟩ = some (.slice A l.length c) := cell_of HX1.out rfl
  have HB1 := Lib.hid (below_join HB0.out hb HB0.out.size)
  clear hb
  cases r0
  · obtain rfl : (1 : Int) = r := by simpa using hr
    go_wp2_with (fail)
    go_ret
    exact ⟨rfl, HB1.out⟩
  · have HR := Lib.hid (show (if (ndOk N s && (ndOk N t && !(s == t))) = true then (0 : Int) else 2) = r from hr)
    clear hr
    rcases q0 : decide (s < 0) with _ | _
    rotate_left
    · have hno : (ndOk N s && (ndOk N t && !(s == t))) = false := by
        rw [Bool.eq_false_iff]; intro h
        simp only [Bool.and_eq_true, Bool.not_eq_true', ndOk_iff, beq_eq_false_iff_ne] at h
        have := of_decide_eq_true q0; omega
      obtain rfl : (2 : Int) = r := by have h := HR.out; rw [hno] at h; exact h
      clear hno
      go_wp2_with (fail)
      go_ret
      exact ⟨rfl, HB1.out⟩
    rcases q1 : decide (N ≤ s) with _ | _
    rotate_left
    · have hno : (ndOk N s && (ndOk N t && !(s == t))) = false := by
        rw [Bool.eq_false_iff]; intro h
        simp only [Bool.and_eq_true, Bool.not_eq_true', ndOk_iff, beq_eq_false_iff_ne] at h
        have := of_decide_eq_true q1; omega
      obtain rfl : (2 : Int) = r := by have h := HR.out; rw [hno] at h; exact h
      clear hno
      go_wp2_with (fail)
      go_ret
      exact ⟨rfl, HB1.out⟩
    rcases q2 : decide (t < 0) with _ | _
    rotate_left
    · have hno : (ndOk N s && (ndOk N t && !(s == t))) = false := by
        rw [Bool.eq_false_iff]; intro h
        simp only [Bool.and_eq_true, Bool.not_eq_true', ndOk_iff, beq_eq_false_iff_ne] at h
        have := of_decide_eq_true q2; omega
      obtain rfl : (2 : Int) = r := by have h := HR.out; rw [hno] at h; exact h
      clear hno
      go_wp2_with (fail)
      go_ret
      exact ⟨rfl, HB1.out⟩
    rcases q3 : decide (N ≤ t) with _ | _
    rotate_left
    · have hno : (ndOk N s && (ndOk N t && !(s == t))) = false := by
        rw [Bool.eq_false_iff]; intro h
        simp only [Bool.and_eq_true, Bool.not_eq_true', ndOk_iff, beq_eq_false_iff_ne] at h
        have := of_decide_eq_true q3; omega
      obtain rfl : (2 : Int) = r := by have h := HR.out; rw [hno] at h; exact h
      clear hno
      go_wp2_with (fail)
      go_ret
      exact ⟨rfl, HB1.out⟩
    rcases q4 : (s == t) with _ | _
    rotate_left
    · have hno : (ndOk N s && (ndOk N t && !(s == t))) = false := by
        rw [Bool.eq_false_iff]; intro h
        simp only [Bool.and_eq_true, Bool.not_eq_true', ndOk_iff, beq_eq_false_iff_ne] at h
        exact h.2.2 (by simpa using q4)
      obtain rfl : (2 : Int) = r := by have h := HR.out; rw [hno] at h; exact h
      clear hno
      go_wp2_with (fail)
      go_ret
      exact ⟨rfl, HB1.out⟩
    have hyes : (ndOk N s && (ndOk N t && !(s == t))) = true := by
      rw [Bool.and_eq_true, Bool.and_eq_true, ndOk_iff, ndOk_iff]
      have h0 := of_decide_eq_false q0; have h1 := of_decide_eq_false q1; have h2 := of_decide_eq_false q2; have h3 := of_decide_eq_false q3
      exact ⟨by omega, by omega, by rw [q4]; rfl⟩
    obtain rfl : (0 : Int) = r := by have h := HR.out; rw [hyes] at h; exact h
    clear hyes
    go_wp2_with (fail)
    go_ret
    exact ⟨rfl, HB1.out⟩
end Go.Proofs.YtidpiokkfnhobaaGreat.v5

namespace Go.Proofs.YtidpiokkfnhobaaGreat.v5
open Go.RowKit Go.Shelf
set_option maxRecDepth 100000
set_option linter.unusedSimpArgs false
set_option linter.unusedVariables false

theorem zip_bound2 {l : List (Int × Int × Int)} {xs : List Int} {M : Int} (k : Nat) (h : ∀ i, i < k → i < l.length → 0 ≤ xs.getD i 0 ∧ xs.getD i 0 ≤ M) : ∀ a ∈ zipX (l.take k) (xs.take k), 0 ≤ a.x ∧ a.x ≤ M := by
  intro a ha
  obtain ⟨i, hi, rfl⟩ := List.getElem_of_mem ha
  unfold zipX at hi ⊢
  rw [List.getElem_zipWith]
  simp only [List.length_zipWith, List.length_take] at hi
  have h1 := h i (by omega) (by omega)
  have e : xs.getD i 0 = (xs.take k)[i]'(by rw [List.length_take]; omega) := by rw [List.getElem_take]; simp [show i < xs.length by omega]
  rw [e] at h1
  exact h1
theorem fit_bound {l : List (Int × Int × Int)} {xs : List Int} {M : Int} {k : Nat} (h : (List.range k).all (fitAt l xs) = true) (hM : ∀ p ∈ l, p.2.2 ≤ M) : ∀ i, i < k → i < l.length → 0 ≤ xs.getD i 0 ∧ xs.getD i 0 ≤ M := by
  intro i hi hl
  have h1 := List.all_eq_true.1 h i (List.mem_range.2 hi)
  unfold fitAt at h1
  have e : l.getD i (0, 0, 0) = l[i] := by simp [hl]
  rw [e] at h1
  simp at h1
  have h2 := hM _ (List.getElem_mem hl)
  have e2 : xs.getD i 0 = xs[i]?.getD 0 := by simp
  rw [e2]
  omega
set_option maxHeartbeats 16000000 in
theorem d_Check (N : Int) (L Xv : Value) (l : List (Int × Int × Int)) (s t : Int) (xs : List Int) (w : World) (hL : PtSl w L l) (hS : IntSl w Xv xs) (y r : Int) (hr : chkV N l s t xs = (y, r)) :
    Calls Tryz.prog 60 #[ntV N L, .int .i64 s, .int .i64 t, Xv] w fun e w' => e = .returned (.tuple #[.int .i64 y, .int .i64 r]) ∧ Below w.heap.size w w' := by
  obtain ⟨A, c, rfl, hc1, hc2⟩ := hL.shape
  obtain ⟨A2, c2, rfl, hd1, hd2⟩ := hS.shape
  unfold maxLen at hc2 hd2
  obtain ⟨W, hW⟩ : ∃ W, W = w.alloc (.cells #[.int .i64 N, .slice A l.length c] 44) := ⟨_, rfl⟩
  have B0 : Below w.heap.size w W := by subst hW; exact (Below.refl _ _).alloc (Nat.le_refl _) _
  have hzw : w.heap.size < W.heap.size := by subst hW; simp
  have HB0 := Lib.hid B0
  have HX := Lib.hid (show W.heap[w.heap.size]? = some (.cells #[.int .i64 N, .slice A l.length c] 44 (0, 0)) by subst hW; exact heap_alloc_new _ _)
  have x0 : W.cell? ⟨w.heap.size, 0, none⟩ = some (.int .i64 N) := cell_of HX.out rfl
  have x1 : W.cell? ⟨w.heap.size, 1, none⟩ = some (.slice A l.length c) := cell_of HX.out rfl
  have hLW := hL.on B0 (Nat.le_refl _)
  have HSW := Lib.hid (hS.on B0 (Nat.le_refl _))
  obtain ⟨r0, h0⟩ : ∃ b, nfault N l s t = b := ⟨_, rfl⟩
  have HF := Lib.hid (d_asked N (.slice A l.length c) l s t W hLW r0 h0)
  have HLW := Lib.hid hLW
  have H0 := Lib.hid h0
  unfold chkV at hr
  rw [h0] at hr
  unfold ntV at HF ⊢
  clear B0 hL hS hLW h0
  rw [hW] at x0 x1
  go_enter Tryz.func60, Tryz.ntmps60
  go_wp2_with (fail)
  rw [← hW]
  clear hW x0 x1
  go_at_call 58
  refine HF.out.mono ?_
  rintro e w1 ⟨rfl, hb⟩
  have HX1 := Lib.hid ((hb.block _ (at_lt HX.out)).trans HX.out)
  have x0 : w1.cell? ⟨w.heap.size, 0, none⟩ = some (.int .i64 N) := cell_of HX1.out rfl
  have x1 : w1.cell? ⟨w.heap.size, 1, none⟩ = some (.slice A l.length c) := cell_of HX1.out rfl
  have HB1 := Lib.hid (below_join HB0.out hb HB0.out.size)
  have HL1 := Lib.hid (HLW.out.on hb (Nat.le_refl _))
  have HS1 := Lib.hid (HSW.out.on hb (Nat.le_refl _))
  have hz1 : W.heap.size ≤ w1.heap.size := hb.size
  clear hb
  by_cases hr0 : r0 = 0
  · subst hr0
    rw [if_pos rfl] at hr
    obtain ⟨hok, hns, hnt, hst⟩ := nfault_zero H0.out
    obtain ⟨hN2, hN64, hl128, hall⟩ := ntOk_iff.1 hok
    obtain ⟨n, rfl⟩ : ∃ n : Nat, N = (n : Int) := ⟨N.toNat, by omega⟩
    obtain ⟨sn, rfl⟩ : ∃ m : Nat, s = (m : Int) := ⟨s.toNat, by have := (ndOk_iff.1 hns).1; omega⟩
    obtain ⟨tn, rfl⟩ : ∃ m : Nat, t = (m : Int) := ⟨t.toNat, by have := (ndOk_iff.1 hnt).1; omega⟩
    have hsn : sn < n := by have := (ndOk_iff.1 hns).2; omega
    have hsn' : (sn : Int) < (n : Int) := by omega
    have HALL := Lib.hid hall
    obtain ⟨r1, h1⟩ : ∃ b, fitB l xs = b := ⟨_, rfl⟩
    rw [h1] at hr
    have H1 := Lib.hid h1
    have HRR := Lib.hid hr
    clear hok hns hnt hst hall h1 hr
    by_cases hlen : xs.length = l.length
    rotate_left
    · have hne : ((xs.length : Int) != (l.length : Int)) = true := by rw [bne_iff_ne]; omega
      obtain rfl : false = r1 := by rw [← H1.out]; unfold fitB; rw [decide_eq_false hlen]; rfl
      obtain ⟨rfl, rfl⟩ : (0 : Int) = y ∧ (13 : Int) = r := by simpa using HRR.out
      clear hlen
      go_wp2_with (fail)
      exact retTT rfl rfl rfl rfl ⟨rfl, HB1.out⟩
    have hne : ((xs.length : Int) != (l.length : Int)) = false := by rw [hlen]; simp
    have HXL := Lib.hid hlen
    have HR1 := Lib.hid (show (List.range l.length).all (fitAt l xs) = r1 by rw [← H1.out]; unfold fitB; rw [decide_eq_true hlen]; rfl)
    · clear hlen
      obtain ⟨i0, hi0, hzz0, hzz1, hzz2⟩ := info_parts int_info
      go_wp2_with (at_make; refine wpList_make_full (P := Tryz.prog) _ rfl _ _ 69 rfl w1.heap.size 3 i0 (.int .i64 0) 1 Tryz.underlying69 hi0 hzz0 hzz1 .i64 .i64 _ _ n rfl rfl rfl rfl (by rw [hzz2]; omega) (by unfold maxLen; omega) (Nat.le_refl _) ?_; intro w3 ho2 hg2; have HO2 := Lib.hid ho2; have HBE2 := Lib.hid ((Below.refl w1.heap.size w1).grown hg2 (Nat.le_refl _) (fun k hk => by cases hk)); have HX3 := Lib.hid ((HBE2.out.block _ (by omega)).trans HX1.out); have x31 : w3.cell? ⟨w.heap.size, 1, none⟩ = some (.slice A l.length c) := cell_of HX3.out rfl; clear ho2 hg2)
      obtain ⟨gb, hgb⟩ : ∃ g, g = w1.heap.size := ⟨_, rfl⟩
      rw [← hgb] at HO2 ⊢
      have HRW := Lib.hid (show Row w3 gb 0 (gainsL n (zipX (l.take 0) (xs.take 0))) from fun k x hx => by
        have hk : k < n := by have := (List.getElem?_eq_some_iff.1 hx).1; rw [gainsL_len] at this; exact this
        rw [gainsL_get _ hk] at hx
        rw [Nat.zero_add]
        refine ⟨?_, HO2.out.frozenAt k⟩
        rw [HO2.out.cellAt k (by omega)]
        have e : (Value.int .i64 0).cells = #[.int .i64 0] := rfl
        rw [e, Nat.mul_one, toList_madeCells_one, List.getElem?_replicate, if_pos hk]
        injection hx with hx
        rw [← hx]; rfl)
      have hg2 : gb < w3.heap.size := (ownsRow_lt HO2.out (g := gb) rfl).2
      have hgb1 : w1.heap.size ≤ gb := by omega
      have HGB := Lib.hid hgb
      have hz3 := HBE2.out.size
      have HL3 := Lib.hid (HL1.out.on HBE2.out (Nat.le_refl _))
      have HS3 := Lib.hid (HS1.out.on HBE2.out (Nat.le_refl _))
      clear hgb x0 x1 HO2
      clear x31
      go_loopw [34] (fun i wr => ∃ k : Nat, k ≤ l.length ∧ i = .int .i64 (k : Int) ∧ Hid (Out (fun b => b = gb) w3 wr) ∧ Hid (Row wr gb 0 (gainsL n (zipX (l.take k) (xs.take k)))) ∧ Hid ((List.range k).all (fitAt l xs) = true)) (fun i _ => l.length - (intOf i).toNat)
      case atStart => exact ⟨0, Nat.zero_le _, rfl, Lib.hid (Out.refl _), HRW, Lib.hid rfl⟩
      case round =>
        obtain ⟨k, hk, rfl, hB, hrow, hfit⟩ := hrel
        have hki : ((k : Nat) : Int).toNat = k := by omega
        have hBW : Below w1.heap.size w1 wr := (hB.out).below HBE2.out (fun i hi e => by omega)
        have HBW := Lib.hid hBW
        have hzr := hB.out.size
        by_cases hlt : k < l.length
        · obtain ⟨⟨u, v, cp⟩, hx⟩ : ∃ p, l[k]? = some p := ⟨_, List.getElem?_eq_getElem hlt⟩
          obtain ⟨z, hz⟩ : ∃ z, xs[k]? = some z := ⟨_, List.getElem?_eq_getElem (by rw [HXL.out]; exact hlt)⟩
          obtain ⟨b, o, c', e, hbb, -, -, y0, y1, y2⟩ := (HL1.out.on hBW (Nat.le_refl _)).at_ hx
          injection e with e1 hle e2
          clear hle
          subst e1 e2
          obtain ⟨b', o', c'', e, hbb', -, -, z0⟩ := (HS1.out.on hBW (Nat.le_refl _)).at_ hz
          injection e with e1 hle e2
          clear hle
          subst e1 e2
          obtain ⟨hu, hv, huv, hc0, hc1'⟩ := arOk_iff.1 (HALL.out _ (List.mem_of_getElem? hx))
          obtain ⟨un, rfl⟩ : ∃ m : Nat, u = (m : Int) := ⟨u.toNat, by have := hu.1; simp at this; omega⟩
          obtain ⟨vn, rfl⟩ : ∃ m : Nat, v = (m : Int) := ⟨v.toNat, by have := hv.1; simp at this; omega⟩
          have hun : un < n := by have := hu.2; simp at this; exact this
          have hvn : vn < n := by have := hv.2; simp at this; exact this
          have huv' : un ≠ vn := by intro e; apply huv; simp [e]
          have hun' : (un : Int) < (n : Int) := by omega
          have hvn' : (vn : Int) < (n : Int) := by omega
          have hgx : fitAt l xs k = (!decide (z < 0) && !decide (cp < z)) := by unfold fitAt; simp [hx, hz]
          have HGX := Lib.hid hgx
          have hzb2 := fit_bound hfit.out (fun p hp => (arOk_iff.1 (HALL.out p hp)).2.2.2.2)
          obtain ⟨ls, hls⟩ : ∃ ls, ls = zipX (l.take k) (xs.take k) := ⟨_, rfl⟩
          have hll : ls.length = k := by rw [hls]; exact zip_len hk HXL.out
          have hgu := gain_bound (M := 100000000) (by omega) ls (by rw [hls]; exact zip_bound2 k hzb2) un
          have hgv := gain_bound (M := 100000000) (by omega) ls (by rw [hls]; exact zip_bound2 k hzb2) vn
          rw [hll] at hgu hgv
          have hk128 : k < 128 := by omega
          have hsnoc : gainsL n (zipX (l.take (k + 1)) (xs.take (k + 1))) = ((gainsL n ls).set un (gain ls un + z)).set vn (gain ls vn - z) := by
            rw [zipX_snoc hx hz, ← hls]
            exact gainsL_snoc ls { arOf ((un : Int), (vn : Int), cp) with x := z } (by simpa [arOf] using hun) (by simpa [arOf] using hvn) (by simpa [arOf] using huv')
          rw [← hls] at hrow
          have HSNOC := Lib.hid hsnoc
          obtain ⟨gu, hgu'⟩ : ∃ g, g = gain ls un := ⟨_, rfl⟩
          obtain ⟨gv, hgv'⟩ : ∃ g, g = gain ls vn := ⟨_, rfl⟩
          rw [← hgu'] at hgu
          rw [← hgv'] at hgv
          have HGU := Lib.hid hgu'
          have HGV := Lib.hid hgv'
          have HCP := Lib.hid hc1'
          obtain ⟨V, hV⟩ : ∃ V, V = wr.alloc (.cells #[.int .i64 (un : Int), .int .i64 (vn : Int), .int .i64 cp] 67) := ⟨_, rfl⟩
          have HOV := Lib.hid (show Out (fun b => b = gb) w3 V by subst hV; exact hB.out.trans (Out.of_below ((Below.refl wr.heap.size wr).alloc (Nat.le_refl _) _) (Nat.le_refl _)))
          have HVA := Lib.hid (show V.heap[wr.heap.size]? = some (.cells #[.int .i64 (un : Int), .int .i64 (vn : Int), .int .i64 cp] 67 (0, 0)) by subst hV; exact heap_alloc_new _ _)
          have HRV := Lib.hid (show Row V gb 0 (gainsL n ls) by subst hV; exact hrow.out.kept fun cs t fr h => old_heap _ h)
          have a0 := (three_cells HVA.out).1
          have a1 := (three_cells HVA.out).2.1
          have a2 : V.cell? ⟨gb, un, none⟩ = some (.int .i64 gu) := by have h := (HRV.out un _ (gainsL_get ls hun)).1; rw [Nat.zero_add] at h; rw [HGU.out]; exact h
          have a3 : V.cell? ⟨b', o' + k, none⟩ = some (.int .i64 z) := by subst hV; exact alloc_cell z0 _
          have a4 : V.frozen? ⟨gb, un, none⟩ = false := by have h := (HRV.out un _ (gainsL_get ls hun)).2; rw [Nat.zero_add] at h; exact h
          have hgr : wr.heap.size ≠ gb := by omega
          have hkx : (k : Int) < (xs.length : Int) := by rw [HXL.out]; omega
          have hgb' : b' ≠ gb := by
            obtain ⟨b2, o2, c2', e, hbb2, -, -, -⟩ := HS1.out.at_ hz
            injection e with e1 _ _
            injection e1 with e1
            injection e1 with e1 _
            omega
          have hfm : Tryz.prog.follows Departure.mixedOrders = true := by kernel_rfl
          have a5 := (three_cells HVA.out).2.2
          clear hx hz hbb hbb' hu hv huv hc0 hc1' hsnoc hls hll hgu' hgv' hgx hzb2 hBW z0
          go_wp2_with (fail)
          rw [← hV]
          clear hV y0 y1 y2
          rcases q1 : decide (z < 0) with _ | _
          rotate_left
          · have hno := range_not (f := fitAt l xs) hlt (by rw [HGX.out, q1]; rfl)
            obtain rfl : false = r1 := by rw [← HR1.out, hno]
            obtain ⟨rfl, rfl⟩ : (0 : Int) = y ∧ (13 : Int) = r := by simpa using HRR.out
            have HBE := Lib.hid (below_join HB1.out ((HOV.out).below HBE2.out (fun i hi e => by omega)) HB1.out.size)
            clear hno
            go_wp2_with (fail)
            go_quiet (fail)
            go_wp2_with (fail)
            exact retTT rfl rfl rfl rfl ⟨rfl, below_drewN HBE.out⟩
          rcases q2 : decide (cp < z) with _ | _
          rotate_left
          · have hno := range_not (f := fitAt l xs) hlt (by rw [HGX.out, q1, q2]; rfl)
            obtain rfl : false = r1 := by rw [← HR1.out, hno]
            obtain ⟨rfl, rfl⟩ : (0 : Int) = y ∧ (13 : Int) = r := by simpa using HRR.out
            have HBE := Lib.hid (below_join HB1.out ((HOV.out).below HBE2.out (fun i hi e => by omega)) HB1.out.size)
            clear hno
            go_wp2_with (fail)
            go_quiet (fail)
            go_wp2_with (fail)
            exact retTT rfl rfl rfl rfl ⟨rfl, below_drewN HBE.out⟩
          have HFIT := Lib.hid (range_all k hfit.out (show fitAt l xs k = true by rw [HGX.out, q1, q2]; rfl))
          have hzb : 0 ≤ z ∧ z ≤ 100000000 := by have h1 := of_decide_eq_false q1; have h2 := of_decide_eq_false q2; have h3 : cp ≤ 100000000 := HCP.out; omega
          have HW1 := Lib.hid (show IntKind.i64.wrap (gu + z) = gu + z from IntWalk.i64_in _ (by omega))
          have HW2 := Lib.hid (show IntKind.i64.wrap (gv - z) = gv - z from IntWalk.i64_in _ (by omega))
          go_quiet (fail)
          go_wp2_with (fail)
          obtain ⟨V3, hV3⟩ : ∃ V', V' = V.drewN nq := ⟨_, rfl⟩
          rw [← hV3]
          have HOV3 := Lib.hid (show Out (fun b => b = gb) w3 V3 by subst hV3; exact ⟨HOV.out.os, HOV.out.tape, HOV.out.output, HOV.out.size, HOV.out.same⟩)
          have HRV3 := Lib.hid (show Row V3 gb 0 (gainsL n ls) by subst hV3; exact fun k x hx => HRV.out k x hx)
          have a0 : V3.cell? ⟨wr.heap.size, 0, none⟩ = some (.int .i64 (un : Int)) := by subst hV3; exact a0
          have a1 : V3.cell? ⟨wr.heap.size, 1, none⟩ = some (.int .i64 (vn : Int)) := by subst hV3; exact a1
          have a2 : V3.cell? ⟨gb, un, none⟩ = some (.int .i64 gu) := by subst hV3; exact a2
          have a3 : V3.cell? ⟨b', o' + k, none⟩ = some (.int .i64 z) := by subst hV3; exact a3
          have a4 : V3.frozen? ⟨gb, un, none⟩ = false := by subst hV3; exact a4
          clear hV3 a5
          refine region_z 11 hfm (S := fun X => X.cell? ⟨wr.heap.size, 0, none⟩ = some (.int .i64 (un : Int)) ∧ X.cell? ⟨gb, un, none⟩ = some (.int .i64 gu) ∧ X.cell? ⟨b', o' + k, none⟩ = some (.int .i64 z)) ⟨a0, a2, a3⟩ (fun hHeld => ?_)
          refine takeZ 0 (some 53) (by kernel_rfl) rfl rfl (by kernel_rfl) (by kernel_rfl) (by kernel_rfl) (fun _ _ _ h => h) (by rfl) (by intro w ⟨g1, g2, g3⟩; go_simp; try with_reducible rfl) hHeld ?_
          simp only [Act.put, List.setIfInBounds_toArray, List.set_cons_zero, List.set_cons_succ]
          refine takeZ 1 (some 54) (by kernel_rfl) rfl rfl (by kernel_rfl) (by kernel_rfl) (by kernel_rfl) (fun _ _ _ h => h) (by rfl) (by intro w ⟨g1, g2, g3⟩; go_simp; try with_reducible rfl) hHeld ?_
          simp only [Act.put, List.setIfInBounds_toArray, List.set_cons_zero, List.set_cons_succ]
          refine takeZ 2 (some 55) (by kernel_rfl) rfl rfl (by kernel_rfl) (by kernel_rfl) (by kernel_rfl) (fun _ _ _ h => h) (by rfl) (by intro w ⟨g1, g2, g3⟩; go_simp; try with_reducible rfl) hHeld ?_
          simp only [Act.put, List.setIfInBounds_toArray, List.set_cons_zero, List.set_cons_succ]
          refine takeZ 3 (some 56) (by kernel_rfl) rfl rfl (by kernel_rfl) (by kernel_rfl) (by kernel_rfl) (fun _ _ _ h => h) (by rfl) (by intro w ⟨g1, g2, g3⟩; go_simp; try with_reducible rfl) hHeld ?_
          simp only [Act.put, List.setIfInBounds_toArray, List.set_cons_zero, List.set_cons_succ]
          refine takeZ 4 (some 57) (by kernel_rfl) rfl rfl (by kernel_rfl) (by kernel_rfl) (by kernel_rfl) (fun _ _ _ h => h) (by rfl) (by intro w ⟨g1, g2, g3⟩; go_simp; try with_reducible rfl) hHeld ?_
          simp only [Act.put, List.setIfInBounds_toArray, List.set_cons_zero, List.set_cons_succ]
          refine takeZ 5 (some 58) (by kernel_rfl) rfl rfl (by kernel_rfl) (by kernel_rfl) (by kernel_rfl) (fun _ _ _ h => h) (by rfl) (by intro w ⟨g1, g2, g3⟩; go_simp; try with_reducible rfl) hHeld ?_
          simp only [Act.put, List.setIfInBounds_toArray, List.set_cons_zero, List.set_cons_succ]
          refine takeZ 6 (some 59) (by kernel_rfl) rfl rfl (by kernel_rfl) (by kernel_rfl) (by kernel_rfl) (fun _ _ _ h => h) (by rfl) (by intro w ⟨g1, g2, g3⟩; go_simp; try with_reducible rfl) hHeld ?_
          simp only [Act.put, List.setIfInBounds_toArray, List.set_cons_zero, List.set_cons_succ]
          refine takeZ 7 (some 60) (by kernel_rfl) rfl rfl (by kernel_rfl) (by kernel_rfl) (by kernel_rfl) (fun _ _ _ h => h) (by rfl) (by intro w ⟨g1, g2, g3⟩; go_simp; try with_reducible rfl) hHeld ?_
          simp only [Act.put, List.setIfInBounds_toArray, List.set_cons_zero, List.set_cons_succ]
          refine takeZ 8 (some 61) (by kernel_rfl) rfl rfl (by kernel_rfl) (by kernel_rfl) (by kernel_rfl) (fun _ _ _ h => h) (by rfl) (by intro w ⟨g1, g2, g3⟩; go_simp; try with_reducible rfl) hHeld ?_
          simp only [Act.put, List.setIfInBounds_toArray, List.set_cons_zero, List.set_cons_succ]
          refine takeZ 9 (some 62) (by kernel_rfl) rfl rfl (by kernel_rfl) (by kernel_rfl) (by kernel_rfl) (fun _ _ _ h => h) (by rfl) (by intro w ⟨g1, g2, g3⟩; go_simp; try with_reducible rfl) hHeld ?_
          simp only [Act.put, List.setIfInBounds_toArray, List.set_cons_zero, List.set_cons_succ]
          rw [HW1.out]
          refine takeZ 10 (some 63) (by kernel_rfl) rfl rfl (by kernel_rfl) (by kernel_rfl) (by kernel_rfl) (fun _ _ _ h => h) (by rfl) (by intro w ⟨g1, g2, g3⟩; go_simp; try with_reducible rfl) hHeld ?_
          simp only [Act.put, List.setIfInBounds_toArray, List.set_cons_zero, List.set_cons_succ]
          clear hHeld
          refine oneZ 11 rfl (by kernel_rfl) (fun K hK => ?_)
          go_simp
          refine hK.out _ _ (.inl rfl) ?_
          clear hK K a0 a2 a4
          refine doneZ (by kernel_rfl) ?_ _
          obtain ⟨V2, hV2⟩ : ∃ V2, V2 = (V3.setCell ⟨gb, un, none⟩ (.int .i64 (gu + z))).drew := ⟨_, rfl⟩
          have HOV2 := Lib.hid (show Out (fun b => b = gb) w3 V2 by subst hV2; exact (HOV3.out.trans (Out.store (S := fun b => b = gb) rfl _)).trans Out.drew)
          have HRV2 := Lib.hid (show Row V2 gb 0 ((gainsL n ls).set un (gu + z)) by
            subst hV2
            have h := Row.set (X := V3) (b := gb) (o := 0) (L := gainsL n ls) (j := un) (fun k x hx => HRV3.out k x hx) (by rw [gainsL_len]; exact hun) (gu + z)
            rw [Nat.zero_add] at h; exact fun k x hx => h k x hx)
          have b1 : V2.cell? ⟨wr.heap.size, 1, none⟩ = some (.int .i64 (vn : Int)) := by subst hV2; rw [World.cell?_drew]; rw [World.cell?_setCell_other _ _ _ _ (fun e' => hgr (congrArg (fun a : Addr => a.block) e').symm)]; exact a1
          have b3 : V2.cell? ⟨b', o' + k, none⟩ = some (.int .i64 z) := by subst hV2; rw [World.cell?_drew]; rw [World.cell?_setCell_other _ _ _ _ (fun e' => hgb' (congrArg (fun a : Addr => a.block) e').symm)]; exact a3
          have hvget : ((gainsL n ls).set un (gu + z))[vn]? = some gv := by rw [List.getElem?_set_ne huv', gainsL_get ls hvn, HGV.out]
          have b2 : V2.cell? ⟨gb, vn, none⟩ = some (.int .i64 gv) := by have h := (HRV2.out vn _ hvget).1; rw [Nat.zero_add] at h; exact h
          have b4 : V2.frozen? ⟨gb, vn, none⟩ = false := by have h := (HRV2.out vn _ hvget).2; rw [Nat.zero_add] at h; exact h
          clear a1 a3 hvget
          go_wp2_with (fail)
          rw [← hV2]
          clear hV2
          refine region_z 11 hfm (S := fun X => X.cell? ⟨wr.heap.size, 1, none⟩ = some (.int .i64 (vn : Int)) ∧ X.cell? ⟨gb, vn, none⟩ = some (.int .i64 gv) ∧ X.cell? ⟨b', o' + k, none⟩ = some (.int .i64 z)) ⟨b1, b2, b3⟩ (fun hHeld => ?_)
          refine takeZ 0 (some 64) (by kernel_rfl) rfl rfl (by kernel_rfl) (by kernel_rfl) (by kernel_rfl) (fun _ _ _ h => h) (by rfl) (by intro w ⟨g1, g2, g3⟩; go_simp; try with_reducible rfl) hHeld ?_
          simp only [Act.put, List.setIfInBounds_toArray, List.set_cons_zero, List.set_cons_succ]
          refine takeZ 1 (some 65) (by kernel_rfl) rfl rfl (by kernel_rfl) (by kernel_rfl) (by kernel_rfl) (fun _ _ _ h => h) (by rfl) (by intro w ⟨g1, g2, g3⟩; go_simp; try with_reducible rfl) hHeld ?_
          simp only [Act.put, List.setIfInBounds_toArray, List.set_cons_zero, List.set_cons_succ]
          refine takeZ 2 (some 66) (by kernel_rfl) rfl rfl (by kernel_rfl) (by kernel_rfl) (by kernel_rfl) (fun _ _ _ h => h) (by rfl) (by intro w ⟨g1, g2, g3⟩; go_simp; try with_reducible rfl) hHeld ?_
          simp only [Act.put, List.setIfInBounds_toArray, List.set_cons_zero, List.set_cons_succ]
          refine takeZ 3 (some 67) (by kernel_rfl) rfl rfl (by kernel_rfl) (by kernel_rfl) (by kernel_rfl) (fun _ _ _ h => h) (by rfl) (by intro w ⟨g1, g2, g3⟩; go_simp; try with_reducible rfl) hHeld ?_
          simp only [Act.put, List.setIfInBounds_toArray, List.set_cons_zero, List.set_cons_succ]
          refine takeZ 4 (some 68) (by kernel_rfl) rfl rfl (by kernel_rfl) (by kernel_rfl) (by kernel_rfl) (fun _ _ _ h => h) (by rfl) (by intro w ⟨g1, g2, g3⟩; go_simp; try with_reducible rfl) hHeld ?_
          simp only [Act.put, List.setIfInBounds_toArray, List.set_cons_zero, List.set_cons_succ]
          refine takeZ 5 (some 69) (by kernel_rfl) rfl rfl (by kernel_rfl) (by kernel_rfl) (by kernel_rfl) (fun _ _ _ h => h) (by rfl) (by intro w ⟨g1, g2, g3⟩; go_simp; try with_reducible rfl) hHeld ?_
          simp only [Act.put, List.setIfInBounds_toArray, List.set_cons_zero, List.set_cons_succ]
          refine takeZ 6 (some 70) (by kernel_rfl) rfl rfl (by kernel_rfl) (by kernel_rfl) (by kernel_rfl) (fun _ _ _ h => h) (by rfl) (by intro w ⟨g1, g2, g3⟩; go_simp; try with_reducible rfl) hHeld ?_
          simp only [Act.put, List.setIfInBounds_toArray, List.set_cons_zero, List.set_cons_succ]
          refine takeZ 7 (some 71) (by kernel_rfl) rfl rfl (by kernel_rfl) (by kernel_rfl) (by kernel_rfl) (fun _ _ _ h => h) (by rfl) (by intro w ⟨g1, g2, g3⟩; go_simp; try with_reducible rfl) hHeld ?_
          simp only [Act.put, List.setIfInBounds_toArray, List.set_cons_zero, List.set_cons_succ]
          refine takeZ 8 (some 72) (by kernel_rfl) rfl rfl (by kernel_rfl) (by kernel_rfl) (by kernel_rfl) (fun _ _ _ h => h) (by rfl) (by intro w ⟨g1, g2, g3⟩; go_simp; try with_reducible rfl) hHeld ?_
          simp only [Act.put, List.setIfInBounds_toArray, List.set_cons_zero, List.set_cons_succ]
          refine takeZ 9 (some 73) (by kernel_rfl) rfl rfl (by kernel_rfl) (by kernel_rfl) (by kernel_rfl) (fun _ _ _ h => h) (by rfl) (by intro w ⟨g1, g2, g3⟩; go_simp; try with_reducible rfl) hHeld ?_
          simp only [Act.put, List.setIfInBounds_toArray, List.set_cons_zero, List.set_cons_succ]
          rw [HW2.out]
          refine takeZ 10 (some 74) (by kernel_rfl) rfl rfl (by kernel_rfl) (by kernel_rfl) (by kernel_rfl) (fun _ _ _ h => h) (by rfl) (by intro w ⟨g1, g2, g3⟩; go_simp; try with_reducible rfl) hHeld ?_
          simp only [Act.put, List.setIfInBounds_toArray, List.set_cons_zero, List.set_cons_succ]
          clear hHeld
          refine oneZ 11 rfl (by kernel_rfl) (fun K hK => ?_)
          go_simp
          refine hK.out _ _ (.inl rfl) ?_
          clear hK K b1 b2 b3 b4
          refine doneZ (by kernel_rfl) ?_ _
          have HREL := Lib.hid (show Out (fun b => b = gb) w3 ((V2.setCell ⟨gb, vn, none⟩ (.int .i64 (gv - z))).drew) ∧ Row ((V2.setCell ⟨gb, vn, none⟩ (.int .i64 (gv - z))).drew) gb 0 (gainsL n (zipX (l.take (k + 1)) (xs.take (k + 1)))) from ⟨(HOV2.out.trans (Out.store (S := fun b => b = gb) rfl _)).trans Out.drew, by
            have h := Row.set (X := V2) (b := gb) (o := 0) (L := (gainsL n ls).set un (gu + z)) (j := vn) (fun k x hx => HRV2.out k x hx) (by rw [List.length_set, gainsL_len]; exact hvn) (gv - z)
            rw [Nat.zero_add] at h
            rw [HSNOC.out, ← HGU.out, ← HGV.out]; exact fun k x hx => h k x hx⟩)
          go_wp2_with (fail)
          go_roundw
          case rel => exact ⟨k + 1, by omega, by go_num, Lib.hid HREL.out.1, Lib.hid HREL.out.2, HFIT⟩
          case measure => simp only [intOf]; omega
        · obtain rfl : k = l.length := by omega
          obtain rfl : true = r1 := by rw [← HR1.out, hfit.out]
          have hyr := HRR.out
          obtain ⟨G, hG⟩ : ∃ G, G = zipX l xs := ⟨_, rfl⟩
          have hrow' := hrow.out
          rw [List.take_length, ← HXL.out, List.take_length, ← hG] at hrow'
          rw [← hG, if_pos rfl] at hyr
          have HROW := Lib.hid hrow'
          have HYR := Lib.hid hyr
          clear hrow' hyr hG hrow
          obtain ⟨wA, hwA⟩ : ∃ z, z = wr := ⟨_, rfl⟩
          subst hwA
          go_wp2_with (fail)
          go_loopw [14] (fun i wr => ∃ k : Nat, k ≤ n ∧ i = .int .i64 (k : Int) ∧ Hid (Below wA.heap.size wA wr) ∧ Hid ((List.range k).all (evenAt G (sn : Int) (tn : Int)) = true)) (fun i _ => n - (intOf i).toNat)
          case atStart => exact ⟨0, Nat.zero_le _, rfl, Lib.hid (Below.refl _ _), Lib.hid rfl⟩
          case round =>
            obtain ⟨k, hk, rfl, hBx, hev⟩ := hrel
            have hki : ((k : Nat) : Int).toNat = k := by omega
            have hrX := HROW.out.kept (Y := wr) fun cs t fr h => (hBx.out.block _ (at_lt h)).trans h
            have HBX := Lib.hid (below_join HB1.out (below_join HBW.out hBx.out HBW.out.size) HB1.out.size)
            have x0 : wr.cell? ⟨w.heap.size, 0, none⟩ = some (.int .i64 (n : Int)) := cell_of (((below_join HBW.out hBx.out HBW.out.size).block _ (by omega)).trans HX1.out) rfl
            by_cases hlt : k < n
            · have y0 := (hrX k _ (gainsL_get G hlt)).1
              rw [Nat.zero_add] at y0
              obtain ⟨g, hg⟩ : ∃ g, g = gain G k := ⟨_, rfl⟩
              rw [← hg] at y0
              have hkn : (k : Int) < (n : Int) := by omega
              have HEV := Lib.hid (show evenAt G (sn : Int) (tn : Int) k = (g == 0 || ((k : Int) == (sn : Int) || (k : Int) == (tn : Int))) by unfold evenAt; rw [hg])
              clear hrX hg
              rcases h2 : ((k : Int) != (sn : Int)) with _ | _
              · have HE2 := Lib.hid (range_all k hev.out (show evenAt G (sn : Int) (tn : Int) k = true by rw [HEV.out, show ((k : Int) == (sn : Int)) = true by simpa using h2]; simp))
                go_wp2_with (fail)
                go_roundw
                case rel => exact ⟨k + 1, by omega, by go_num, hBx, HE2⟩
                case measure => simp only [intOf]; omega
              rcases h3 : ((k : Int) != (tn : Int)) with _ | _
              · have HE2 := Lib.hid (range_all k hev.out (show evenAt G (sn : Int) (tn : Int) k = true by rw [HEV.out, show ((k : Int) == (tn : Int)) = true by simpa using h3]; simp))
                go_wp2_with (fail)
                go_roundw
                case rel => exact ⟨k + 1, by omega, by go_num, hBx, HE2⟩
                case measure => simp only [intOf]; omega
              rcases h1 : (g != 0) with _ | _
              · have HE2 := Lib.hid (range_all k hev.out (show evenAt G (sn : Int) (tn : Int) k = true by rw [HEV.out, show (g == 0) = true by simpa using h1]; rfl))
                go_wp2_with (fail)
                go_roundw
                case rel => exact ⟨k + 1, by omega, by go_num, hBx, HE2⟩
                case measure => simp only [intOf]; omega
              · have hno := range_not (f := evenAt G (sn : Int) (tn : Int)) hlt (by
                  rw [HEV.out, show (g == 0) = false by simpa using h1, show ((k : Int) == (sn : Int)) = false by simpa using h2, show ((k : Int) == (tn : Int)) = false by simpa using h3]; rfl)
                obtain ⟨rfl, rfl⟩ : (0 : Int) = y ∧ (13 : Int) = r := by have h := HYR.out; rw [Int.toNat_natCast, hno] at h; simpa using h
                go_wp2_with (fail)
                exact retTT rfl rfl rfl rfl ⟨rfl, HBX.out⟩
            · obtain rfl : k = n := by omega
              have y0 := (hrX sn _ (gainsL_get G hsn)).1
              rw [Nat.zero_add] at y0
              have hyr := HYR.out
              rw [Int.toNat_natCast, hev.out, if_pos rfl, Int.toNat_natCast] at hyr
              obtain ⟨h1, rfl⟩ : gain G sn = y ∧ (0 : Int) = r := by simpa using hyr
              rw [h1] at y0
              clear hrX hyr h1
              go_wp2_with (fail)
              exact retTT rfl rfl rfl rfl ⟨rfl, HBX.out⟩
  · have hrz : (r0 != 0) = true := by rw [bne_iff_ne]; exact hr0
    rw [if_neg hr0] at hr
    obtain ⟨rfl, rfl⟩ : (0 : Int) = y ∧ r0 = r := by simpa using hr
    clear hr0 hr
    go_wp2_with (fail)
    exact retTT rfl rfl rfl rfl ⟨rfl, HB1.out⟩
end Go.Proofs.YtidpiokkfnhobaaGreat.v5

namespace Go.Proofs.YtidpiokkfnhobaaGreat.v5
set_option linter.unusedSimpArgs false
set_option linter.unusedVariables false
open Go.RowKit Go.Shelf
set_option maxRecDepth 100000

theorem Best.cut {N s t : Nat} {l : List (Int × Int × Int)} {lf : List Ar} {v : Int} (h : Best N s t l lf v) (hs : s < N) :
    v = capS (arsOf l) (reachB lf s) ∧ reachB lf s s = true ∧ reachB lf s t = false ∧ (∀ S : Nat → Bool, S s = true → S t = false → v ≤ capS (arsOf l) S ∧ (capS (arsOf l) S = v → ∀ n, reachB lf s n = true → S n = true)) := by
  obtain ⟨h1, h2, h3⟩ := h.gr.cut hs
  refine ⟨by rw [← capS_ends h.ends_]; exact h1, (reachB_iff _ _ _).2 Reach.here, reachB_no h.no, fun S a b => ⟨by rw [← capS_ends h.ends_]; exact h2 S a b, fun e n hn => h3 S a b (by rw [capS_ends h.ends_]; exact e) n ((reachB_iff _ _ _).1 hn)⟩⟩
end Go.Proofs.YtidpiokkfnhobaaGreat.v5

namespace Go.Proofs.YtidpiokkfnhobaaGreat.v5
open Go.RowKit Go.Shelf
set_option maxRecDepth 100000
set_option linter.unusedSimpArgs false
set_option linter.unusedVariables false

/-- Small loads, as a slice. -/
def U8Sl (w : World) (v : Value) (l : List Nat) : Prop :=
  ∃ A c, v = .slice A l.length c ∧ l.length ≤ c ∧ c ≤ maxLen ∧ (A = none → c = 0) ∧ (∀ x ∈ l, x ≤ 255) ∧ (0 < l.length → ∃ b o, A = some ⟨b, o, none⟩ ∧ b < w.heap.size ∧ ∀ (j : Nat) (x : Nat), l[j]? = some x → w.cell? ⟨b, o + j, none⟩ = some (.int .u8 (x : Int)))
theorem U8Sl.at_ {w : World} {v : Value} {l : List Nat} (h : U8Sl w v l) {k : Nat} {x : Nat} (hk : l[k]? = some x) : ∃ b o c, v = .slice (some ⟨b, o, none⟩) l.length c ∧ b < w.heap.size ∧ x ≤ 255 ∧ w.cell? ⟨b, o + k, none⟩ = some (.int .u8 (x : Int)) := by
  obtain ⟨A, c, h1, h2, h3, -, h5, h4⟩ := h
  have hl := (List.getElem?_eq_some_iff.1 hk).1
  obtain ⟨b, o, rfl, hlt, hc⟩ := h4 (by omega)
  exact ⟨b, o, c, h1, hlt, h5 x (List.mem_of_getElem? hk), hc k x hk⟩
theorem U8Sl.shape {w : World} {v : Value} {l : List Nat} (h : U8Sl w v l) : ∃ A c, v = .slice A l.length c ∧ l.length ≤ c ∧ c ≤ maxLen := by
  obtain ⟨A, c, h1, h2, h3, -⟩ := h
  exact ⟨A, c, h1, h2, h3⟩
theorem U8Sl.on {w w' : World} {v : Value} {l : List Nat} {B : Nat} (h : U8Sl w v l) (hb : Below B w w') (hB : w.heap.size ≤ B) : U8Sl w' v l := by
  obtain ⟨A, c, h1, h2, h3, h5, h6, h4⟩ := h
  refine ⟨A, c, h1, h2, h3, h5, h6, fun h0 => ?_⟩
  obtain ⟨b, o, e, hlt, hc⟩ := h4 h0
  exact ⟨b, o, e, Nat.lt_of_lt_of_le hlt hb.size, fun j x hj => (hb.cell (p := ⟨b, o + j, none⟩) (by show b < B; omega)).trans (hc j x hj)⟩
theorem zip_self : ∀ {L : List (Int × Int × Int)} {lf : List Ar}, ends lf = ends (arsOf L) → zipX L (lf.map Ar.x) = lf
  | [], [], _ => rfl
  | [], b :: l, h => by cases h
  | a :: L, [], h => by cases h
  | a :: L, b :: l, h => by
    have h' : (b.u, b.v, b.cap) :: ends l = ((arOf a).u, (arOf a).v, (arOf a).cap) :: ends (arsOf L) := h
    injection h' with h1 h2
    injection h1 with e1 e2
    injection e2 with e2 e3
    have ih := zip_self (L := L) (lf := l) h2
    show ({ arOf a with x := b.x } : Ar) :: zipX L (l.map Ar.x) = b :: l
    rw [ih]
    congr 1
    cases b
    simp only at e1 e2 e3
    subst e1 e2 e3
    rfl
theorem best_fit {N s t : Nat} {L : List (Int × Int × Int)} {lf : List Ar} {v : Int} (h : Best N s t L lf v) (hok : ntOk (N : Int) L = true) :
    (lf.map Ar.x).length = L.length ∧ ∀ i, i < L.length → 0 ≤ (lf.map Ar.x).getD i 0 ∧ (lf.map Ar.x).getD i 0 ≤ (L.getD i (0, 0, 0)).2.2 ∧ (L.getD i (0, 0, 0)).2.2 ≤ 100000000 := by
  have hl : lf.length = L.length := by rw [ends_len h.ends_, arsOf_len]
  refine ⟨by rw [List.length_map]; exact hl, fun i hi => ?_⟩
  obtain ⟨b, hb⟩ : ∃ b, lf[i]? = some b := ⟨_, List.getElem?_eq_getElem (by omega)⟩
  obtain ⟨a, ha⟩ : ∃ a, L[i]? = some a := ⟨_, List.getElem?_eq_getElem hi⟩
  obtain ⟨c, hc, -, -, e⟩ := ends_get h.ends_ hb
  have hc' : (arsOf L)[i]? = some (arOf a) := by unfold arsOf; rw [List.getElem?_map, ha]; rfl
  rw [hc'] at hc
  injection hc with hc
  subst hc
  have e' : a.2.2 = b.cap := e
  have hf := h.flow.fits b (List.mem_of_getElem? hb)
  have h1 : (lf.map Ar.x).getD i 0 = b.x := by simp [hb]
  have h2 : L.getD i (0, 0, 0) = a := by simp [ha]
  rw [h1, h2, e']
  refine ⟨hf.1, hf.2, ?_⟩
  rw [← e']
  exact (arOk_iff.1 ((ntOk_iff.1 hok).2.2.2 a (List.mem_of_getElem? ha))).2.2.2.2
end Go.Proofs.YtidpiokkfnhobaaGreat.v5

namespace Go.Proofs.YtidpiokkfnhobaaGreat.v5
set_option linter.unusedSimpArgs false
set_option linter.unusedVariables false

/-- A step: by which arc, from which node, whether against the arc, and whether it is there. -/
structure Stp where
  arc : Int
  src : Int
  back : Bool
  is : Bool
def stp0 : Stp := ⟨0, 0, false, false⟩
def mvOf (i : Nat) (b : Bool) : Nat := 2 * i + (if b = true then 1 else 0)
theorem mvOf_div (i : Nat) (b : Bool) : mvOf i b / 2 = i := by unfold mvOf; cases b <;> simp <;> omega
theorem mvOf_mod (i : Nat) (b : Bool) : mvOf i b % 2 = if b = true then 1 else 0 := by unfold mvOf; cases b <;> simp <;> omega
theorem mv_along {l : List Ar} {i : Nat} {a : Ar} (h : l[i]? = some a) : mvFrom l (mvOf i false) = some a.u ∧ mvTo l (mvOf i false) = some a.v ∧ mvRoom l (mvOf i false) = a.cap - a.x := by
  unfold mvFrom mvTo mvRoom
  rw [mvOf_div, mvOf_mod, h]
  simp
theorem mv_back {l : List Ar} {i : Nat} {a : Ar} (h : l[i]? = some a) : mvFrom l (mvOf i true) = some a.v ∧ mvTo l (mvOf i true) = some a.u ∧ mvRoom l (mvOf i true) = a.x := by
  unfold mvFrom mvTo mvRoom
  rw [mvOf_div, mvOf_mod, h]
  simp
theorem mv_cases {l : List Ar} {m p q : Nat} (h1 : mvFrom l m = some p) (h2 : mvTo l m = some q) : ∃ a, l[m / 2]? = some a ∧ ((m = mvOf (m / 2) false ∧ a.u = p ∧ a.v = q ∧ mvRoom l m = a.cap - a.x) ∨ (m = mvOf (m / 2) true ∧ a.v = p ∧ a.u = q ∧ mvRoom l m = a.x)) := by
  unfold mvFrom at h1
  unfold mvTo at h2
  unfold mvRoom
  rcases ha : l[m / 2]? with _ | a
  · rw [ha] at h1; cases h1
  · rw [ha] at h1 h2
    refine ⟨a, rfl, ?_⟩
    rcases Nat.mod_two_eq_zero_or_one m with e | e
    · simp [e] at h1 h2
      refine .inl ⟨?_, h1, h2, by simp [e]⟩
      show m = 2 * (m / 2) + (if false = true then 1 else 0)
      simp; omega
    · simp [e] at h1 h2
      refine .inr ⟨?_, h1, h2, by simp [e]⟩
      show m = 2 * (m / 2) + (if true = true then 1 else 0)
      simp; omega
/-- A search under way: the steps so far, and the nodes in the order in which they were reached. -/
structure Srch (l : List Ar) (s N : Nat) (B : List Stp) (seen : List Nat) : Prop where
  len : B.length = N
  nodup : seen.Nodup
  lt : ∀ v ∈ seen, v < N
  first : seen[0]? = some s
  is_ : ∀ v x, B[v]? = some x → (x.is = true ↔ v ∈ seen)
  step : ∀ k v, seen[k]? = some v → 0 < k → ∃ (i u j : Nat) (b : Bool), B[v]? = some ⟨(i : Int), (u : Int), b, true⟩ ∧ i < l.length ∧ mvFrom l (mvOf i b) = some u ∧ mvTo l (mvOf i b) = some v ∧ 0 < mvRoom l (mvOf i b) ∧ seen[j]? = some u ∧ j < k
section
variable {l : List Ar} {s N : Nat} {B : List Stp} {seen : List Nat}
theorem Srch.bound (h : Srch l s N B seen) : seen.length ≤ N := nodup_le N seen h.nodup h.lt
theorem Srch.start (hs : s < N) : Srch l s N ((List.replicate N stp0).set s ⟨-1, (s : Int), false, true⟩) [s] := by
  refine ⟨by simp, by simp, fun v hv => ?_, rfl, fun v x hx => ?_, fun k v hk h0 => ?_⟩
  · rw [List.mem_singleton] at hv; omega
  · rw [List.getElem?_set] at hx
    rw [List.mem_singleton]
    by_cases e : s = v
    · subst e
      rw [if_pos rfl, if_pos (by simpa using hs)] at hx
      injection hx with hx
      subst hx
      simp
    · rw [if_neg e] at hx
      have hv : v < N := by have := (List.getElem?_eq_some_iff.1 hx).1; simpa using this
      rw [List.getElem?_replicate, if_pos hv] at hx
      injection hx with hx
      subst hx
      simp [stp0]
      exact fun e2 => e e2.symm
  · have := (List.getElem?_eq_some_iff.1 hk).1
    simp at this
    omega
theorem Srch.visit (h : Srch l s N B seen) {i u j q : Nat} {b : Bool} (hi : i < l.length) (hf : mvFrom l (mvOf i b) = some u) (ht : mvTo l (mvOf i b) = some q) (hr : 0 < mvRoom l (mvOf i b)) (hj : seen[j]? = some u) (hq : q ∉ seen) (hqN : q < N) :
    Srch l s N (B.set q ⟨(i : Int), (u : Int), b, true⟩) (seen ++ [q]) := by
  have hjl := (List.getElem?_eq_some_iff.1 hj).1
  refine ⟨by rw [List.length_set]; exact h.len, ?_, fun v hv => ?_, ?_, fun v x hx => ?_, fun k v hk h0 => ?_⟩
  · rw [List.nodup_append]
    refine ⟨h.nodup, by simp, fun a ha b hb => ?_⟩
    rw [List.mem_singleton] at hb
    subst hb
    exact fun e => hq (e ▸ ha)
  · rcases List.mem_append.1 hv with h1 | h1
    · exact h.lt v h1
    · rw [List.mem_singleton] at h1; omega
  · rw [List.getElem?_append_left (by omega)]; exact h.first
  · rw [List.getElem?_set] at hx
    rw [List.mem_append, List.mem_singleton]
    by_cases e : q = v
    · subst e
      rw [if_pos rfl, if_pos (by rw [h.len]; exact hqN)] at hx
      injection hx with hx
      subst hx
      simp
    · rw [if_neg e] at hx
      rw [h.is_ v x hx]
      exact ⟨Or.inl, fun h1 => h1.elim id fun h2 => absurd h2.symm e⟩
  · have hkl := (List.getElem?_eq_some_iff.1 hk).1
    rw [List.length_append, List.length_singleton] at hkl
    by_cases e : k < seen.length
    · rw [List.getElem?_append_left e] at hk
      obtain ⟨i', u', j', b', g1, g2, g3, g4, g5, g6, g7⟩ := h.step k v hk h0
      have hvq : v ≠ q := fun e => hq (e ▸ List.mem_of_getElem? hk)
      refine ⟨i', u', j', b', ?_, g2, g3, g4, g5, ?_, g7⟩
      · rw [List.getElem?_set, if_neg (fun e => hvq e.symm)]; exact g1
      · rw [List.getElem?_append_left (by omega)]; exact g6
    · obtain rfl : k = seen.length := by omega
      rw [List.getElem?_append_right (Nat.le_refl _), Nat.sub_self] at hk
      obtain rfl : q = v := by simpa using hk
      refine ⟨i, u, j, b, ?_, hi, hf, ht, hr, ?_, hjl⟩
      · rw [List.getElem?_set, if_pos rfl, if_pos (by rw [h.len]; exact hqN)]
      · rw [List.getElem?_append_left hjl]; exact hj
/-- All moves of the first p nodes have been looked at. -/
def Clo (l : List Ar) (seen : List Nat) (p : Nat) : Prop := ∀ j u, j < p → seen[j]? = some u → ∀ m q, mvFrom l m = some u → mvTo l m = some q → 0 < mvRoom l m → q ∈ seen
/-- The moves along the first i arcs from a node have been looked at. -/
def Par (l : List Ar) (seen : List Nat) (u i : Nat) : Prop := ∀ m q, m / 2 < i → mvFrom l m = some u → mvTo l m = some q → 0 < mvRoom l m → q ∈ seen
theorem Clo.more {seen' : List Nat} {p : Nat} (h : Clo l seen p) (hp : p ≤ seen.length) (hs : ∀ q, q ∈ seen → q ∈ seen') (hpre : ∀ j, j < seen.length → seen'[j]? = seen[j]?) : Clo l seen' p := fun j u hj hu m q h1 h2 h3 => hs q (h j u hj (by rw [← hpre j (by omega)]; exact hu) m q h1 h2 h3)
theorem Clo.next {p u : Nat} (h : Clo l seen p) (hu : seen[p]? = some u) (hp : Par l seen u l.length) : Clo l seen (p + 1) := fun j v hj hv m q h1 h2 h3 => by
  by_cases e : j < p
  · exact h j v e hv m q h1 h2 h3
  · obtain rfl : j = p := by omega
    rw [hu] at hv
    injection hv with hv
    subst hv
    obtain ⟨a, ha, -⟩ := mv_cases h1 h2
    exact hp m q (List.getElem?_eq_some_iff.1 ha).1 h1 h2 h3
theorem Par.zero (u : Nat) : Par l seen u 0 := fun m q h => absurd h (Nat.not_lt_zero _)
theorem Par.more {seen' : List Nat} {u i : Nat} (h : Par l seen u i) (hs : ∀ q, q ∈ seen → q ∈ seen') : Par l seen' u i := fun m q h0 h1 h2 h3 => hs q (h m q h0 h1 h2 h3)
theorem Par.next {u i : Nat} {a : Ar} (h : Par l seen u i) (ha : l[i]? = some a) (h1 : a.u = u → a.x < a.cap → a.v ∈ seen) (h2 : a.v = u → 0 < a.x → a.u ∈ seen) : Par l seen u (i + 1) := fun m q h0 g1 g2 g3 => by
  by_cases e : m / 2 < i
  · exact h m q e g1 g2 g3
  · have e2 : m / 2 = i := by omega
    obtain ⟨b, hb, hc⟩ := mv_cases g1 g2
    rw [e2, ha] at hb
    injection hb with hb
    subst hb
    rcases hc with ⟨-, c1, c2, c3⟩ | ⟨-, c1, c2, c3⟩
    · rw [c3] at g3; rw [← c2]; exact h1 c1 (by omega)
    · rw [c3] at g3; rw [← c2]; exact h2 c1 g3
theorem Srch.reach (h : Srch l s N B seen) : ∀ (k v : Nat), seen[k]? = some v → Reach l s v := by
  intro k
  induction k using Nat.strongRecOn with
  | ind k ih =>
    intro v hv
    rcases Nat.eq_zero_or_pos k with rfl | h0
    · rw [h.first] at hv
      injection hv with hv
      subst hv
      exact Reach.here
    · obtain ⟨i, u, j, b, -, -, g3, g4, g5, g6, g7⟩ := h.step k v hv h0
      exact reach_move g3 g4 g5 (ih j g7 u g6)
/-- What has been reached when nothing waits any more. -/
theorem Srch.done (h : Srch l s N B seen) (hc : Clo l seen seen.length) (n : Nat) : Reach l s n ↔ n ∈ seen := by
  constructor
  · intro hn
    refine reach_in (S := fun n => n ∈ seen) ?_ (fun m p q h1 h2 h3 hp => ?_) hn
    · exact List.mem_of_getElem? h.first
    · obtain ⟨j, hj⟩ := List.getElem?_of_mem hp
      exact hc j p (List.getElem?_eq_some_iff.1 hj).1 hj m q h1 h2 h3
  · intro hn
    obtain ⟨j, hj⟩ := List.getElem?_of_mem hn
    exact h.reach j n hj
end
end Go.Proofs.YtidpiokkfnhobaaGreat.v5

namespace Go.Proofs.YtidpiokkfnhobaaGreat.v5
open Go.RowKit Go.Shelf
set_option maxRecDepth 100000
set_option linter.unusedSimpArgs false
set_option linter.unusedVariables false

theorem wpList_append_q {w : World} {ops : Array Oper} {rest : List Oper} {o : Oper} {a : Act} {Q : Exit → Act → World → Prop}
    (hg : o.guard = none) (s x : Operand) (hop : o.op = Op.call { callee := Callee.builtin Builtin.append, args := #[s, x], argTypes := #[69, 69] })
    {v : Value} {q : List Int} {K : Nat → Prop} (h : QOwn w v q K) (hs : a.eval s = v) (b : Nat) (y : Int) (hx : a.eval x = .slice (some ⟨b, 0, none⟩) 1 1) (hc : w.cell? ⟨b, 0, none⟩ = some (.int .i64 y)) (hq : q.length ≤ 1000000)
    (hK : ∀ v' w', QOwn w' v' (q ++ [y]) (fun g => v.ownBlock = some g ∨ w.heap.size ≤ g) → Out (fun k => v.ownBlock = some k) w w' → wpList Tryz.prog ops Q rest (a.put o.dst v') w') :
    wpList Tryz.prog ops Q (o :: rest) a w := by
  refine wpList_plain hg fun K0 hK' => ?_
  obtain ⟨v', w', hrun, r1, r2⟩ := run_append_q h b y hc o.type hq
  unfold Oper.wp
  simp [execOp, hop, resolve, invoke, builtin, hs, hx, hrun, Result.andThen]
  exact hK' _ _ (hK v' w' r1 r2)
/-- Steps as cells. -/
def cellsT (l : List Stp) : List Value := l.flatMap fun x => [.int .i64 x.arc, .int .i64 x.src, .bool x.back, .bool x.is]
theorem cellsT_len (l : List Stp) : (cellsT l).length = l.length * 4 := by
  induction l with
  | nil => rfl
  | cons q l ih => show (cellsT l).length + 1 + 1 + 1 + 1 = _; rw [ih, List.length_cons]; omega
theorem cellsT_cons (q : Stp) (l : List Stp) : cellsT (q :: l) = .int .i64 q.arc :: .int .i64 q.src :: .bool q.back :: .bool q.is :: cellsT l := rfl
theorem cellsT_get (l : List Stp) : ∀ j x, l[j]? = some x → (cellsT l)[j * 4]? = some (.int .i64 x.arc) ∧ (cellsT l)[j * 4 + 1]? = some (.int .i64 x.src) ∧ (cellsT l)[j * 4 + 2]? = some (.bool x.back) ∧ (cellsT l)[j * 4 + 3]? = some (.bool x.is) := by
  induction l with
  | nil => intro j p h; simp at h
  | cons q l ih =>
    intro j p h
    cases j with
    | zero => simp at h; subst h; exact ⟨rfl, rfl, rfl, rfl⟩
    | succ j =>
      have := ih j p (by simpa using h)
      rw [show (j + 1) * 4 = j * 4 + 1 + 1 + 1 + 1 by omega]
      exact this
theorem cellsT_set (l : List Stp) : ∀ (j : Nat) (x : Stp), cellsT (l.set j x) = ((((cellsT l).set (j * 4) (.int .i64 x.arc)).set (j * 4 + 1) (.int .i64 x.src)).set (j * 4 + 2) (.bool x.back)).set (j * 4 + 3) (.bool x.is) := by
  induction l with
  | nil => intro j x; simp [cellsT]
  | cons q l ih =>
    intro j x
    cases j with
    | zero => rfl
    | succ j =>
      have e : (q :: l).set (j + 1) x = q :: l.set j x := rfl
      rw [e, cellsT_cons, cellsT_cons, ih, show (j + 1) * 4 = j * 4 + 1 + 1 + 1 + 1 by omega]
      rfl
def StpAt (w : World) (g : Nat) (B : List Stp) : Prop := w.heap[g]? = some (.cells (cellsT B).toArray 136 (0, 0))
section
variable {X Y : World} {g : Nat} {B : List Stp}
theorem StpAt.cells (h : StpAt X g B) {j : Nat} {x : Stp} (hj : B[j]? = some x) : X.cell? ⟨g, j * 4, none⟩ = some (.int .i64 x.arc) ∧ X.cell? ⟨g, j * 4 + 1, none⟩ = some (.int .i64 x.src) ∧ X.cell? ⟨g, j * 4 + 2, none⟩ = some (.bool x.back) ∧ X.cell? ⟨g, j * 4 + 3, none⟩ = some (.bool x.is) := by
  obtain ⟨c0, c1, c2, c3⟩ := cellsT_get B j x hj
  exact ⟨cell_of h (by simpa using c0), cell_of h (by simpa using c1), cell_of h (by simpa using c2), cell_of h (by simpa using c3)⟩
theorem StpAt.frz (h : StpAt X g B) (o : Nat) : X.frozen? ⟨g, o, none⟩ = false := by simp [World.frozen?, show X.heap[g]? = _ from h]
theorem StpAt.set (h : StpAt X g B) (j : Nat) (x : Stp) : StpAt ((((X.setCell ⟨g, j * 4, none⟩ (.int .i64 x.arc)).setCell ⟨g, j * 4 + 1, none⟩ (.int .i64 x.src)).setCell ⟨g, j * 4 + 2, none⟩ (.bool x.back)).setCell ⟨g, j * 4 + 3, none⟩ (.bool x.is)) g (B.set j x) := by
  unfold StpAt
  rw [cellsT_set]
  have h1 := row_set3 (i := j * 4) h (.int .i64 x.arc)
  have h2 := row_set3 (i := j * 4 + 1) h1 (.int .i64 x.src)
  have h3 := row_set3 (i := j * 4 + 2) h2 (.bool x.back)
  have h4 := row_set3 (i := j * 4 + 3) h3 (.bool x.is)
  rw [h4]
  simp
end
theorem step_info : (Tryz.prog.info? 136).map (fun i => (i.zero, i.size, i.bytes)) = some (some (.agg #[.int .i64 0, .int .i64 0, .bool false, .bool false]), 4, 24) := by kernel_rfl
theorem own_block4 {w : World} {base n g : Nat} {T : TypeId} {xs : List Value} (h : w.ownsRow base T 4 (.slice (some ⟨g, 0, none⟩) n n) n xs) : w.heap[g]? = some (.cells xs.toArray T (0, 0)) := by
  obtain ⟨k1, ⟨e, -⟩ | ⟨g', cap', cur, e, k3, k4, k5, k6, k7, k8⟩⟩ := h
  · cases e
  · injection e with e1 _ e2
    injection e1 with e1
    injection e1 with e1
    subst e1 e2
    rw [k4]
    have hl : cur.toList = xs := by rw [← k8, List.take_of_length_le (by simp [k7])]
    rw [← hl]
theorem made_steps (N : Nat) : (madeCells (Value.agg #[.int .i64 0, .int .i64 0, .bool false, .bool false]).cells (N * 4)).toList = cellsT (List.replicate N stp0) := by
  have e : (Value.agg #[.int .i64 0, .int .i64 0, .bool false, .bool false]).cells = #[.int .i64 0, .int .i64 0, .bool false, .bool false] := rfl
  rw [e]
  apply List.ext_getElem?
  intro j
  by_cases hj : j < N * 4
  · obtain ⟨q, r, hr, rfl⟩ : ∃ q r, r < 4 ∧ j = q * 4 + r := ⟨j / 4, j % 4, by omega, by omega⟩
    have hd : (List.replicate N stp0)[q]? = some stp0 := by rw [List.getElem?_replicate, if_pos (by omega)]
    obtain ⟨c0, c1, c2, c3⟩ := cellsT_get _ _ _ hd
    have hl0 : ∀ j, j < N * 4 → (madeCells #[.int .i64 0, .int .i64 0, .bool false, .bool false] (N * 4)).toList[j]? = some ((#[Value.int .i64 0, .int .i64 0, .bool false, .bool false])[j % 4]!) := fun j hj => by
      unfold madeCells
      rw [Array.getElem?_toList, Array.getElem?_map, Array.getElem?_range, if_pos hj]
      rfl
    have hl : (madeCells #[.int .i64 0, .int .i64 0, .bool false, .bool false] (N * 4)).toList[q * 4 + r]? = some ((#[Value.int .i64 0, .int .i64 0, .bool false, .bool false])[r]!) := by
      rw [hl0 _ hj, show (q * 4 + r) % 4 = r by omega]
    rw [hl]
    rcases (by omega : r = 0 ∨ r = 1 ∨ r = 2 ∨ r = 3) with rfl | rfl | rfl | rfl
    · rw [Nat.add_zero, c0]; rfl
    · rw [c1]; rfl
    · rw [c2]; rfl
    · rw [c3]; rfl
  · rw [List.getElem?_eq_none (by simp [madeCells]; omega), List.getElem?_eq_none (by rw [cellsT_len, List.length_replicate]; omega)]
end Go.Proofs.YtidpiokkfnhobaaGreat.v5
