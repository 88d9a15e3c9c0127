/-
  DERIVED. Boxes and made lists for LinearKnown (stage 6).
-/
import Derived.Test.YthghinkicaafmaaCI
namespace Go.Proofs.Ythghinkicaafmaa
open Go.RowKit
set_option maxRecDepth 100000

/-- A line in its box. -/
def LnB (X : World) (b : Nat) (C : Int) (P : Value) : Prop := X.heap[b]? = some (.cells #[.int .i64 C, P] 24 (0, 0))
theorem LnB.on {X Y : World} {B b : Nat} {C : Int} {P : Value} (k : LnB X b C P) (hb : Below B X Y) (hB : b < B) : LnB Y b C P := (hb.block _ hB).trans k
theorem LnB.cells {X : World} {b : Nat} {C : Int} {P : Value} (k : LnB X b C P) : X.cell? ⟨b, 0, none⟩ = some (.int .i64 C) ∧ X.cell? ⟨b, 1, none⟩ = some P := lin_cells k
/-- Arguments in their box. -/
def ArC (X : World) (b : Nat) (s : Int) (I : Value) (n : Int) : Prop := X.heap[b]? = some (.cells #[.int .i64 0, .slice none 0 0, .int .i64 s, I, .int .i64 n, .int .i64 0, .int .i64 0] 27 (0, 0))
theorem ArC.on {X Y : World} {B b : Nat} {s n : Int} {I : Value} (k : ArC X b s I n) (hb : Below B X Y) (hB : b < B) : ArC Y b s I n := (hb.block _ hB).trans k
theorem ArC.cells {X : World} {b : Nat} {s n : Int} {I : Value} (k : ArC X b s I n) : X.cell? ⟨b, 2, none⟩ = some (.int .i64 s) ∧ X.cell? ⟨b, 3, none⟩ = some I ∧ X.cell? ⟨b, 4, none⟩ = some (.int .i64 n) := ⟨(args_cells k).2.2.1, (args_cells k).2.2.2.1, (args_cells k).2.2.2.2.1⟩
theorem li_7_56 (w : World) : LiSl (((w.alloc (.cells #[.int .i64 7] 3)).alloc (.cells #[.int .i64 5, .int .i64 6] 3)).alloc (.cells #[.slice (some ⟨w.heap.size, 0, none⟩) 1 1, .slice (some ⟨w.heap.size + 1, 0, none⟩) 2 2] 32)) (.slice (some ⟨w.heap.size + 1 + 1, 0, none⟩) 2 2) [[7], [5, 6]] := by
  have h1 : IntSl (((w.alloc (.cells #[.int .i64 7] 3)).alloc (.cells #[.int .i64 5, .int .i64 6] 3)).alloc (.cells #[.slice (some ⟨w.heap.size, 0, none⟩) 1 1, .slice (some ⟨w.heap.size + 1, 0, none⟩) 2 2] 32)) (.slice (some ⟨w.heap.size, 0, none⟩) 1 1) [7] := intSl_lit [7] (old_heap _ (old_heap _ (heap_alloc_new _ _))) rfl (by decide) (by decide)
  have h2 : IntSl (((w.alloc (.cells #[.int .i64 7] 3)).alloc (.cells #[.int .i64 5, .int .i64 6] 3)).alloc (.cells #[.slice (some ⟨w.heap.size, 0, none⟩) 1 1, .slice (some ⟨w.heap.size + 1, 0, none⟩) 2 2] 32)) (.slice (some ⟨w.heap.size + 1, 0, none⟩) 2 2) [5, 6] := intSl_lit [5, 6] (old_heap _ (row_new _ _ _ (by simp))) rfl (by decide) (by decide)
  refine liSl_lit (us := [.slice (some ⟨w.heap.size, 0, none⟩) 1 1, .slice (some ⟨w.heap.size + 1, 0, none⟩) 2 2]) [[7], [5, 6]] (row_new _ _ _ (by simp)) rfl (fun j u l hu hl => ?_) (by decide)
  match j, hu, hl with
  | 0, hu, hl => simp at hu hl; subst hu hl; exact h1
  | 1, hu, hl => simp at hu hl; subst hu hl; exact h2
/-- The world behind the seven lists of the odd lines, and what lies there. -/
def oddW (w : World) : World := (((((((w.alloc (.cells zp17 41)).alloc (.cells #[.int .i64 (-1), .int .i64 0, .int .i64 0] 41)).alloc (.cells #[.int .i64 16, .int .i64 0, .int .i64 0] 41)).alloc (.cells #[.int .i64 0, .int .i64 (-1), .int .i64 0] 41)).alloc (.cells #[.int .i64 0, .int .i64 1001, .int .i64 0] 41)).alloc (.cells #[.int .i64 0, .int .i64 0, .int .i64 (-1)] 41)).alloc (.cells #[.int .i64 0, .int .i64 0, .int .i64 1001] 41))
def oddX (w : World) : World := (oddW w).alloc (.cells #[.int .i64 (-1), .slice none 0 0, .int .i64 100000001, .slice none 0 0, .int .i64 0, .slice (some ⟨w.heap.size, 0, none⟩) 17 17, .int .i64 0, .slice (some ⟨w.heap.size + 1, 0, none⟩) 1 1, .int .i64 0, .slice (some ⟨w.heap.size + 1 + 1, 0, none⟩) 1 1, .int .i64 0, .slice (some ⟨w.heap.size + 1 + 1 + 1, 0, none⟩) 1 1, .int .i64 0, .slice (some ⟨w.heap.size + 1 + 1 + 1 + 1, 0, none⟩) 1 1, .int .i64 0, .slice (some ⟨w.heap.size + 1 + 1 + 1 + 1 + 1, 0, none⟩) 1 1, .int .i64 0, .slice (some ⟨w.heap.size + 1 + 1 + 1 + 1 + 1 + 1, 0, none⟩) 1 1] 24)
theorem oddX_below (w : World) : Below w.heap.size w (oddX w) := by
  unfold oddX oddW
  exact ((((((((Below.refl _ _).alloc (Nat.le_refl _) _).alloc (by simp) _).alloc (by simp; omega) _).alloc (by simp; omega) _).alloc (by simp; omega) _).alloc (by simp; omega) _).alloc (by simp; omega) _).alloc (by simp; omega) _
theorem odd_all (w : World) (k : Nat) (hk : k < 9) :
    ∃ (C : Int) (A : Option Addr) (m c : Nat) (ps : List (Int × Int × Int)), lnOk C ps = false ∧ (oddX w).cell? ⟨w.heap.size + 1 + 1 + 1 + 1 + 1 + 1 + 1, k * 2, none⟩ = some (.int .i64 C) ∧ (oddX w).cell? ⟨w.heap.size + 1 + 1 + 1 + 1 + 1 + 1 + 1, k * 2 + 1, none⟩ = some (.slice A m c) ∧ PtSl (oddX w) (.slice A m c) ps := by
  have hz : (oddW w).heap.size = w.heap.size + 1 + 1 + 1 + 1 + 1 + 1 + 1 := by unfold oddW; simp
  refine odd_line (X := oddX w) (o := w.heap.size) (T := 24) (row_new _ _ _ hz.symm) ?_ ?_ ?_ ?_ ?_ ?_ ?_ k hk
  all_goals (unfold oddX oddW)
  · exact old_heap _ (old_heap _ (old_heap _ (old_heap _ (old_heap _ (old_heap _ (old_heap _ (heap_alloc_new _ _)))))))
  · exact old_heap _ (old_heap _ (old_heap _ (old_heap _ (old_heap _ (old_heap _ (row_new _ _ _ (by simp)))))))
  · exact old_heap _ (old_heap _ (old_heap _ (old_heap _ (old_heap _ (row_new _ _ _ (by simp))))))
  · exact old_heap _ (old_heap _ (old_heap _ (old_heap _ (row_new _ _ _ (by simp)))))
  · exact old_heap _ (old_heap _ (old_heap _ (row_new _ _ _ (by simp))))
  · exact old_heap _ (old_heap _ (row_new _ _ _ (by simp)))
  · exact old_heap _ (row_new _ _ _ (by simp))
/-- The parts of the greatest line, the first k of them set. -/
def bgPk (k : Nat) : List (Int × Int × Int) := (List.range 16).map fun i : Nat => if i < k then ((i : Int), 1000, 0) else (0, 0, 0)
def bgC (k : Nat) : Array Value := (cellsP (bgPk k)).toArray
theorem bgC_size (k : Nat) : (bgC k).size = 48 := by
  unfold bgC
  rw [List.size_toArray, cellsP_len]
  unfold bgPk
  simp
theorem bgC_next (k : Nat) (hk : k < 16) : (((bgC k).setIfInBounds (k * 3) (.int .i64 (k : Int))).setIfInBounds (k * 3 + 1) (.int .i64 1000)).setIfInBounds (k * 3 + 2) (.int .i64 0) = bgC (k + 1) := by
  match k, hk with
  | 0, _ => show (_ : Array Value) = _; kernel_rfl
  | 1, _ => show (_ : Array Value) = _; kernel_rfl
  | 2, _ => show (_ : Array Value) = _; kernel_rfl
  | 3, _ => show (_ : Array Value) = _; kernel_rfl
  | 4, _ => show (_ : Array Value) = _; kernel_rfl
  | 5, _ => show (_ : Array Value) = _; kernel_rfl
  | 6, _ => show (_ : Array Value) = _; kernel_rfl
  | 7, _ => show (_ : Array Value) = _; kernel_rfl
  | 8, _ => show (_ : Array Value) = _; kernel_rfl
  | 9, _ => show (_ : Array Value) = _; kernel_rfl
  | 10, _ => show (_ : Array Value) = _; kernel_rfl
  | 11, _ => show (_ : Array Value) = _; kernel_rfl
  | 12, _ => show (_ : Array Value) = _; kernel_rfl
  | 13, _ => show (_ : Array Value) = _; kernel_rfl
  | 14, _ => show (_ : Array Value) = _; kernel_rfl
  | 15, _ => show (_ : Array Value) = _; kernel_rfl
  | k + 16, h => exact absurd h (by omega)
theorem bgC_zero : zp16 = bgC 0 := by kernel_rfl
theorem bgPk_all : bgPk 16 = bgP := by kernel_rfl
theorem bgC_cell {X : World} {b k : Nat} {T : TypeId} (h : X.heap[b]? = some (.cells (bgC k) T (0, 0))) (j : Nat) (hj : j < 48) : ∃ u, X.cell? ⟨b, j, none⟩ = some u := by
  refine ⟨(bgC k)[j]'(by rw [bgC_size]; exact hj), ?_⟩
  simp [World.cell?, h]
/-- A list of 1000 numbers, the first t of them the greatest. -/
def flM (t : Nat) : Array Value := (List.replicate t (Value.int .i64 100000000) ++ List.replicate (1000 - t) (Value.int .i64 0)).toArray
theorem flM_size (t : Nat) (h : t ≤ 1000) : (flM t).size = 1000 := by unfold flM; simp; omega
theorem flM_zero : zc1000 = flM 0 := by
  have h : zc1000.toList = (flM 0).toList := by rw [zc1000_list]; unfold flM; simp
  exact Array.toList_inj.1 h
theorem flM_next (t : Nat) (h : t < 1000) : (flM t).setIfInBounds t (.int .i64 100000000) = flM (t + 1) := by
  apply Array.toList_inj.1
  unfold flM
  rw [Array.toList_setIfInBounds]
  show (List.replicate t (Value.int .i64 100000000) ++ List.replicate (1000 - t) (Value.int .i64 0)).set t _ = List.replicate (t + 1) _ ++ List.replicate (1000 - (t + 1)) _
  rw [List.set_append_right _ _ (by simp), List.length_replicate, Nat.sub_self, show 1000 - t = (1000 - (t + 1)) + 1 by omega, List.replicate_succ, List.set_cons_zero, List.replicate_succ', List.append_assoc]
  rfl
theorem flM_cell {X : World} {b t : Nat} {T : TypeId} (h : X.heap[b]? = some (.cells (flM t) T (0, 0))) (ht : t < 1000) : ∃ u, X.cell? ⟨b, t, none⟩ = some u := by
  refine ⟨(flM t)[t]'(by rw [flM_size t (by omega)]; exact ht), ?_⟩
  simp [World.cell?, h]
theorem flM_int {X : World} {b : Nat} (h : X.heap[b]? = some (.cells (flM 1000) 3 (0, 0))) : IntSl X (.slice (some ⟨b, 0, none⟩) 1000 1000) (List.replicate 1000 100000000) := by
  have := intSl_lit (List.replicate 1000 100000000) h (by unfold flM; simp) (by simp) (by simp)
  rw [List.length_replicate] at this
  exact this
/-- The inputs of the greatest line, the first k of them made. -/
def InB (X : World) (c k : Nat) : Prop :=
  ∃ us : List Value, us.length = 16 ∧ X.heap[c]? = some (.cells us.toArray 32 (0, 0)) ∧ ∀ j, j < k → ∃ b, c < b ∧ us[j]? = some (.slice (some ⟨b, 0, none⟩) 1000 1000) ∧ X.heap[b]? = some (.cells (flM 1000) 3 (0, 0))
theorem InB.start (w : World) : InB (w.alloc (.cells zc16 32)) w.heap.size 0 :=
  ⟨zc16.toList, by rw [zc16_list]; simp, by rw [Array.toArray_toList]; exact heap_alloc_new _ _, fun j hj => absurd hj (Nat.not_lt_zero _)⟩
theorem InB.li {X : World} {c : Nat} (h : InB X c 16) : LiSl X (.slice (some ⟨c, 0, none⟩) 16 16) bgI := by
  obtain ⟨us, h1, h2, h3⟩ := h
  have := liSl_lit bgI h2 (by rw [h1]; unfold bgI; simp) (fun j u l hu hl => by
    have hj : j < 16 := by have := (List.getElem?_eq_some_iff.1 hu).1; omega
    obtain ⟨b, -, g1, g2⟩ := h3 j hj
    rw [hu] at g1
    injection g1 with g1
    subst g1
    unfold bgI at hl
    rw [List.getElem?_replicate, if_pos hj] at hl
    injection hl with hl
    subst hl
    exact flM_int g2) (by unfold bgI; simp)
  rw [show bgI.length = 16 by unfold bgI; simp] at this
  exact this
theorem InB.cell {X : World} {c k : Nat} (h : InB X c k) (j : Nat) (hj : j < 16) : ∃ u, X.cell? ⟨c, j, none⟩ = some u := by
  obtain ⟨us, h1, h2, -⟩ := h
  refine ⟨us[j]'(by omega), ?_⟩
  simp [World.cell?, h2]
theorem InB.frz {X : World} {c k : Nat} (h : InB X c k) (j : Nat) : X.frozen? ⟨c, j, none⟩ = false := by
  obtain ⟨us, h1, h2, -⟩ := h
  simp [World.frozen?, h2]
theorem InB.lt {X : World} {c k : Nat} (h : InB X c k) : c < X.heap.size := by
  obtain ⟨us, h1, h2, -⟩ := h
  exact at_lt h2
/-- One list more: made, stored, filled. -/
theorem InB.step {wr Y Z : World} {c k : Nat} (h : InB wr c k) (hk : k < 16) (hY : Y = (wr.alloc (.cells zc1000 3)).setCell ⟨c, k, none⟩ (.slice (some ⟨wr.heap.size, 0, none⟩) 1000 1000))
    (hZ : But wr.heap.size Y Z) (hf : Z.heap[wr.heap.size]? = some (.cells (flM 1000) 3 (0, 0))) : InB Z c (k + 1) := by
  have hlt := h.lt
  obtain ⟨us, h1, h2, h3⟩ := h
  have hc : Y.heap[c]? = some (.cells (us.set k (.slice (some ⟨wr.heap.size, 0, none⟩) 1000 1000)).toArray 32 (0, 0)) := by
    rw [hY]
    have := set_field (i := k) (old_heap (.cells zc1000 3) h2) (.slice (some ⟨wr.heap.size, 0, none⟩) 1000 1000)
    rw [this]
    simp
  refine ⟨us.set k (.slice (some ⟨wr.heap.size, 0, none⟩) 1000 1000), by simp [h1], hZ.same _ _ (by omega) hc, fun j hj => ?_⟩
  rcases Nat.lt_or_ge j k with hjk | hjk
  · obtain ⟨b, g1, g2, g3⟩ := h3 j hjk
    have hb := at_lt g3
    refine ⟨b, g1, by rw [List.getElem?_set_ne (by omega)]; exact g2, hZ.same _ _ (by omega) ?_⟩
    rw [hY]
    have hbt : But c (wr.alloc (.cells zc1000 3)) ((wr.alloc (.cells zc1000 3)).setCell ⟨c, k, none⟩ (.slice (some ⟨wr.heap.size, 0, none⟩) 1000 1000)) := But.store _ _
    exact hbt.same _ _ (by omega) (old_heap _ g3)
  · obtain rfl : j = k := by omega
    exact ⟨wr.heap.size, hlt, by rw [List.getElem?_set_self (by omega)], hf⟩
end Go.Proofs.Ythghinkicaafmaa
