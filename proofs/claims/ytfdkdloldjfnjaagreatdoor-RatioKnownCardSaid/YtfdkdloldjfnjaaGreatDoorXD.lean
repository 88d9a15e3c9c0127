/-
  DERIVED. Limbs that are made and set one by one (RatioKnown).
-/
import Derived.Test.YtfdkdloldjfnjaaGreatDoorXB
import Derived.Laws.OwnMore
set_option linter.unusedVariables false
set_option linter.unusedSimpArgs false
namespace Go.Proofs.YtfdkdloldjfnjaaGreatDoor
open Go.RowKit Go.Shelf
set_option maxRecDepth 100000

def zc (n : Nat) : Array Value := madeCells (Value.int .u32 0).cells (n * 1)
theorem zc_list (n : Nat) : (zc n).toList = List.replicate n (Value.int .u32 0) := by
  show (madeCells #[Value.int .u32 0] (n * 1)).toList = _
  rw [toList_madeCells_one, Nat.mul_one]
theorem u32_info' : (Tryz.prog.info? 51).map (fun i => (i.zero, i.size, i.bytes)) = some (some (.int .u32 0), 1, 4) := by kernel_rfl
theorem mk_limbs (n : Nat) (h0 : n ≤ 100) : ∀ w : World, (Instr.makeSlice 23 (.int .i64 (n : Int)) (.int .i64 (n : Int))).run Tryz.prog w = .ok (.slice (some ⟨w.heap.size, 0, none⟩) n n) (w.alloc (.cells (zc n) 51)) := by
  obtain ⟨i0, hi0, hz0, hz1, hz2⟩ : ∃ i, Tryz.prog.info? 51 = some i ∧ i.zero = some (.int .u32 0) ∧ i.size = 1 ∧ i.bytes = 4 := by
    have h := u32_info'
    cases hi : Tryz.prog.info? 51 with
    | none => rw [hi] at h; simp at h
    | some i =>
      rw [hi] at h
      simp at h
      exact ⟨i, rfl, h.1, h.2.1, h.2.2⟩
  intro w
  have h := run_make (P := Tryz.prog) w 23 51 i0 (.int .u32 0) Tryz.underlying23 hi0 hz0 .i64 .i64 (n : Int) (n : Int) (by omega) (by omega) (by rw [hz2]; omega) (by omega)
  rw [hz1] at h
  have e : zc n = madeCells (Value.int .u32 0).cells n := by unfold zc; rw [Nat.mul_one]
  rw [e]
  simpa using h
def cK (k : Nat) : List Value := List.replicate k (.int .u32 4294967295) ++ List.replicate (32 - k) (.int .u32 0)
theorem cK_set {k : Nat} (hk : k < 32) : (cK k).set k (.int .u32 4294967295) = cK (k + 1) := by
  unfold cK
  rw [List.set_append_right _ _ (by simp), List.length_replicate, Nat.sub_self, show 32 - k = (31 - k) + 1 by omega, List.replicate_succ, List.set_cons_zero, show 32 - (k + 1) = 31 - k by omega, List.replicate_succ' (n := k), List.append_assoc]
  rfl
/-- The greatest number, whose first limbs are set. -/
def KR (w : World) (k : Nat) (X : World) : Prop :=
  Below w.heap.size w X ∧ X.heap[w.heap.size]? = some (.cells (cK k).toArray 51 (0, 0)) ∧ X.heap[w.heap.size + 1]? = some (.cells #[.int .u32 1] 51 (0, 0)) ∧
    X.heap[w.heap.size + 2]? = some (.cells #[.bool false, .slice (some ⟨w.heap.size, 0, none⟩) 32 32, .slice (some ⟨w.heap.size + 1, 0, none⟩) 1 1] 25 (0, 0))
theorem KR.start (w : World) : KR w 0 (((w.alloc (.cells (zc 32) 51)).alloc (.cells #[.int .u32 1] 51)).alloc (.cells #[.bool false, .slice (some ⟨w.heap.size, 0, none⟩) 32 32, .slice (some ⟨w.heap.size + 1, 0, none⟩) 1 1] 25)) := by
  obtain ⟨A, hA⟩ : ∃ A, A = w.alloc (.cells (zc 32) 51) := ⟨_, rfl⟩
  have a1 : A.heap[w.heap.size]? = some (.cells (zc 32) 51 (0, 0)) := by subst hA; exact heap_alloc_new _ _
  have a2 : A.heap.size = w.heap.size + 1 := by subst hA; simp
  have a3 : Below w.heap.size w A := by subst hA; exact (Below.refl _ _).alloc (Nat.le_refl _) _
  rw [← hA]
  obtain ⟨B, hB⟩ : ∃ B, B = A.alloc (.cells #[.int .u32 1] 51) := ⟨_, rfl⟩
  have b1 : B.heap[w.heap.size + 1]? = some (.cells #[.int .u32 1] 51 (0, 0)) := by subst hB; rw [← a2]; exact heap_alloc_new _ _
  have b2 : B.heap.size = w.heap.size + 2 := by subst hB; simp [a2]
  have b3 : Below A.heap.size A B := by subst hB; exact (Below.refl _ _).alloc (Nat.le_refl _) _
  rw [← hB]
  clear hA hB
  obtain ⟨C, hC⟩ : ∃ C, C = B.alloc (.cells #[.bool false, .slice (some ⟨w.heap.size, 0, none⟩) 32 32, .slice (some ⟨w.heap.size + 1, 0, none⟩) 1 1] 25) := ⟨_, rfl⟩
  have c1 : C.heap[w.heap.size + 2]? = some (.cells #[.bool false, .slice (some ⟨w.heap.size, 0, none⟩) 32 32, .slice (some ⟨w.heap.size + 1, 0, none⟩) 1 1] 25 (0, 0)) := by subst hC; rw [← b2]; exact heap_alloc_new _ _
  have c3 : Below B.heap.size B C := by subst hC; exact (Below.refl _ _).alloc (Nat.le_refl _) _
  rw [← hC]
  clear hC
  have hz : (zc 32) = (cK 0).toArray := by
    apply Array.toList_inj.1
    rw [zc_list]
    rfl
  rw [hz] at a1
  exact ⟨below_join (below_join a3 b3 (by omega)) c3 (by omega), (c3.block _ (by omega)).trans ((b3.block _ (by omega)).trans a1), (c3.block _ (by omega)).trans b1, c1⟩
theorem KR.cells {w X : World} {k : Nat} (h : KR w k X) : X.cell? ⟨w.heap.size + 2, 0, none⟩ = some (.bool false) ∧ X.cell? ⟨w.heap.size + 2, 1, none⟩ = some (.slice (some ⟨w.heap.size, 0, none⟩) 32 32) ∧ X.cell? ⟨w.heap.size + 2, 2, none⟩ = some (.slice (some ⟨w.heap.size + 1, 0, none⟩) 1 1) := three_cells h.2.2.2
theorem KR.at_ {w X : World} {k : Nat} (h : KR w k X) (hk : k < 32) : X.cell? ⟨w.heap.size, k, none⟩ = some (.int .u32 0) ∧ X.frozen? ⟨w.heap.size, k, none⟩ = false := by
  have h1 := h.2.1
  refine ⟨?_, by simp [World.frozen?, h1]⟩
  simp only [World.cell?, h1]
  unfold cK
  simp [List.getElem?_append_right]
  rw [show 32 - k = (31 - k) + 1 by omega, List.replicate_succ]
  rfl
theorem KR.step {w X : World} {k : Nat} (h : KR w k X) (hk : k < 32) : KR w (k + 1) (X.setCell ⟨w.heap.size, k, none⟩ (.int .u32 4294967295)) := by
  obtain ⟨h1, h2, h3, h4⟩ := h
  refine ⟨h1.setCell (p := ⟨w.heap.size, k, none⟩) (Nat.le_refl _) _, ?_, (Below.heap_setCell _ _ _ _ (by simp)).trans h3, (Below.heap_setCell _ _ _ _ (by simp)).trans h4⟩
  rw [row_set3 h2, ← cK_set hk]
  simp
theorem KR.done {w X : World} (h : KR w 32 X) : Bq X (w.heap.size + 2) kB (.slice (some ⟨w.heap.size, 0, none⟩) 32 32) (.slice (some ⟨w.heap.size + 1, 0, none⟩) 1 1) := by
  obtain ⟨h1, h2, h3, h4⟩ := h
  obtain ⟨p1, p2, p3⟩ := pB
  refine ⟨by rw [p1]; exact h4, ⟨⟨_, _, by rw [p1], ?_, ?_⟩, smBk⟩⟩
  · rw [p2, nat_big]
    refine ⟨_, 32, (by simp), (by simp), (by unfold maxLen; omega), fun _ => ⟨w.heap.size, 0, rfl, (Array.getElem?_eq_some_iff.1 h2).1, fun j x hj => ?_⟩⟩
    have hj' := hj
    rw [List.getElem?_replicate] at hj'
    split at hj'
    · injection hj' with hj'
      subst hj'
      have e : cK 32 = List.replicate 32 (.int .u32 4294967295) := by
        show List.replicate 32 _ ++ List.replicate (32 - 32) _ = _
        rw [Nat.sub_self]
        exact List.append_nil _
      simp only [World.cell?, h2, e, List.getElem?_toArray, Nat.zero_add, List.getElem?_replicate]
      rename_i hj32
      simp [hj32]
    · cases hj'
  · rw [p3, nat_one]
    refine ⟨_, 1, rfl, Nat.le_refl _, (by unfold maxLen; omega), fun _ => ⟨w.heap.size + 1, 0, rfl, (Array.getElem?_eq_some_iff.1 h3).1, fun j x hj => ?_⟩⟩
    match j with
    | 0 => simp at hj; subst hj; simp [World.cell?, h3]
    | k + 1 => simp at hj
end Go.Proofs.YtfdkdloldjfnjaaGreatDoor
