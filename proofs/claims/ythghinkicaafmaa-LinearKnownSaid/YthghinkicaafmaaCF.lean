/-
  DERIVED. Acts by their slots; lists that are made (stage 6).
-/
import Derived.Test.YthghinkicaafmaaBT
import Derived.Laws.OwnMore
namespace Go.Proofs.Ythghinkicaafmaa
open Go.RowKit
set_option maxRecDepth 100000

theorem put_lt {d e : Nat} (h : e < d) (a : Act) (v u : Value) : (a.put (some d) v).put (some e) u = (a.put (some e) u).put (some d) v := by
  show ({ a with tmps := (a.tmps.setIfInBounds d v).setIfInBounds e u } : Act) = { a with tmps := (a.tmps.setIfInBounds e u).setIfInBounds d v }
  rw [Array.setIfInBounds_comm _ _ (by omega)]
theorem put_size (a : Act) (d : Nat) (v : Value) : (a.put (some d) v).tmps.size = a.tmps.size := by simp [Act.put]
theorem eval_put (a : Act) (d : Nat) (v : Value) (k : Nat) (h : d < a.tmps.size) : (a.put (some d) v).eval (.tmp k) = if k = d then v else a.eval (.tmp k) := by
  simp only [Act.put, Act.eval, Array.getD_eq_getD_getElem?]
  rw [Array.getElem?_setIfInBounds]
  by_cases e : k = d
  · subst e; rw [if_pos rfl, if_pos rfl, if_pos h]; rfl
  · rw [if_neg (fun h => e h.symm), if_neg e]
theorem alloc_below (w : World) (o : Obj) : Below w.heap.size w (w.alloc o) := (Below.refl _ _).alloc (Nat.le_refl _) _
theorem sl_info' : (Try.prog.info? 32).map (fun i => (i.zero, i.size, i.bytes)) = some (some (.slice none 0 0), 1, 24) := by kernel_rfl
def zc1001 : Array Value := madeCells (Value.int .i64 0).cells (1001 * 1)
def zc1000 : Array Value := madeCells (Value.int .i64 0).cells (1000 * 1)
def zc17 : Array Value := madeCells (Value.slice none 0 0).cells (17 * 1)
def zc16 : Array Value := madeCells (Value.slice none 0 0).cells (16 * 1)
theorem zc1001_list : zc1001.toList = (List.replicate 1001 (0 : Int)).map (fun x => Value.int .i64 x) := by
  show (madeCells #[Value.int .i64 0] 1001).toList = _
  rw [toList_madeCells_one, List.map_replicate]
theorem zc1000_list : zc1000.toList = (List.replicate 1000 (0 : Int)).map (fun x => Value.int .i64 x) := by
  show (madeCells #[Value.int .i64 0] 1000).toList = _
  rw [toList_madeCells_one, List.map_replicate]
theorem zc17_list : zc17.toList = List.replicate 17 (Value.slice none 0 0) := by
  show (madeCells #[Value.slice none 0 0] 17).toList = _
  rw [toList_madeCells_one]
theorem zc16_list : zc16.toList = List.replicate 16 (Value.slice none 0 0) := by
  show (madeCells #[Value.slice none 0 0] 16).toList = _
  rw [toList_madeCells_one]
theorem mk1001 : ∀ w : World, (Instr.makeSlice 32 (.int .i64 1001) (.int .i64 1001)).run Try.prog w = .ok (.slice (some ⟨w.heap.size, 0, none⟩) 1001 1001) (w.alloc (.cells zc1001 3)) := by
  obtain ⟨i0, hi0, hz0, hz1, hz2⟩ := info_parts int_info
  intro w
  have h := run_make (P := Try.prog) w 32 3 i0 (.int .i64 0) Try.underlying32 hi0 hz0 .i64 .i64 1001 1001 (by omega) (by omega) (by rw [hz2]; omega) (by omega)
  rw [hz1] at h
  exact h
theorem mk1000 : ∀ w : World, (Instr.makeSlice 32 (.int .i64 1000) (.int .i64 1000)).run Try.prog w = .ok (.slice (some ⟨w.heap.size, 0, none⟩) 1000 1000) (w.alloc (.cells zc1000 3)) := by
  obtain ⟨i0, hi0, hz0, hz1, hz2⟩ := info_parts int_info
  intro w
  have h := run_make (P := Try.prog) w 32 3 i0 (.int .i64 0) Try.underlying32 hi0 hz0 .i64 .i64 1000 1000 (by omega) (by omega) (by rw [hz2]; omega) (by omega)
  rw [hz1] at h
  exact h
theorem mk17 : ∀ w : World, (Instr.makeSlice 25 (.int .i64 17) (.int .i64 17)).run Try.prog w = .ok (.slice (some ⟨w.heap.size, 0, none⟩) 17 17) (w.alloc (.cells zc17 32)) := by
  obtain ⟨i0, hi0, hz0, hz1, hz2⟩ := info_parts sl_info'
  intro w
  have h := run_make (P := Try.prog) w 25 32 i0 (.slice none 0 0) Try.underlying25 hi0 hz0 .i64 .i64 17 17 (by omega) (by omega) (by rw [hz2]; omega) (by omega)
  rw [hz1] at h
  exact h
theorem mk16 : ∀ w : World, (Instr.makeSlice 25 (.int .i64 16) (.int .i64 16)).run Try.prog w = .ok (.slice (some ⟨w.heap.size, 0, none⟩) 16 16) (w.alloc (.cells zc16 32)) := by
  obtain ⟨i0, hi0, hz0, hz1, hz2⟩ := info_parts sl_info'
  intro w
  have h := run_make (P := Try.prog) w 25 32 i0 (.slice none 0 0) Try.underlying25 hi0 hz0 .i64 .i64 16 16 (by omega) (by omega) (by rw [hz2]; omega) (by omega)
  rw [hz1] at h
  exact h
theorem int_zeros (w : World) : IntSl (w.alloc (.cells zc1001 3)) (.slice (some ⟨w.heap.size, 0, none⟩) 1001 1001) (List.replicate 1001 0) := by
  have h := intSl_lit (List.replicate 1001 0) (heap_alloc_new w (.cells zc1001 3)) zc1001_list (by simp) (by simp)
  rw [List.length_replicate] at h
  exact h
theorem int_one (w : World) (z : Int) : IntSl (w.alloc (.cells #[.int .i64 z] 3)) (.slice (some ⟨w.heap.size, 0, none⟩) 1 1) [z] :=
  intSl_lit [z] (heap_alloc_new _ _) rfl (by simp) (by simp)
theorem li_zeros17 (w : World) : LiSl (w.alloc (.cells zc17 32)) (.slice (some ⟨w.heap.size, 0, none⟩) 17 17) (List.replicate 17 []) := by
  have h := liSl_lit (us := zc17.toList) (List.replicate 17 []) (by rw [Array.toArray_toList]; exact heap_alloc_new w (.cells zc17 32)) (by rw [zc17_list]; simp) (fun j u l hu hl => by
    rw [zc17_list] at hu
    rw [List.getElem?_replicate] at hu hl
    split at hu <;> simp_all
    obtain ⟨rfl⟩ := hl
    subst hu
    exact IntSl.nil _) (by simp)
  rw [List.length_replicate] at h
  exact h
theorem li_one {w : World} {x n : Nat} {l : List Int} (h : IntSl w (.slice (some ⟨x, 0, none⟩) n n) l) : LiSl (w.alloc (.cells #[.slice (some ⟨x, 0, none⟩) n n] 32)) (.slice (some ⟨w.heap.size, 0, none⟩) 1 1) [l] :=
  liSl_lit (us := [.slice (some ⟨x, 0, none⟩) n n]) [l] (heap_alloc_new _ _) rfl (fun j u l' hu hl => by
    match j with
    | 0 => simp at hu hl; subst hu hl; exact h.on (alloc_below _ _) (Nat.le_refl _)
    | j + 1 => simp at hu) (by simp)
theorem li_two {w : World} {x n : Nat} {l : List Int} (h : IntSl w (.slice (some ⟨x, 0, none⟩) n n) l) : LiSl (w.alloc (.cells #[.slice none 0 0, .slice (some ⟨x, 0, none⟩) n n] 32)) (.slice (some ⟨w.heap.size, 0, none⟩) 2 2) [[], l] :=
  liSl_lit (us := [.slice none 0 0, .slice (some ⟨x, 0, none⟩) n n]) [[], l] (heap_alloc_new _ _) rfl (fun j u l' hu hl => by
    match j with
    | 0 => simp at hu hl; subst hu hl; exact IntSl.nil _
    | 1 => simp at hu hl; subst hu hl; exact h.on (alloc_below _ _) (Nat.le_refl _)
    | j + 2 => simp at hu) (by simp)
end Go.Proofs.Ythghinkicaafmaa
