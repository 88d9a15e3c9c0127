/-
  DERIVED. The law LinearLater (stage 6).
-/
import Derived.Test.YthghinkicaafmaaBG
namespace Go.Proofs.Ythghinkicaafmaa
open Go.RowKit
set_option maxRecDepth 100000

theorem own_set {X : World} {base : Nat} {e : TypeId} {size n g cap i : Nat} {xs : List Value} {v : Value} (h : X.ownsRow base e size (.slice (some ⟨g, 0, none⟩) n cap) n xs) (_hi : i < n * size) :
    (X.setCell ⟨g, i, none⟩ v).ownsRow base e size (.slice (some ⟨g, 0, none⟩) n cap) n (xs.set i v) := by
  obtain ⟨k1, ⟨e0, -⟩ | ⟨g', cap', cur, e0, k3, k4, k5, k6, k7, k8⟩⟩ := h
  · cases e0
  · injection e0 with e1 _ e2
    injection e1 with e1
    injection e1 with e1
    subst e1 e2
    refine ⟨by rw [List.length_set]; exact k1, .inr ⟨g, cap, cur.setIfInBounds i v, rfl, k3, set_field k4 v, k5, k6, by rw [Array.size_setIfInBounds]; exact k7, ?_⟩⟩
    rw [Array.toList_setIfInBounds, List.take_set, k8]
theorem own_cells {X : World} {base : Nat} {e : TypeId} {size n g cap : Nat} {xs : List Value} (h : X.ownsRow base e size (.slice (some ⟨g, 0, none⟩) n cap) n xs) : ∀ i, i < n * size → X.frozen? ⟨g, i, none⟩ = false := by
  intro i hi
  obtain ⟨k1, ⟨e0, -⟩ | ⟨g', cap', cur, e0, k3, k4, k5, k6, k7, k8⟩⟩ := h
  · cases e0
  · injection e0 with e1 _ e2
    injection e1 with e1
    injection e1 with e1
    subst e1
    simp [World.frozen?, k4]
/-- What of made is left when its parts' block alone turns. -/
structure MdK (w1 : World) (g cap : Nat) (ins : List (List Int)) (I : Value) (l : List (Int × Int × Int)) (X : World) : Prop where
  row : X.ownsRow w1.heap.size 41 3 (.slice (some ⟨g, 0, none⟩) l.length cap) l.length (cellsP l)
  li : LiSl X I ins
theorem zeros_lvE {C : Int} (hC : 0 ≤ C) (k : Nat) : lvE C 0 (List.replicate k 0) = 0 := by
  have := lvE_zeros hC k []
  rw [List.append_nil] at this
  rw [this]; rfl
theorem later_get {C : Int} (hC : 0 ≤ C) (k : Nat) (am : List Int) (t : Nat) (ht : t ≤ k + am.length) : ((0 : Int) :: lvs C 0 (List.replicate k 0 ++ am))[t]? = some (if t < k then 0 else lvE C 0 (am.take (t - k))) := by
  rw [lvs_get C _ 0 t (by rw [List.length_append, List.length_replicate]; exact ht)]
  congr 1
  split
  · rename_i h
    rw [List.take_append_of_le_length (by rw [List.length_replicate]; omega), List.take_replicate, zeros_lvE hC]
  · rename_i h
    rw [List.take_append, List.length_replicate, List.take_of_length_le (by rw [List.length_replicate]; omega), lvE_zeros hC]
theorem mdP_shf (q0 q1 r0 r1 k : Int) : (mdP q0 q1 r0 r1).map (shf k) = mdP q0 q1 (r0 + k) (r1 + k) := rfl
end Go.Proofs.Ythghinkicaafmaa
