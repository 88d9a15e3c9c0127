/-
  DERIVED. The fractions that are not valid, and the texts that are none (RatioKnown). (Written by gen/genXE.py.)
-/
import Derived.Test.YtfdkdloldjfnjaaGreatDoorXD
import Derived.Test.YtfdkdloldjfnjaaGreatDoorYTIm
set_option linter.unusedVariables false
set_option linter.unusedSimpArgs false
namespace Go.Proofs.YtfdkdloldjfnjaaGreatDoor
open Go.RowKit Go.Shelf
set_option maxRecDepth 100000

def OddAt (n : Nat) (X : World) : Prop := n < X.heap.size ∧ ∀ k, k < 7 → ∃ (s : Bool) (A : Option Addr) (m c : Nat) (B : Option Addr) (m' c' : Nat) (a b : List Nat), X.cell? ⟨n, k * 3, none⟩ = some (.bool s) ∧ X.cell? ⟨n, k * 3 + 1, none⟩ = some (.slice A m c) ∧ X.cell? ⟨n, k * 3 + 2, none⟩ = some (.slice B m' c') ∧ Fr0 X (.agg #[.bool s, .slice A m c, .slice B m' c']) s a b ∧ validB s a b = false
theorem OddAt.on {n : Nat} {X Y : World} (h : OddAt n X) (hb : Below X.heap.size X Y) : OddAt n Y := by
  refine ⟨Nat.lt_of_lt_of_le h.1 hb.size, fun k hk => ?_⟩
  obtain ⟨s, A, m, c, B, m', c', a, b, h1, h2, h3, h4, h5⟩ := h.2 k hk
  have e : ∀ o, Y.cell? ⟨n, o, none⟩ = X.cell? ⟨n, o, none⟩ := fun o => hb.cell (p := ⟨n, o, none⟩) h.1
  exact ⟨s, A, m, c, B, m', c', a, b, (e _).trans h1, (e _).trans h2, (e _).trans h3, h4.on hb, h5⟩
theorem lb_of {l : List Nat} (h : (l.all fun x => decide (x < BB)) = true) : Lb l := fun x hx => by simpa using List.all_eq_true.1 h x hx
theorem limb_sl {X : World} {b x : Nat} (h : X.heap[b]? = some (.cells #[.int .u32 (x : Int)] 51 (0, 0))) : NatSl X (fun i => i < X.heap.size) (.slice (some ⟨b, 0, none⟩) 1 1) [x] := by
  refine ⟨_, 1, rfl, Nat.le_refl _, (by unfold maxLen; omega), fun _ => ⟨b, 0, rfl, (Array.getElem?_eq_some_iff.1 h).1, fun j y hj => ?_⟩⟩
  match j with
  | 0 => simp at hj; subst hj; simp [World.cell?, h]
  | k + 1 => simp at hj
theorem limbs_sl {X : World} {b : Nat} (h : X.heap[b]? = some (.cells (((zc 33).setIfInBounds 32 (.int .u32 1))) 51 (0, 0))) : NatSl X (fun i => i < X.heap.size) (.slice (some ⟨b, 0, none⟩) 33 33) (List.replicate 32 0 ++ [1]) := by
  have e : ((zc 33).setIfInBounds 32 (.int .u32 1)).toList = (List.replicate 32 0 ++ [1]).map (fun x : Nat => Value.int .u32 (x : Int)) := by
    rw [Array.toList_setIfInBounds, zc_list]
    rfl
  refine ⟨_, 33, rfl, (by simp), (by unfold maxLen; omega), fun _ => ⟨b, 0, rfl, (Array.getElem?_eq_some_iff.1 h).1, fun j y hj => ?_⟩⟩
  have h2 : ((zc 33).setIfInBounds 32 (.int .u32 1)).toList[j]? = some (.int .u32 (y : Int)) := by rw [e, List.getElem?_map, hj]; rfl
  rw [Array.getElem?_toList] at h2
  simp only [World.cell?, h, Nat.zero_add]
  simpa using h2
set_option maxHeartbeats 2000000 in
theorem odd_made (w : World) : OddAt (w.heap.size + 9) (((((((((((w.alloc (.cells #[.int .u32 0] 51)).alloc (.cells #[.int .u32 1] 51)).alloc (.cells #[.int .u32 2] 51)).alloc (.cells #[.int .u32 4] 51)).alloc (.cells #[.int .u32 1] 51)).alloc (.cells (zc 33) 51)).alloc (.cells #[.int .u32 1] 51)).alloc (.cells #[.int .u32 1] 51)).alloc (.cells #[.int .u32 2] 51)).alloc (.cells #[.bool false, .slice none 0 0, .slice none 0 0, .bool false, .slice (some ⟨w.heap.size, 0, none⟩) 1 1, .slice (some ⟨w.heap.size + 1, 0, none⟩) 1 1, .bool false, .slice (some ⟨w.heap.size + 2, 0, none⟩) 1 1, .slice (some ⟨w.heap.size + 3, 0, none⟩) 1 1, .bool true, .slice none 0 0, .slice (some ⟨w.heap.size + 4, 0, none⟩) 1 1, .bool false, .slice (some ⟨w.heap.size + 5, 0, none⟩) 33 33, .slice (some ⟨w.heap.size + 6, 0, none⟩) 1 1, .bool false, .slice (some ⟨w.heap.size + 7, 0, none⟩) 1 1, .slice none 0 0, .bool false, .slice none 0 0, .slice (some ⟨w.heap.size + 8, 0, none⟩) 1 1] 25)).setCell ⟨w.heap.size + 5, 32, none⟩ (.int .u32 1)) ∧ Below w.heap.size w (((((((((((w.alloc (.cells #[.int .u32 0] 51)).alloc (.cells #[.int .u32 1] 51)).alloc (.cells #[.int .u32 2] 51)).alloc (.cells #[.int .u32 4] 51)).alloc (.cells #[.int .u32 1] 51)).alloc (.cells (zc 33) 51)).alloc (.cells #[.int .u32 1] 51)).alloc (.cells #[.int .u32 1] 51)).alloc (.cells #[.int .u32 2] 51)).alloc (.cells #[.bool false, .slice none 0 0, .slice none 0 0, .bool false, .slice (some ⟨w.heap.size, 0, none⟩) 1 1, .slice (some ⟨w.heap.size + 1, 0, none⟩) 1 1, .bool false, .slice (some ⟨w.heap.size + 2, 0, none⟩) 1 1, .slice (some ⟨w.heap.size + 3, 0, none⟩) 1 1, .bool true, .slice none 0 0, .slice (some ⟨w.heap.size + 4, 0, none⟩) 1 1, .bool false, .slice (some ⟨w.heap.size + 5, 0, none⟩) 33 33, .slice (some ⟨w.heap.size + 6, 0, none⟩) 1 1, .bool false, .slice (some ⟨w.heap.size + 7, 0, none⟩) 1 1, .slice none 0 0, .bool false, .slice none 0 0, .slice (some ⟨w.heap.size + 8, 0, none⟩) 1 1] 25)).setCell ⟨w.heap.size + 5, 32, none⟩ (.int .u32 1)) := by
  obtain ⟨W1, hW1⟩ : ∃ W, W = w.alloc (.cells #[.int .u32 0] 51) := ⟨_, rfl⟩
  have a1 : W1.heap[w.heap.size + 0]? = some (.cells #[.int .u32 0] 51 (0, 0)) := by subst hW1; exact heap_alloc_new _ _
  have z1 : W1.heap.size = w.heap.size + 1 := by subst hW1; simp
  have b1 : Below w.heap.size w W1 := by subst hW1; exact (Below.refl _ _).alloc (Nat.le_refl _) _
  rw [← hW1]
  clear hW1
  obtain ⟨W2, hW2⟩ : ∃ W, W = W1.alloc (.cells #[.int .u32 1] 51) := ⟨_, rfl⟩
  have a2 : W2.heap[w.heap.size + 1]? = some (.cells #[.int .u32 1] 51 (0, 0)) := by subst hW2; rw [← z1]; exact heap_alloc_new _ _
  have z2 : W2.heap.size = w.heap.size + 2 := by subst hW2; simp [z1]
  have b2 : Below W1.heap.size W1 W2 := by subst hW2; exact (Below.refl _ _).alloc (Nat.le_refl _) _
  rw [← hW2]
  clear hW2
  obtain ⟨W3, hW3⟩ : ∃ W, W = W2.alloc (.cells #[.int .u32 2] 51) := ⟨_, rfl⟩
  have a3 : W3.heap[w.heap.size + 2]? = some (.cells #[.int .u32 2] 51 (0, 0)) := by subst hW3; rw [← z2]; exact heap_alloc_new _ _
  have z3 : W3.heap.size = w.heap.size + 3 := by subst hW3; simp [z2]
  have b3 : Below W2.heap.size W2 W3 := by subst hW3; exact (Below.refl _ _).alloc (Nat.le_refl _) _
  rw [← hW3]
  clear hW3
  obtain ⟨W4, hW4⟩ : ∃ W, W = W3.alloc (.cells #[.int .u32 4] 51) := ⟨_, rfl⟩
  have a4 : W4.heap[w.heap.size + 3]? = some (.cells #[.int .u32 4] 51 (0, 0)) := by subst hW4; rw [← z3]; exact heap_alloc_new _ _
  have z4 : W4.heap.size = w.heap.size + 4 := by subst hW4; simp [z3]
  have b4 : Below W3.heap.size W3 W4 := by subst hW4; exact (Below.refl _ _).alloc (Nat.le_refl _) _
  rw [← hW4]
  clear hW4
  obtain ⟨W5, hW5⟩ : ∃ W, W = W4.alloc (.cells #[.int .u32 1] 51) := ⟨_, rfl⟩
  have a5 : W5.heap[w.heap.size + 4]? = some (.cells #[.int .u32 1] 51 (0, 0)) := by subst hW5; rw [← z4]; exact heap_alloc_new _ _
  have z5 : W5.heap.size = w.heap.size + 5 := by subst hW5; simp [z4]
  have b5 : Below W4.heap.size W4 W5 := by subst hW5; exact (Below.refl _ _).alloc (Nat.le_refl _) _
  rw [← hW5]
  clear hW5
  obtain ⟨W6, hW6⟩ : ∃ W, W = W5.alloc (.cells (zc 33) 51) := ⟨_, rfl⟩
  have a6 : W6.heap[w.heap.size + 5]? = some (.cells (zc 33) 51 (0, 0)) := by subst hW6; rw [← z5]; exact heap_alloc_new _ _
  have z6 : W6.heap.size = w.heap.size + 6 := by subst hW6; simp [z5]
  have b6 : Below W5.heap.size W5 W6 := by subst hW6; exact (Below.refl _ _).alloc (Nat.le_refl _) _
  rw [← hW6]
  clear hW6
  obtain ⟨W7, hW7⟩ : ∃ W, W = W6.alloc (.cells #[.int .u32 1] 51) := ⟨_, rfl⟩
  have a7 : W7.heap[w.heap.size + 6]? = some (.cells #[.int .u32 1] 51 (0, 0)) := by subst hW7; rw [← z6]; exact heap_alloc_new _ _
  have z7 : W7.heap.size = w.heap.size + 7 := by subst hW7; simp [z6]
  have b7 : Below W6.heap.size W6 W7 := by subst hW7; exact (Below.refl _ _).alloc (Nat.le_refl _) _
  rw [← hW7]
  clear hW7
  obtain ⟨W8, hW8⟩ : ∃ W, W = W7.alloc (.cells #[.int .u32 1] 51) := ⟨_, rfl⟩
  have a8 : W8.heap[w.heap.size + 7]? = some (.cells #[.int .u32 1] 51 (0, 0)) := by subst hW8; rw [← z7]; exact heap_alloc_new _ _
  have z8 : W8.heap.size = w.heap.size + 8 := by subst hW8; simp [z7]
  have b8 : Below W7.heap.size W7 W8 := by subst hW8; exact (Below.refl _ _).alloc (Nat.le_refl _) _
  rw [← hW8]
  clear hW8
  obtain ⟨W9, hW9⟩ : ∃ W, W = W8.alloc (.cells #[.int .u32 2] 51) := ⟨_, rfl⟩
  have a9 : W9.heap[w.heap.size + 8]? = some (.cells #[.int .u32 2] 51 (0, 0)) := by subst hW9; rw [← z8]; exact heap_alloc_new _ _
  have z9 : W9.heap.size = w.heap.size + 9 := by subst hW9; simp [z8]
  have b9 : Below W8.heap.size W8 W9 := by subst hW9; exact (Below.refl _ _).alloc (Nat.le_refl _) _
  rw [← hW9]
  clear hW9
  obtain ⟨W10, hW10⟩ : ∃ W, W = W9.alloc (.cells #[.bool false, .slice none 0 0, .slice none 0 0, .bool false, .slice (some ⟨w.heap.size, 0, none⟩) 1 1, .slice (some ⟨w.heap.size + 1, 0, none⟩) 1 1, .bool false, .slice (some ⟨w.heap.size + 2, 0, none⟩) 1 1, .slice (some ⟨w.heap.size + 3, 0, none⟩) 1 1, .bool true, .slice none 0 0, .slice (some ⟨w.heap.size + 4, 0, none⟩) 1 1, .bool false, .slice (some ⟨w.heap.size + 5, 0, none⟩) 33 33, .slice (some ⟨w.heap.size + 6, 0, none⟩) 1 1, .bool false, .slice (some ⟨w.heap.size + 7, 0, none⟩) 1 1, .slice none 0 0, .bool false, .slice none 0 0, .slice (some ⟨w.heap.size + 8, 0, none⟩) 1 1] 25) := ⟨_, rfl⟩
  have a10 : W10.heap[w.heap.size + 9]? = some (.cells #[.bool false, .slice none 0 0, .slice none 0 0, .bool false, .slice (some ⟨w.heap.size, 0, none⟩) 1 1, .slice (some ⟨w.heap.size + 1, 0, none⟩) 1 1, .bool false, .slice (some ⟨w.heap.size + 2, 0, none⟩) 1 1, .slice (some ⟨w.heap.size + 3, 0, none⟩) 1 1, .bool true, .slice none 0 0, .slice (some ⟨w.heap.size + 4, 0, none⟩) 1 1, .bool false, .slice (some ⟨w.heap.size + 5, 0, none⟩) 33 33, .slice (some ⟨w.heap.size + 6, 0, none⟩) 1 1, .bool false, .slice (some ⟨w.heap.size + 7, 0, none⟩) 1 1, .slice none 0 0, .bool false, .slice none 0 0, .slice (some ⟨w.heap.size + 8, 0, none⟩) 1 1] 25 (0, 0)) := by subst hW10; rw [← z9]; exact heap_alloc_new _ _
  have z10 : W10.heap.size = w.heap.size + 10 := by subst hW10; simp [z9]
  have b10 : Below W9.heap.size W9 W10 := by subst hW10; exact (Below.refl _ _).alloc (Nat.le_refl _) _
  rw [← hW10]
  clear hW10
  obtain ⟨X, hX⟩ : ∃ X, X = W10.setCell ⟨w.heap.size + 5, 32, none⟩ (.int .u32 1) := ⟨_, rfl⟩
  rw [← hX]
  have zX : X.heap.size = w.heap.size + 10 := by subst hX; simpa [World.setCell] using z10
  have bw : Below w.heap.size w W10 := by
    have c2 := below_join b1 b2 (by omega)
    have c3 := below_join c2 b3 (by omega)
    have c4 := below_join c3 b4 (by omega)
    have c5 := below_join c4 b5 (by omega)
    have c6 := below_join c5 b6 (by omega)
    have c7 := below_join c6 b7 (by omega)
    have c8 := below_join c7 b8 (by omega)
    have c9 := below_join c8 b9 (by omega)
    have c10 := below_join c9 b10 (by omega)
    exact c10
  have d0 := (show X.heap[w.heap.size + 0]? = _ by subst hX; exact (Below.heap_setCell _ _ _ _ (by show w.heap.size + 0 ≠ w.heap.size + 5; omega)).trans ((b10.block _ (by omega)).trans ((b9.block _ (by omega)).trans ((b8.block _ (by omega)).trans ((b7.block _ (by omega)).trans ((b6.block _ (by omega)).trans ((b5.block _ (by omega)).trans ((b4.block _ (by omega)).trans ((b3.block _ (by omega)).trans ((b2.block _ (by omega)).trans a1))))))))))
  have d1 := (show X.heap[w.heap.size + 1]? = _ by subst hX; exact (Below.heap_setCell _ _ _ _ (by show w.heap.size + 1 ≠ w.heap.size + 5; omega)).trans ((b10.block _ (by omega)).trans ((b9.block _ (by omega)).trans ((b8.block _ (by omega)).trans ((b7.block _ (by omega)).trans ((b6.block _ (by omega)).trans ((b5.block _ (by omega)).trans ((b4.block _ (by omega)).trans ((b3.block _ (by omega)).trans a2)))))))))
  have d2 := (show X.heap[w.heap.size + 2]? = _ by subst hX; exact (Below.heap_setCell _ _ _ _ (by show w.heap.size + 2 ≠ w.heap.size + 5; omega)).trans ((b10.block _ (by omega)).trans ((b9.block _ (by omega)).trans ((b8.block _ (by omega)).trans ((b7.block _ (by omega)).trans ((b6.block _ (by omega)).trans ((b5.block _ (by omega)).trans ((b4.block _ (by omega)).trans a3))))))))
  have d3 := (show X.heap[w.heap.size + 3]? = _ by subst hX; exact (Below.heap_setCell _ _ _ _ (by show w.heap.size + 3 ≠ w.heap.size + 5; omega)).trans ((b10.block _ (by omega)).trans ((b9.block _ (by omega)).trans ((b8.block _ (by omega)).trans ((b7.block _ (by omega)).trans ((b6.block _ (by omega)).trans ((b5.block _ (by omega)).trans a4)))))))
  have d4 := (show X.heap[w.heap.size + 4]? = _ by subst hX; exact (Below.heap_setCell _ _ _ _ (by show w.heap.size + 4 ≠ w.heap.size + 5; omega)).trans ((b10.block _ (by omega)).trans ((b9.block _ (by omega)).trans ((b8.block _ (by omega)).trans ((b7.block _ (by omega)).trans ((b6.block _ (by omega)).trans a5))))))
  have d6 := (show X.heap[w.heap.size + 6]? = _ by subst hX; exact (Below.heap_setCell _ _ _ _ (by show w.heap.size + 6 ≠ w.heap.size + 5; omega)).trans ((b10.block _ (by omega)).trans ((b9.block _ (by omega)).trans ((b8.block _ (by omega)).trans a7))))
  have d7 := (show X.heap[w.heap.size + 7]? = _ by subst hX; exact (Below.heap_setCell _ _ _ _ (by show w.heap.size + 7 ≠ w.heap.size + 5; omega)).trans ((b10.block _ (by omega)).trans ((b9.block _ (by omega)).trans a8)))
  have d8 := (show X.heap[w.heap.size + 8]? = _ by subst hX; exact (Below.heap_setCell _ _ _ _ (by show w.heap.size + 8 ≠ w.heap.size + 5; omega)).trans ((b10.block _ (by omega)).trans a9))
  have d9 := (show X.heap[w.heap.size + 9]? = _ by subst hX; exact (Below.heap_setCell _ _ _ _ (by show w.heap.size + 9 ≠ w.heap.size + 5; omega)).trans a10)
  have d5 : X.heap[w.heap.size + 5]? = some (.cells ((zc 33).setIfInBounds 32 (.int .u32 1)) 51 (0, 0)) := by subst hX; exact row_set3 ((b10.block _ (by omega)).trans ((b9.block _ (by omega)).trans ((b8.block _ (by omega)).trans ((b7.block _ (by omega)).trans a6)))) _
  refine ⟨⟨by omega, fun k hk => ?_⟩, by subst hX; exact bw.setCell (p := ⟨w.heap.size + 5, 32, none⟩) (Nat.le_add_right _ _) _⟩
  have hc : ∀ i v, (#[.bool false, .slice none 0 0, .slice none 0 0, .bool false, .slice (some ⟨w.heap.size, 0, none⟩) 1 1, .slice (some ⟨w.heap.size + 1, 0, none⟩) 1 1, .bool false, .slice (some ⟨w.heap.size + 2, 0, none⟩) 1 1, .slice (some ⟨w.heap.size + 3, 0, none⟩) 1 1, .bool true, .slice none 0 0, .slice (some ⟨w.heap.size + 4, 0, none⟩) 1 1, .bool false, .slice (some ⟨w.heap.size + 5, 0, none⟩) 33 33, .slice (some ⟨w.heap.size + 6, 0, none⟩) 1 1, .bool false, .slice (some ⟨w.heap.size + 7, 0, none⟩) 1 1, .slice none 0 0, .bool false, .slice none 0 0, .slice (some ⟨w.heap.size + 8, 0, none⟩) 1 1] : Array Value)[i]? = some v → X.cell? ⟨w.heap.size + 9, i, none⟩ = some v := by
    intro i v hv
    simp only [World.cell?, d9]
    simpa using hv
  match k, hk with
  | 0, _ => exact ⟨false, _, _, _, _, _, _, [], [], hc 0 _ rfl, hc 1 _ rfl, hc 2 _ rfl, ⟨_, _, rfl, NatSl.nil _ _, NatSl.nil _ _, lb_of (by decide +kernel), lb_of (by decide +kernel), by decide +kernel, by decide +kernel⟩, by decide +kernel⟩
  | 1, _ => exact ⟨false, _, _, _, _, _, _, [0], [1], hc 3 _ rfl, hc 4 _ rfl, hc 5 _ rfl, ⟨_, _, rfl, limb_sl d0, limb_sl d1, lb_of (by decide +kernel), lb_of (by decide +kernel), by decide +kernel, by decide +kernel⟩, by decide +kernel⟩
  | 2, _ => exact ⟨false, _, _, _, _, _, _, [2], [4], hc 6 _ rfl, hc 7 _ rfl, hc 8 _ rfl, ⟨_, _, rfl, limb_sl d2, limb_sl d3, lb_of (by decide +kernel), lb_of (by decide +kernel), by decide +kernel, by decide +kernel⟩, by decide +kernel⟩
  | 3, _ => exact ⟨true, _, _, _, _, _, _, [], [1], hc 9 _ rfl, hc 10 _ rfl, hc 11 _ rfl, ⟨_, _, rfl, NatSl.nil _ _, limb_sl d4, lb_of (by decide +kernel), lb_of (by decide +kernel), by decide +kernel, by decide +kernel⟩, by decide +kernel⟩
  | 4, _ => exact ⟨false, _, _, _, _, _, _, (List.replicate 32 0 ++ [1]), [1], hc 12 _ rfl, hc 13 _ rfl, hc 14 _ rfl, ⟨_, _, rfl, limbs_sl d5, limb_sl d6, lb_of (by decide +kernel), lb_of (by decide +kernel), by decide +kernel, by decide +kernel⟩, by decide +kernel⟩
  | 5, _ => exact ⟨false, _, _, _, _, _, _, [1], [], hc 15 _ rfl, hc 16 _ rfl, hc 17 _ rfl, ⟨_, _, rfl, limb_sl d7, NatSl.nil _ _, lb_of (by decide +kernel), lb_of (by decide +kernel), by decide +kernel, by decide +kernel⟩, by decide +kernel⟩
  | 6, _ => exact ⟨false, _, _, _, _, _, _, [], [2], hc 18 _ rfl, hc 19 _ rfl, hc 20 _ rfl, ⟨_, _, rfl, NatSl.nil _ _, limb_sl d8, lb_of (by decide +kernel), lb_of (by decide +kernel), by decide +kernel, by decide +kernel⟩, by decide +kernel⟩
set_option maxHeartbeats 2000000 in
theorem odd_before (w : World) : (((((((((((w.alloc (.cells #[.int .u32 0] 51)).alloc (.cells #[.int .u32 1] 51)).alloc (.cells #[.int .u32 2] 51)).alloc (.cells #[.int .u32 4] 51)).alloc (.cells #[.int .u32 1] 51)).alloc (.cells (zc 33) 51)).alloc (.cells #[.int .u32 1] 51)).alloc (.cells #[.int .u32 1] 51)).alloc (.cells #[.int .u32 2] 51)).alloc (.cells #[.bool false, .slice none 0 0, .slice none 0 0, .bool false, .slice (some ⟨w.heap.size, 0, none⟩) 1 1, .slice (some ⟨w.heap.size + 1, 0, none⟩) 1 1, .bool false, .slice (some ⟨w.heap.size + 2, 0, none⟩) 1 1, .slice (some ⟨w.heap.size + 3, 0, none⟩) 1 1, .bool true, .slice none 0 0, .slice (some ⟨w.heap.size + 4, 0, none⟩) 1 1, .bool false, .slice (some ⟨w.heap.size + 5, 0, none⟩) 33 33, .slice (some ⟨w.heap.size + 6, 0, none⟩) 1 1, .bool false, .slice (some ⟨w.heap.size + 7, 0, none⟩) 1 1, .slice none 0 0, .bool false, .slice none 0 0, .slice (some ⟨w.heap.size + 8, 0, none⟩) 1 1] 25))).cell? ⟨w.heap.size + 9, 13, none⟩ = some (.slice (some ⟨w.heap.size + 5, 0, none⟩) 33 33) ∧ (((((((((((w.alloc (.cells #[.int .u32 0] 51)).alloc (.cells #[.int .u32 1] 51)).alloc (.cells #[.int .u32 2] 51)).alloc (.cells #[.int .u32 4] 51)).alloc (.cells #[.int .u32 1] 51)).alloc (.cells (zc 33) 51)).alloc (.cells #[.int .u32 1] 51)).alloc (.cells #[.int .u32 1] 51)).alloc (.cells #[.int .u32 2] 51)).alloc (.cells #[.bool false, .slice none 0 0, .slice none 0 0, .bool false, .slice (some ⟨w.heap.size, 0, none⟩) 1 1, .slice (some ⟨w.heap.size + 1, 0, none⟩) 1 1, .bool false, .slice (some ⟨w.heap.size + 2, 0, none⟩) 1 1, .slice (some ⟨w.heap.size + 3, 0, none⟩) 1 1, .bool true, .slice none 0 0, .slice (some ⟨w.heap.size + 4, 0, none⟩) 1 1, .bool false, .slice (some ⟨w.heap.size + 5, 0, none⟩) 33 33, .slice (some ⟨w.heap.size + 6, 0, none⟩) 1 1, .bool false, .slice (some ⟨w.heap.size + 7, 0, none⟩) 1 1, .slice none 0 0, .bool false, .slice none 0 0, .slice (some ⟨w.heap.size + 8, 0, none⟩) 1 1] 25))).cell? ⟨w.heap.size + 5, 32, none⟩ = some (.int .u32 0) ∧ (((((((((((w.alloc (.cells #[.int .u32 0] 51)).alloc (.cells #[.int .u32 1] 51)).alloc (.cells #[.int .u32 2] 51)).alloc (.cells #[.int .u32 4] 51)).alloc (.cells #[.int .u32 1] 51)).alloc (.cells (zc 33) 51)).alloc (.cells #[.int .u32 1] 51)).alloc (.cells #[.int .u32 1] 51)).alloc (.cells #[.int .u32 2] 51)).alloc (.cells #[.bool false, .slice none 0 0, .slice none 0 0, .bool false, .slice (some ⟨w.heap.size, 0, none⟩) 1 1, .slice (some ⟨w.heap.size + 1, 0, none⟩) 1 1, .bool false, .slice (some ⟨w.heap.size + 2, 0, none⟩) 1 1, .slice (some ⟨w.heap.size + 3, 0, none⟩) 1 1, .bool true, .slice none 0 0, .slice (some ⟨w.heap.size + 4, 0, none⟩) 1 1, .bool false, .slice (some ⟨w.heap.size + 5, 0, none⟩) 33 33, .slice (some ⟨w.heap.size + 6, 0, none⟩) 1 1, .bool false, .slice (some ⟨w.heap.size + 7, 0, none⟩) 1 1, .slice none 0 0, .bool false, .slice none 0 0, .slice (some ⟨w.heap.size + 8, 0, none⟩) 1 1] 25))).frozen? ⟨w.heap.size + 5, 32, none⟩ = false := by
  obtain ⟨W1, hW1⟩ : ∃ W, W = w.alloc (.cells #[.int .u32 0] 51) := ⟨_, rfl⟩
  have a1 : W1.heap[w.heap.size + 0]? = some (.cells #[.int .u32 0] 51 (0, 0)) := by subst hW1; exact heap_alloc_new _ _
  have z1 : W1.heap.size = w.heap.size + 1 := by subst hW1; simp
  have b1 : Below w.heap.size w W1 := by subst hW1; exact (Below.refl _ _).alloc (Nat.le_refl _) _
  rw [← hW1]
  clear hW1
  obtain ⟨W2, hW2⟩ : ∃ W, W = W1.alloc (.cells #[.int .u32 1] 51) := ⟨_, rfl⟩
  have a2 : W2.heap[w.heap.size + 1]? = some (.cells #[.int .u32 1] 51 (0, 0)) := by subst hW2; rw [← z1]; exact heap_alloc_new _ _
  have z2 : W2.heap.size = w.heap.size + 2 := by subst hW2; simp [z1]
  have b2 : Below W1.heap.size W1 W2 := by subst hW2; exact (Below.refl _ _).alloc (Nat.le_refl _) _
  rw [← hW2]
  clear hW2
  obtain ⟨W3, hW3⟩ : ∃ W, W = W2.alloc (.cells #[.int .u32 2] 51) := ⟨_, rfl⟩
  have a3 : W3.heap[w.heap.size + 2]? = some (.cells #[.int .u32 2] 51 (0, 0)) := by subst hW3; rw [← z2]; exact heap_alloc_new _ _
  have z3 : W3.heap.size = w.heap.size + 3 := by subst hW3; simp [z2]
  have b3 : Below W2.heap.size W2 W3 := by subst hW3; exact (Below.refl _ _).alloc (Nat.le_refl _) _
  rw [← hW3]
  clear hW3
  obtain ⟨W4, hW4⟩ : ∃ W, W = W3.alloc (.cells #[.int .u32 4] 51) := ⟨_, rfl⟩
  have a4 : W4.heap[w.heap.size + 3]? = some (.cells #[.int .u32 4] 51 (0, 0)) := by subst hW4; rw [← z3]; exact heap_alloc_new _ _
  have z4 : W4.heap.size = w.heap.size + 4 := by subst hW4; simp [z3]
  have b4 : Below W3.heap.size W3 W4 := by subst hW4; exact (Below.refl _ _).alloc (Nat.le_refl _) _
  rw [← hW4]
  clear hW4
  obtain ⟨W5, hW5⟩ : ∃ W, W = W4.alloc (.cells #[.int .u32 1] 51) := ⟨_, rfl⟩
  have a5 : W5.heap[w.heap.size + 4]? = some (.cells #[.int .u32 1] 51 (0, 0)) := by subst hW5; rw [← z4]; exact heap_alloc_new _ _
  have z5 : W5.heap.size = w.heap.size + 5 := by subst hW5; simp [z4]
  have b5 : Below W4.heap.size W4 W5 := by subst hW5; exact (Below.refl _ _).alloc (Nat.le_refl _) _
  rw [← hW5]
  clear hW5
  obtain ⟨W6, hW6⟩ : ∃ W, W = W5.alloc (.cells (zc 33) 51) := ⟨_, rfl⟩
  have a6 : W6.heap[w.heap.size + 5]? = some (.cells (zc 33) 51 (0, 0)) := by subst hW6; rw [← z5]; exact heap_alloc_new _ _
  have z6 : W6.heap.size = w.heap.size + 6 := by subst hW6; simp [z5]
  have b6 : Below W5.heap.size W5 W6 := by subst hW6; exact (Below.refl _ _).alloc (Nat.le_refl _) _
  rw [← hW6]
  clear hW6
  obtain ⟨W7, hW7⟩ : ∃ W, W = W6.alloc (.cells #[.int .u32 1] 51) := ⟨_, rfl⟩
  have a7 : W7.heap[w.heap.size + 6]? = some (.cells #[.int .u32 1] 51 (0, 0)) := by subst hW7; rw [← z6]; exact heap_alloc_new _ _
  have z7 : W7.heap.size = w.heap.size + 7 := by subst hW7; simp [z6]
  have b7 : Below W6.heap.size W6 W7 := by subst hW7; exact (Below.refl _ _).alloc (Nat.le_refl _) _
  rw [← hW7]
  clear hW7
  obtain ⟨W8, hW8⟩ : ∃ W, W = W7.alloc (.cells #[.int .u32 1] 51) := ⟨_, rfl⟩
  have a8 : W8.heap[w.heap.size + 7]? = some (.cells #[.int .u32 1] 51 (0, 0)) := by subst hW8; rw [← z7]; exact heap_alloc_new _ _
  have z8 : W8.heap.size = w.heap.size + 8 := by subst hW8; simp [z7]
  have b8 : Below W7.heap.size W7 W8 := by subst hW8; exact (Below.refl _ _).alloc (Nat.le_refl _) _
  rw [← hW8]
  clear hW8
  obtain ⟨W9, hW9⟩ : ∃ W, W = W8.alloc (.cells #[.int .u32 2] 51) := ⟨_, rfl⟩
  have a9 : W9.heap[w.heap.size + 8]? = some (.cells #[.int .u32 2] 51 (0, 0)) := by subst hW9; rw [← z8]; exact heap_alloc_new _ _
  have z9 : W9.heap.size = w.heap.size + 9 := by subst hW9; simp [z8]
  have b9 : Below W8.heap.size W8 W9 := by subst hW9; exact (Below.refl _ _).alloc (Nat.le_refl _) _
  rw [← hW9]
  clear hW9
  obtain ⟨W10, hW10⟩ : ∃ W, W = W9.alloc (.cells #[.bool false, .slice none 0 0, .slice none 0 0, .bool false, .slice (some ⟨w.heap.size, 0, none⟩) 1 1, .slice (some ⟨w.heap.size + 1, 0, none⟩) 1 1, .bool false, .slice (some ⟨w.heap.size + 2, 0, none⟩) 1 1, .slice (some ⟨w.heap.size + 3, 0, none⟩) 1 1, .bool true, .slice none 0 0, .slice (some ⟨w.heap.size + 4, 0, none⟩) 1 1, .bool false, .slice (some ⟨w.heap.size + 5, 0, none⟩) 33 33, .slice (some ⟨w.heap.size + 6, 0, none⟩) 1 1, .bool false, .slice (some ⟨w.heap.size + 7, 0, none⟩) 1 1, .slice none 0 0, .bool false, .slice none 0 0, .slice (some ⟨w.heap.size + 8, 0, none⟩) 1 1] 25) := ⟨_, rfl⟩
  have a10 : W10.heap[w.heap.size + 9]? = some (.cells #[.bool false, .slice none 0 0, .slice none 0 0, .bool false, .slice (some ⟨w.heap.size, 0, none⟩) 1 1, .slice (some ⟨w.heap.size + 1, 0, none⟩) 1 1, .bool false, .slice (some ⟨w.heap.size + 2, 0, none⟩) 1 1, .slice (some ⟨w.heap.size + 3, 0, none⟩) 1 1, .bool true, .slice none 0 0, .slice (some ⟨w.heap.size + 4, 0, none⟩) 1 1, .bool false, .slice (some ⟨w.heap.size + 5, 0, none⟩) 33 33, .slice (some ⟨w.heap.size + 6, 0, none⟩) 1 1, .bool false, .slice (some ⟨w.heap.size + 7, 0, none⟩) 1 1, .slice none 0 0, .bool false, .slice none 0 0, .slice (some ⟨w.heap.size + 8, 0, none⟩) 1 1] 25 (0, 0)) := by subst hW10; rw [← z9]; exact heap_alloc_new _ _
  have z10 : W10.heap.size = w.heap.size + 10 := by subst hW10; simp [z9]
  have b10 : Below W9.heap.size W9 W10 := by subst hW10; exact (Below.refl _ _).alloc (Nat.le_refl _) _
  rw [← hW10]
  clear hW10
  have e5 := ((b10.block _ (by omega)).trans ((b9.block _ (by omega)).trans ((b8.block _ (by omega)).trans ((b7.block _ (by omega)).trans a6))))
  refine ⟨?_, ?_, ?_⟩
  · simp only [World.cell?, a10]; rfl
  · simp only [World.cell?, e5]; rw [if_neg (by simp), ← Array.getElem?_toList, zc_list]; rfl
  · simp [World.frozen?, e5]
def TxAt (n : Nat) (X : World) : Prop := n < X.heap.size ∧ ∀ k, k < 16 → ∃ l : List UInt8, X.cell? ⟨n, k, none⟩ = some (.string (str l)) ∧ readP l = none ∧ l.length < 4294967281
theorem TxAt.on {n : Nat} {X Y : World} (h : TxAt n X) (hb : Below X.heap.size X Y) : TxAt n Y := by
  refine ⟨Nat.lt_of_lt_of_le h.1 hb.size, fun k hk => ?_⟩
  obtain ⟨l, h1, h2⟩ := h.2 k hk
  exact ⟨l, (hb.cell (p := ⟨n, k, none⟩) h.1).trans h1, h2⟩
theorem rd0 : readP [] = none := by decide +kernel
theorem rd1 : readP [47] = none := by decide +kernel
theorem rd2 : readP [49] = none := by decide +kernel
theorem rd3 : readP [49, 47] = none := by decide +kernel
theorem rd4 : readP [47, 49] = none := by decide +kernel
theorem rd5 : readP [54, 47, 52] = none := by decide +kernel
theorem rd6 : readP [45, 48, 47, 49] = none := by decide +kernel
theorem rd7 : readP [48, 49, 47, 50] = none := by decide +kernel
theorem rd8 : readP [49, 47, 48, 50] = none := by decide +kernel
theorem rd9 : readP [43, 49, 47, 50] = none := by decide +kernel
theorem rd10 : readP [49, 47, 50, 32] = none := by decide +kernel
theorem rd11 : readP [49, 47, 48] = none := by decide +kernel
theorem rd12 : readP [48, 47, 50] = none := by decide +kernel
theorem rd13 : readP [45, 45, 49, 47, 50] = none := by decide +kernel
theorem rd14 : readP [49, 47, 45, 50] = none := by decide +kernel
theorem rd15 : readP [49, 47, 50, 47, 51] = none := by decide +kernel
theorem texts_made (w : World) : TxAt w.heap.size (w.alloc (.cells #[.string ⟨#[]⟩, .string ⟨#[47]⟩, .string ⟨#[49]⟩, .string ⟨#[49, 47]⟩, .string ⟨#[47, 49]⟩, .string ⟨#[54, 47, 52]⟩, .string ⟨#[45, 48, 47, 49]⟩, .string ⟨#[48, 49, 47, 50]⟩, .string ⟨#[49, 47, 48, 50]⟩, .string ⟨#[43, 49, 47, 50]⟩, .string ⟨#[49, 47, 50, 32]⟩, .string ⟨#[49, 47, 48]⟩, .string ⟨#[48, 47, 50]⟩, .string ⟨#[45, 45, 49, 47, 50]⟩, .string ⟨#[49, 47, 45, 50]⟩, .string ⟨#[49, 47, 50, 47, 51]⟩] 9)) := by
  have d : (w.alloc (.cells #[.string ⟨#[]⟩, .string ⟨#[47]⟩, .string ⟨#[49]⟩, .string ⟨#[49, 47]⟩, .string ⟨#[47, 49]⟩, .string ⟨#[54, 47, 52]⟩, .string ⟨#[45, 48, 47, 49]⟩, .string ⟨#[48, 49, 47, 50]⟩, .string ⟨#[49, 47, 48, 50]⟩, .string ⟨#[43, 49, 47, 50]⟩, .string ⟨#[49, 47, 50, 32]⟩, .string ⟨#[49, 47, 48]⟩, .string ⟨#[48, 47, 50]⟩, .string ⟨#[45, 45, 49, 47, 50]⟩, .string ⟨#[49, 47, 45, 50]⟩, .string ⟨#[49, 47, 50, 47, 51]⟩] 9)).heap[w.heap.size]? = some (.cells #[.string ⟨#[]⟩, .string ⟨#[47]⟩, .string ⟨#[49]⟩, .string ⟨#[49, 47]⟩, .string ⟨#[47, 49]⟩, .string ⟨#[54, 47, 52]⟩, .string ⟨#[45, 48, 47, 49]⟩, .string ⟨#[48, 49, 47, 50]⟩, .string ⟨#[49, 47, 48, 50]⟩, .string ⟨#[43, 49, 47, 50]⟩, .string ⟨#[49, 47, 50, 32]⟩, .string ⟨#[49, 47, 48]⟩, .string ⟨#[48, 47, 50]⟩, .string ⟨#[45, 45, 49, 47, 50]⟩, .string ⟨#[49, 47, 45, 50]⟩, .string ⟨#[49, 47, 50, 47, 51]⟩] 9 (0, 0)) := heap_alloc_new _ _
  refine ⟨by simp, fun k hk => ?_⟩
  have hc : ∀ i v, (#[.string ⟨#[]⟩, .string ⟨#[47]⟩, .string ⟨#[49]⟩, .string ⟨#[49, 47]⟩, .string ⟨#[47, 49]⟩, .string ⟨#[54, 47, 52]⟩, .string ⟨#[45, 48, 47, 49]⟩, .string ⟨#[48, 49, 47, 50]⟩, .string ⟨#[49, 47, 48, 50]⟩, .string ⟨#[43, 49, 47, 50]⟩, .string ⟨#[49, 47, 50, 32]⟩, .string ⟨#[49, 47, 48]⟩, .string ⟨#[48, 47, 50]⟩, .string ⟨#[45, 45, 49, 47, 50]⟩, .string ⟨#[49, 47, 45, 50]⟩, .string ⟨#[49, 47, 50, 47, 51]⟩] : Array Value)[i]? = some v → (w.alloc (.cells #[.string ⟨#[]⟩, .string ⟨#[47]⟩, .string ⟨#[49]⟩, .string ⟨#[49, 47]⟩, .string ⟨#[47, 49]⟩, .string ⟨#[54, 47, 52]⟩, .string ⟨#[45, 48, 47, 49]⟩, .string ⟨#[48, 49, 47, 50]⟩, .string ⟨#[49, 47, 48, 50]⟩, .string ⟨#[43, 49, 47, 50]⟩, .string ⟨#[49, 47, 50, 32]⟩, .string ⟨#[49, 47, 48]⟩, .string ⟨#[48, 47, 50]⟩, .string ⟨#[45, 45, 49, 47, 50]⟩, .string ⟨#[49, 47, 45, 50]⟩, .string ⟨#[49, 47, 50, 47, 51]⟩] 9)).cell? ⟨w.heap.size, i, none⟩ = some v := by
    intro i v hv
    simp only [World.cell?, d]
    simpa using hv
  match k, hk with
  | 0, _ => exact ⟨[], hc 0 _ rfl, rd0, by decide⟩
  | 1, _ => exact ⟨[47], hc 1 _ rfl, rd1, by decide⟩
  | 2, _ => exact ⟨[49], hc 2 _ rfl, rd2, by decide⟩
  | 3, _ => exact ⟨[49, 47], hc 3 _ rfl, rd3, by decide⟩
  | 4, _ => exact ⟨[47, 49], hc 4 _ rfl, rd4, by decide⟩
  | 5, _ => exact ⟨[54, 47, 52], hc 5 _ rfl, rd5, by decide⟩
  | 6, _ => exact ⟨[45, 48, 47, 49], hc 6 _ rfl, rd6, by decide⟩
  | 7, _ => exact ⟨[48, 49, 47, 50], hc 7 _ rfl, rd7, by decide⟩
  | 8, _ => exact ⟨[49, 47, 48, 50], hc 8 _ rfl, rd8, by decide⟩
  | 9, _ => exact ⟨[43, 49, 47, 50], hc 9 _ rfl, rd9, by decide⟩
  | 10, _ => exact ⟨[49, 47, 50, 32], hc 10 _ rfl, rd10, by decide⟩
  | 11, _ => exact ⟨[49, 47, 48], hc 11 _ rfl, rd11, by decide⟩
  | 12, _ => exact ⟨[48, 47, 50], hc 12 _ rfl, rd12, by decide⟩
  | 13, _ => exact ⟨[45, 45, 49, 47, 50], hc 13 _ rfl, rd13, by decide⟩
  | 14, _ => exact ⟨[49, 47, 45, 50], hc 14 _ rfl, rd14, by decide⟩
  | 15, _ => exact ⟨[49, 47, 50, 47, 51], hc 15 _ rfl, rd15, by decide⟩
  | k + 16, h => exact absurd h (by omega)
end Go.Proofs.YtfdkdloldjfnjaaGreatDoor
