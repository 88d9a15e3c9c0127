/-
  DERIVED. slices.Delete of one arc (stage 5).
-/
import Derived.Test.YtglpaihadongkaaCF
import Derived.Deep.RegionLaw
import Derived.Deep.MidRow
import Derived.Lib.SliceRun
set_option linter.unusedVariables false
set_option linter.unusedSimpArgs false
namespace Go.Proofs.Ytglpaihadongkaa
open Go.RowKit Go.Shelf
set_option maxRecDepth 100000
set_option linter.unusedSimpArgs false
set_option linter.unusedVariables false

theorem Out.stores {S : Nat → Prop} {b : Nat} (hb : S b) : ∀ (vs : List Value) (o : Nat) (X : World), Out S X (X.setCells b o vs)
  | [], _, X => Out.refl X
  | v :: vs, o, X => (Out.store hb v).trans (Out.stores hb vs (o + 1) (X.setCell ⟨b, o, none⟩ v))
theorem run_clear_one {P : Program} (w : World) (t e ty : TypeId) (z z0 z1 z2 : Value) (ht : P.underlying t = some (.slice e)) (hv : ∀ w, (zeroValue e).run P w = .ok z w) (hz : z.cells = #[z0, z1, z2]) (h1 : z0.oneCell' = true ∧ z1.oneCell' = true ∧ z2.oneCell' = true) (b o c : Nat)
    (hc : ∀ j, j < 3 → (w.cell? ⟨b, o + j, none⟩).isSome = true) (hf : ∀ j, j < 3 → w.frozen? ⟨b, o + j, none⟩ = false) :
    (Builtin.clear_ #[t] ty #[.slice (some ⟨b, o, none⟩) 1 c]).run P w = .ok (.tuple #[]) (w.setCells b o [z0, z1, z2]) := by
  have hzc : (Builtin.zeroCells z.cells 1).toList = [z0, z1, z2] := by
    rw [hz]
    simp [Builtin.zeroCells]
    rfl
  have hst := run_storeCells_cells (P := P) b o [z0, z1, z2] 0 w (by simpa using hc) (by simpa using hf) (by
    intro v hv'
    simp at hv'
    rcases hv' with rfl | rfl | rfl
    · exact h1.1
    · exact h1.2.1
    · exact h1.2.2)
  simp only [Nat.add_zero] at hst
  simp [Builtin.clear_, run_underlying ht, hv, hzc, hst]
theorem zero_arc (w : World) : (zeroValue 39).run Try.prog w = .ok (.agg #[.int .i64 0, .int .i64 0, .int .i64 0]) w := by kernel_rfl
theorem cellsA_append (l m : List (Int × Int × Int)) : cellsA (l ++ m) = cellsA l ++ cellsA m := by simp [cellsA]
theorem ptSl_ranges {w : World} {g cap : Nat} {l m : List (Int × Int × Int)} (hg : g < w.heap.size) (hc : (l ++ m).length ≤ cap) (hm : cap ≤ maxLen) (h1 : w.rangeAt g 0 (cellsA l)) (h2 : w.rangeAt g (l.length * 3) (cellsA m)) : PtSl w (.slice (some ⟨g, 0, none⟩) (l ++ m).length cap) (l ++ m) := by
  have hr : w.rangeAt g 0 (cellsA (l ++ m)) := by
    intro j v hj
    rw [cellsA_append] at hj
    rcases Nat.lt_or_ge j (cellsA l).length with h | h
    · rw [List.getElem?_append_left h] at hj
      exact h1 j v hj
    · rw [List.getElem?_append_right h] at hj
      have e := h2 _ v hj
      rw [cellsA_len] at e h
      rw [show 0 + j = l.length * 3 + (j - l.length * 3) by omega]
      exact e
  refine ⟨some ⟨g, 0, none⟩, cap, rfl, hc, hm, fun _ => ⟨g, 0, rfl, hg, fun j p hp => ?_⟩⟩
  obtain ⟨e0, e1, e2⟩ := cellsA_get _ j p hp
  refine ⟨by simpa using hr _ _ e0, ?_, ?_⟩
  · have := hr _ _ e1; simpa [Nat.add_assoc] using this
  · have := hr _ _ e2; simpa [Nat.add_assoc] using this
set_option maxHeartbeats 16000000 in
theorem c_DeleteArcs (l : List (Int × Int × Int)) (i j : Nat) (hj : j = i + 1) (hi : i < l.length) (base g cap : Nat) (X : World) (h : X.ownsRow base 39 3 (.slice (some ⟨g, 0, none⟩) l.length cap) l.length (cellsA l)) :
    Calls Try.prog 29 #[.slice (some ⟨g, 0, none⟩) l.length cap, .int .i64 (i : Int), .int .i64 (j : Int)] X fun e w' => e = .returned (.slice (some ⟨g, 0, none⟩) (l.length - 1) cap) ∧ PtSl w' (.slice (some ⟨g, 0, none⟩) (l.length - 1) cap) (l.eraseIdx i) ∧ Out (fun b => b = g) X w' := by
  obtain ⟨n, hn⟩ : ∃ n, n = l.length := ⟨_, rfl⟩
  rw [← hn] at h hi ⊢
  have hcap : n ≤ cap ∧ cap ≤ maxLen ∧ g < X.heap.size := by
    obtain ⟨k1, ⟨e, -⟩ | ⟨g', cap', cur, e, k3, k4, k5, k6, k7, k8⟩⟩ := h
    · cases e
    · injection e with e1 _ e2
      injection e1 with e1
      injection e1 with e1
      subst e1 e2
      exact ⟨k5, k6, at_lt k4⟩
  obtain ⟨hc1, hc2, hg⟩ := hcap
  have hcell : ∀ j, j < n * 3 → X.cell? ⟨g, j, none⟩ = (cellsA l)[j]? := fun j hj => h.cellAt j hj
  have hfrz : ∀ j, X.frozen? ⟨g, j, none⟩ = false := fun j => h.frozenAt j
  have hlenA : (cellsA l).length = n * 3 := by rw [cellsA_len, hn]
  have hsome : ∀ j, j < n * 3 → (X.cell? ⟨g, j, none⟩).isSome = true := fun j hj => by rw [hcell j hj, List.getElem?_eq_getElem (by omega)]; rfl
  -- the cells that are moved to the left
  obtain ⟨A, B, hl, hA, hB⟩ : ∃ A B : List (Int × Int × Int), (∃ x, l = A ++ x :: B) ∧ A.length = i ∧ B.length = n - (i + 1) := by
    refine ⟨l.take i, l.drop (i + 1), ⟨l[i]'(by omega), ?_⟩, by simp; omega, by simp; omega⟩
    rw [← List.drop_eq_getElem_cons (by omega), List.take_append_drop]
  obtain ⟨x, hl⟩ := hl
  have her : l.eraseIdx i = A ++ B := by rw [hl, List.eraseIdx_append_of_length_le (by omega), ← hA]; simp
  have hAt : ∀ j v, (cellsA A)[j]? = some v → X.cell? ⟨g, j, none⟩ = some v := fun j v hj => by
    have hj' := (List.getElem?_eq_some_iff.1 hj).1
    rw [cellsA_len] at hj'
    rw [hcell j (by omega), hl, cellsA_append, List.getElem?_append_left (by rw [cellsA_len]; exact hj'), hj]
  have hBt : ∀ j v, (cellsA B)[j]? = some v → X.cell? ⟨g, (i + 1) * 3 + j, none⟩ = some v := fun j v hj => by
    have hj' := (List.getElem?_eq_some_iff.1 hj).1
    rw [cellsA_len] at hj'
    rw [hcell _ (by omega), hl, show A ++ x :: B = (A ++ [x]) ++ B by simp, cellsA_append, List.getElem?_append_right (by rw [cellsA_len]; simp; omega)]
    rw [cellsA_len]
    simp only [List.length_append, List.length_singleton]
    rw [show (i + 1) * 3 + j - (A.length + 1) * 3 = j by rw [hA]; omega]
    exact hj
  have hBl : (cellsA B).length = (n - (i + 1)) * 3 := by rw [cellsA_len, hB]
  obtain ⟨SA, hSA, hsrc⟩ : ∃ SA : Addr, (if cap = j then (some ⟨g, 0, none⟩ : Option Addr) else some ⟨g, j * 3, none⟩) = some SA ∧ Hid (∀ t u, (cellsA B)[t]? = some u → X.drew.cell? (SA.add t) = some u) := by
    subst hj
    by_cases hce : cap = i + 1
    · refine ⟨⟨g, 0, none⟩, by simp [hce], fun t u hu => ?_⟩
      have h0 : (cellsA B).length = 0 := by rw [hBl]; omega
      rw [List.length_eq_zero_iff.1 h0] at hu
      simp at hu
    · refine ⟨⟨g, (i + 1) * 3, none⟩, by simp [hce], fun t u hu => ?_⟩
      rw [Addr.add_lit]
      exact hBt t u hu
  have s2 : Hid (∀ u ∈ cellsA B, u.oneCell' = true) := cellsA_one
  have s3 : Hid (∀ t, t < (cellsA B).length → (X.drew.cell? ⟨g, 0 + i * 3 + t, none⟩).isSome = true ∧ X.drew.frozen? ⟨g, 0 + i * 3 + t, none⟩ = false) := fun t ht => by
    rw [hBl] at ht
    exact ⟨hsome _ (by omega), hfrz _⟩
  obtain ⟨W1, hW1⟩ : ∃ W1, W1 = X.drew.setCells g (0 + i * 3) (cellsA B) := ⟨_, rfl⟩
  have hcl : ∀ ty, (Builtin.clear_ #[22] ty #[.slice (some ⟨g, (i + (n - (i + 1))) * 3, none⟩) 1 (cap - (i + (n - (i + 1))))]).run Try.prog W1 = .ok (.tuple #[]) (W1.setCells g ((i + (n - (i + 1))) * 3) [.int .i64 0, .int .i64 0, .int .i64 0]) :=
    fun ty => run_clear_one W1 _ 39 ty _ (.int .i64 0) (.int .i64 0) (.int .i64 0) Try.underlying22 zero_arc rfl ⟨rfl, rfl, rfl⟩ g _ _
      (fun j hj => by rw [hW1]; exact World.isSome_setCells g _ _ _ _ (hsome _ (by omega)))
      (fun j hj => by
        have ht : X.drew.there g 0 (n * 3) := fun q hq => by rw [Nat.zero_add]; exact ⟨hsome q hq, hfrz q⟩
        rw [hW1]
        have := (World.there_setCells ht g (0 + i * 3) (cellsA B) ((i + (n - (i + 1))) * 3 + j) (by omega)).2
        simpa using this)
  have HW1 := Lib.hid hW1
  have HEND := Lib.hid (show PtSl (W1.setCells g ((i + (n - (i + 1))) * 3) [.int .i64 0, .int .i64 0, .int .i64 0]) (.slice (some ⟨g, 0, none⟩) (n - 1) cap) (l.eraseIdx i) ∧ Out (fun b => b = g) X (W1.setCells g ((i + (n - (i + 1))) * 3) [.int .i64 0, .int .i64 0, .int .i64 0]) by
    have hO : Out (fun b => b = g) X W1 := by rw [hW1]; exact Out.drew.trans (Out.stores (S := fun b => b = g) rfl _ _ _)
    have hO2 := hO.trans (Out.stores (S := fun b => b = g) (b := g) rfl [.int .i64 0, .int .i64 0, .int .i64 0] ((i + (n - (i + 1))) * 3) W1)
    refine ⟨?_, hO2⟩
    rw [her, show n - 1 = (A ++ B).length by rw [List.length_append]; omega]
    have r1 : X.drew.rangeAt g 0 (cellsA A) := fun j v hj => by rw [Nat.zero_add]; exact hAt j v hj
    have r1b : W1.rangeAt g 0 (cellsA A) := by rw [hW1]; exact World.rangeAt_setCells_apart r1 g _ _ (.inr (.inl (by rw [cellsA_len]; omega)))
    have r2 : W1.rangeAt g (A.length * 3) (cellsA B) := by
      have := World.rangeAt_setCells_same X.drew g (0 + i * 3) (cellsA B) (fun q hq => s3 q hq)
      rw [hW1, hA]
      rw [show 0 + i * 3 = i * 3 by omega] at this ⊢
      exact this
    refine ptSl_ranges (Nat.lt_of_lt_of_le hg hO2.size) (by rw [List.length_append]; omega) hc2 ?_ ?_
    · exact World.rangeAt_setCells_apart r1b g _ _ (.inr (.inl (by rw [cellsA_len]; omega)))
    · exact World.rangeAt_setCells_apart r2 g _ _ (.inr (.inl (by rw [cellsA_len]; omega))))
  obtain ⟨i0, hi0, hz1⟩ : ∃ i0, Try.prog.info? 39 = some i0 ∧ i0.size = 3 := by
    obtain ⟨i0, h1, h2, h3, h4⟩ := info_parts arc_info
    exact ⟨i0, h1, h3⟩
  have hBl2 := Lib.hid hBl
  unfold maxLen at hc2
  have q1 : i ≤ j := by omega
  have q2 : j ≤ n := by omega
  have q3 : j ≤ cap := by omega
  have q5 : ((i : Int) == (j : Int)) = false := by rw [beq_eq_false_iff_ne]; omega
  have q7 : i ≤ cap := by omega
  have hnj := Lib.hid (show n - j = n - (i + 1) ∧ cap - j = cap - (i + 1) by omega)
  rw [← hnj.out.1] at hBl2 HEND hcl
  have hcl2 : ∀ ty, (Builtin.clear_ #[22] ty #[.slice (some ⟨g, (i + (n - j)) * 3, none⟩) (n - (i + (n - j))) (cap - (i + (n - j)))]).run Try.prog W1 = .ok (.tuple #[]) (W1.setCells g ((i + (n - j)) * 3) [.int .i64 0, .int .i64 0, .int .i64 0]) := by
    rw [show n - (i + (n - j)) = 1 by omega]
    exact hcl
  clear hcl
  have q8 : i + (n - j) ≤ n := by omega
  have q9 : n ≤ cap := hc1
  have q10 := Lib.hid (show n - 1 = i + (n - j) by omega)
  have q11 : i + (n - j) ≤ cap := by omega
  have q12 : ¬ cap = i + (n - j) := by omega
  rw [q10.out] at HEND ⊢
  clear hW1 hcell hfrz hsome hAt hBt hBl h hlenA her hl hA hB hn hj
  go_enter Try.func29, Try.ntmps29
  go_wp2_with (fail)
  go_region_law (refine step_append_room rfl (.tmp 22) (.tmp 25) 22 rfl 39 i0 3 Try.underlying22 hi0 hz1 g 0 i cap (by simp [Act.eval, Act.put]) SA (n - j) (cap - j) (cellsA B) (by simp [Act.eval, Act.put]) hBl2.out hsrc.out s2.out (by omega) s3.out ?_; rw [← HW1.out])
  go_wp2_with (fail)
  go_ret
  exact ⟨rfl, HEND.out.1, HEND.out.2⟩
end Go.Proofs.Ytglpaihadongkaa
