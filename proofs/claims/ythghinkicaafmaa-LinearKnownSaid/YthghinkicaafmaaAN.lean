/-
  DERIVED. arriving: a closure that adds into a captured box, called for each part (stage 6).
-/
import Derived.Test.YthghinkicaafmaaAL
import Derived.Test.YthghinkicaafmaaAM
import Derived.Deep.DrawnRows
import Derived.StillTailTactics
namespace Go.Proofs.Ythghinkicaafmaa
open Go.RowKit

set_option maxRecDepth 100000

/-- A part, as a value. -/
def ptV (p : Int × Int × Int) : Value := .agg #[.int .i64 p.1, .int .i64 p.2.1, .int .i64 p.2.2]
/-- All blocks but b stand. -/
structure But (b : Nat) (X Y : World) : Prop where
  os : Y.os = X.os
  tape : Y.tape = X.tape
  output : Y.output = X.output
  size : X.heap.size ≤ Y.heap.size
  same : ∀ (k : Nat) (o : Obj), k ≠ b → X.heap[k]? = some o → Y.heap[k]? = some o
section
variable {b : Nat} {X Y Z : World}
theorem But.refl (X : World) : But b X X := ⟨rfl, rfl, rfl, Nat.le_refl _, fun _ _ _ h => h⟩
theorem But.trans (h : But b X Y) (k : But b Y Z) : But b X Z := ⟨k.os.trans h.os, k.tape.trans h.tape, k.output.trans h.output, Nat.le_trans h.size k.size, fun i o ho hi => k.same i o ho (h.same i o ho hi)⟩
theorem But.of_below {B : Nat} (h : Below B X Y) (hB : X.heap.size ≤ B) : But b X Y := ⟨h.os, h.tape, h.output, h.size, fun k _ _ hk => (h.block k (Nat.lt_of_lt_of_le (at_lt hk) hB)).trans hk⟩
theorem But.store (x : Value) (o : Nat) : But b X (X.setCell ⟨b, o, none⟩ x) :=
  ⟨rfl, rfl, rfl, by simp [World.setCell], fun k u hne hk => by rw [Below.heap_setCell _ ⟨b, o, none⟩ x k hne]; exact hk⟩
theorem But.drewN (n : Nat) : But b X (X.drewN n) := ⟨rfl, rfl, rfl, Nat.le_refl _, fun _ _ _ h => h⟩
theorem But.drew : But b X X.drew := ⟨rfl, rfl, rfl, Nat.le_refl _, fun _ _ _ h => h⟩
theorem But.below {w : World} (h : But b X Y) (k : Below w.heap.size w X) (hb : w.heap.size ≤ b) : Below w.heap.size w Y := by
  refine ⟨h.os.trans k.os, h.tape.trans k.tape, h.output.trans k.output, Nat.le_trans k.size h.size, fun i hi => ?_⟩
  have hlt : i < X.heap.size := Nat.lt_of_lt_of_le hi k.size
  have h3 := Array.getElem?_eq_getElem hlt
  have := h.same i _ (by omega) h3
  rw [this, ← h3]
  exact k.block i hi
theorem But.good {Gd : Nat → Prop} (h : But b X Y) (hg : ∀ k, Gd k → k ≠ b) : KpG Gd X Y := ⟨h.size, fun k _ _ _ g hk => h.same k _ (hg k g) hk⟩
end
section
variable {Gd : Nat → Prop} {X Y : World}
theorem cell_kept {c o : Nat} {v : Value} (h : X.cell? ⟨c, o, none⟩ = some v) (hk : KpG Gd X Y) (g : Gd c) : Y.cell? ⟨c, o, none⟩ = some v := by
  obtain ⟨ob, hob, hcl⟩ := cells_of_cell h
  cases ob with
  | cells cs t fr => exact (World.cell?_of_block (a := ⟨c, o, none⟩) ((hk.same _ _ _ _ g hob).trans hob.symm)).trans h
  | _ => cases hcl
theorem IntSl.kept {w : World} {v : Value} {l : List Int} (h : IntSl w v l) (h1 : Below w.heap.size w X) (hk : KpG Gd X Y) (hg : ∀ k, k < w.heap.size → Gd k) : IntSl Y v l := by
  obtain ⟨A, c, h1', h2, h3, h5, h4⟩ := h
  refine ⟨A, c, h1', h2, h3, h5, fun h0 => ?_⟩
  obtain ⟨b, o, e, hlt, hc⟩ := h4 h0
  exact ⟨b, o, e, Nat.lt_of_lt_of_le hlt (Nat.le_trans h1.size hk.size), fun j x hj => cell_kept ((h1.cell (p := ⟨b, o + j, none⟩) hlt).trans (hc j x hj)) hk (hg b hlt)⟩
theorem LiSl.kept {w : World} {v : Value} {ls : List (List Int)} (h : LiSl w v ls) (h1 : Below w.heap.size w X) (hk : KpG Gd X Y) (hg : ∀ k, k < w.heap.size → Gd k) : LiSl Y v ls := by
  obtain ⟨A, c, h1', h2, h3, h4⟩ := h
  refine ⟨A, c, h1', h2, h3, fun h0 => ?_⟩
  obtain ⟨b, o, e, hlt, hc⟩ := h4 h0
  refine ⟨b, o, e, Nat.lt_of_lt_of_le hlt (Nat.le_trans h1.size hk.size), fun j l hj => ?_⟩
  obtain ⟨u, hu, hl⟩ := hc j l hj
  exact ⟨u, cell_kept ((h1.cell (p := ⟨b, o + j, none⟩) hlt).trans hu) hk (hg b hlt), hl.kept h1 hk hg⟩
theorem PtSl.kept {w : World} {v : Value} {l : List (Int × Int × Int)} (h : PtSl w v l) (h1 : Below w.heap.size w X) (hk : KpG Gd X Y) (hg : ∀ k, k < w.heap.size → Gd k) : PtSl Y v l := by
  obtain ⟨A, c, h1', h2, h3, h4⟩ := h
  refine ⟨A, c, h1', h2, h3, fun h0 => ?_⟩
  obtain ⟨b, o, e, hlt, hc⟩ := h4 h0
  refine ⟨b, o, e, Nat.lt_of_lt_of_le hlt (Nat.le_trans h1.size hk.size), fun j p hj => ?_⟩
  obtain ⟨c1, c2, c3⟩ := hc j p hj
  exact ⟨cell_kept ((h1.cell (p := ⟨b, o + j * 3, none⟩) hlt).trans c1) hk (hg b hlt), cell_kept ((h1.cell (p := ⟨b, o + j * 3 + 1, none⟩) hlt).trans c2) hk (hg b hlt), cell_kept ((h1.cell (p := ⟨b, o + j * 3 + 2, none⟩) hlt).trans c3) hk (hg b hlt)⟩
end
theorem one_cell {W : World} {b : Nat} {x0 : Value} {T : TypeId} (h : W.heap[b]? = some (.cells #[x0] T (0, 0))) : W.cell? ⟨b, 0, none⟩ = some x0 := by simp [World.cell?, h]
theorem row_new (W : World) (o : Obj) (b : Nat) (hb : b = W.heap.size) : (W.alloc o).heap[b]? = some o := by subst hb; exact heap_alloc_new W o
theorem old_heap {X : World} {b : Nat} {o : Obj} (o' : Obj) (h : X.heap[b]? = some o) : (X.alloc o').heap[b]? = some o := (Below.heap_alloc _ _ _ (at_lt h)).trans h
theorem cell_of {W : World} {b i : Nat} {cs : Array Value} {T : TypeId} {fr : Nat × Nat} {v : Value} (h : W.heap[b]? = some (.cells cs T fr)) (hi : cs[i]? = some v) : W.cell? ⟨b, i, none⟩ = some v := by simp [World.cell?, h, hi]
theorem but_box {bs b : Nat} {X Y : World} {T : TypeId} {v : Value} (h : Boxed X b T v) (k : But bs X Y) (hne : b ≠ bs) : Boxed Y b T v := k.same _ _ hne h
set_option maxHeartbeats 8000000 in
theorem c_arriving1 (s : Nat) (m d t z : Int) (ins : List (List Int)) (I : Value) (bs bi bt : Nat) (hp : s ≤ 15 ∧ 0 ≤ m ∧ m ≤ 1000 ∧ 0 ≤ d ∧ d ≤ 1000) (hi : inOk ins = true) (hz : 0 ≤ z ∧ z ≤ 10000000000000) (ht : 0 ≤ t ∧ t ≤ 100000)
    (W : World) (h1 : Boxed W bs 3 (.int .i64 z)) (h2 : Boxed W bi 25 I) (h3 : Boxed W bt 3 (.int .i64 t)) (hI : ∀ X, But bs W X → LiSl X I ins) (_n1 : bi ≠ bs) (_n2 : bt ≠ bs) :
    Calls Try.prog 45 #[ptV (s, m, d), .pointer (some ⟨bs, 0, none⟩), .pointer (some ⟨bi, 0, none⟩), .pointer (some ⟨bt, 0, none⟩)] W fun e w' => (∃ v, e = .returned v) ∧ But bs W w' ∧ Boxed w' bs 3 (.int .i64 (z + m * giv ins s (t - d))) := by
  unfold ptV
  obtain ⟨g, hg⟩ : ∃ g, giv ins s (t - d) = g := ⟨_, rfl⟩
  have hg2 := giv_bounds hi s (t - d)
  rw [hg] at hg2
  have hmg : 0 ≤ m * g ∧ m * g ≤ 100000000000 := by
    refine ⟨Int.mul_nonneg hp.2.1 hg2.1, ?_⟩
    have := Int.mul_le_mul hp.2.2.1 hg2.2 hg2.1 (by omega : (0 : Int) ≤ 1000)
    omega
  have hw1 : IntKind.i64.wrap (m * g) = m * g := by rw [IntKind.wrap_i64]; omega
  have hw2 : IntKind.i64.wrap (z + m * g) = z + m * g := by rw [IntKind.wrap_i64]; omega
  have hw3 : IntKind.i64.wrap (t - d) = t - d := by rw [IntKind.wrap_i64]; omega
  obtain ⟨V, hV⟩ : ∃ V, V = W.alloc (.cells #[.int .i64 (s : Int), .int .i64 m, .int .i64 d] 41) := ⟨_, rfl⟩
  have hB : Below W.heap.size W V := by subst hV; exact (Below.refl _ _).alloc (Nat.le_refl _) _
  have HBU := Lib.hid (But.of_below (b := bs) hB (Nat.le_refl _))
  have HP := Lib.hid (show V.heap[W.heap.size]? = some (.cells #[.int .i64 (s : Int), .int .i64 m, .int .i64 d] 41 (0, 0)) by subst hV; exact heap_alloc_new _ _)
  have H1 := Lib.hid ((hB.block _ h1.lt).trans h1)
  have H2 := Lib.hid ((hB.block _ h2.lt).trans h2)
  have H3 := Lib.hid ((hB.block _ h3.lt).trans h3)
  have HG := Lib.hid (c_given s (t - d) (by omega) ins I V.drew (hI _ (HBU.out.trans But.drew)) g hg)
  rw [hg]
  have x1 : V.cell? ⟨bs, 0, none⟩ = some (.int .i64 z) := one_cell H1.out
  have f1 : V.frozen? ⟨bs, 0, none⟩ = false := (show Boxed V bs 3 (.int .i64 z) from H1.out).frozen
  have x2 : V.cell? ⟨bi, 0, none⟩ = some I := one_cell H2.out
  have x3 : V.cell? ⟨bt, 0, none⟩ = some (.int .i64 t) := one_cell H3.out
  have n3 : W.heap.size ≠ bs := by have := h1.lt; omega
  have p0 : V.cell? ⟨W.heap.size, 0, none⟩ = some (.int .i64 (s : Int)) := by simp [World.cell?, HP.out]
  have p1 : V.cell? ⟨W.heap.size, 1, none⟩ = some (.int .i64 m) := by simp [World.cell?, HP.out]
  have p2 : V.cell? ⟨W.heap.size, 2, none⟩ = some (.int .i64 d) := by simp [World.cell?, HP.out]
  clear h1 h2 h3 hI hB hg hi hg2 hmg
  go_enter Try.func45, Try.ntmps45
  go_wp2_with (fail)
  rw [← hV]
  clear hV
  refine wp_region_still_tail 13 (by kernel_rfl) (by kernel_rfl) ?_
  simp only [List.take_succ_cons, List.take_zero, List.drop_succ_cons, List.drop_zero]
  iterate 10 still_step
  refine wpStill_step (fun K hK => ?_)
  go_simp
  refine ⟨_, HG.out.mono (fun e w' h => ⟨h.1, h.2.symm⟩), hK _ ?_⟩
  clear hK K
  iterate 2 still_step
  refine wpStill_nil ?_
  change wpList _ _ _ _ _ V.drew
  have HBD := Lib.hid (HBU.out.trans (But.drew (X := V)))
  have H1D := Lib.hid (show Boxed V.drew bs 3 (.int .i64 z) from H1.out)
  have fd : V.drew.frozen? ⟨bs, 0, none⟩ = false := H1D.out.frozen
  have xd : V.drew.cell? ⟨bs, 0, none⟩ = some (.int .i64 z) := H1D.out.cell
  generalize V.drew = w2 at HBD H1D fd xd ⊢
  clear x1 x2 x3 p0 p1 p2 f1
  go_wp2_with (fail)
  exact bodyPost_end (results_none rfl _ _ _) rfl ⟨⟨_, rfl⟩, HBD.out.trans (But.store _ _), H1D.out.set _⟩
end Go.Proofs.Ythghinkicaafmaa
