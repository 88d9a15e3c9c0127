/-
  DERIVED. The law's example and live (stage 12).
-/
import Derived.Test.YtoknombajocjlaaCG
namespace Go.Proofs.Ytoknombajocjlaa
open Go.RowKit
set_option maxRecDepth 100000
set_option linter.unusedVariables false
set_option linter.unusedSimpArgs false

/-- Rows of k numbers as cells. -/
def cellsR {α : Type} (k : Nat) (F : α → Nat → Int) (l : List α) : List Value := l.flatMap fun x => (List.range k).map fun i => .int .i64 (F x i)
theorem cellsR_at {α : Type} {k : Nat} {F : α → Nat → Int} : ∀ {l : List α} {j : Nat} {x : α}, l[j]? = some x → ∀ i, i < k → (cellsR k F l)[j * k + i]? = some (.int .i64 (F x i)) := by
  intro l
  induction l with
  | nil => intro j x h; simp at h
  | cons y l ih =>
    intro j x h i hi
    have e : cellsR k F (y :: l) = ((List.range k).map fun i => Value.int .i64 (F y i)) ++ cellsR k F l := rfl
    rw [e]
    cases j with
    | zero =>
      simp at h
      subst h
      rw [Nat.zero_mul, Nat.zero_add, List.getElem?_append_left (by simp; omega)]
      simp [hi]
    | succ j =>
      rw [List.getElem?_append_right (by simp; rw [Nat.succ_mul]; omega)]
      have := ih (j := j) (x := x) (by simpa using h) i hi
      rw [show (j + 1) * k + i - (List.map (fun i => Value.int .i64 (F y i)) (List.range k)).length = j * k + i by simp [Nat.succ_mul]; omega]
      exact this
theorem rw_block {α : Type} {k : Nat} {F : α → Nat → Int} {l : List α} {w : World} {b : Nat} {T : TypeId} (h : w.heap[b]? = some (.cells (cellsR k F l).toArray T (0, 0))) (hl : l.length ≤ maxLen) : Rw k F w (some ⟨b, 0, none⟩) l.length l := by
  refine ⟨Nat.le_refl _, hl, fun _ => ⟨b, 0, rfl, at_lt h, fun j x hj i hi => ?_⟩⟩
  rw [Nat.zero_add]
  refine cell_of h ?_
  have := cellsR_at (F := F) hj i hi
  simpa using this
/-- The law's example. -/
def exD : SiteD := ⟨[1000], [⟨0, 500, 0, 0⟩], [⟨1000, 0⟩], [⟨0, 0, 0, 0⟩, ⟨2, 0, 0, 0⟩], 1, [], [⟨0, 4, 0, 0⟩, ⟨0, 4, 0, 0⟩, ⟨1, 4, 0, 0⟩]⟩
def exP (b : Nat) : SP := ⟨some ⟨b + 1, 0, none⟩, 1, some ⟨b + 1 + 1, 0, none⟩, 1, some ⟨b + 1 + 1 + 1, 0, none⟩, 1, some ⟨b + 1 + 1 + 1 + 1, 0, none⟩, 2, none, 0, some ⟨b + 1 + 1 + 1 + 1 + 1, 0, none⟩, 3⟩
theorem ret7 {fn : Func} {a : Act} {W : World} {R : Ending → World → Prop} {b i : Nat} {x0 x1 x2 x3 x4 x5 x6 : Value} (hfn : fn.results = #[.cell i 29]) (hp : a.tmps[i]?.getD undef = .pointer (some ⟨b, 0, none⟩)) (hd : a.defers = [])
    (h : W.heap[b]? = some (.cells #[x0, x1, x2, x3, x4, x5, x6] 29 (0, 0))) (hR : R (.returned (.agg #[x0, x1, x2, x3, x4, x5, x6])) W) : bodyPost Try.prog fn R .ret a W := by
  have c0 : W.cell? ⟨b, 0, none⟩ = some x0 := cell_of h rfl
  have c1 : W.cell? ⟨b, 1, none⟩ = some x1 := cell_of h rfl
  have c2 : W.cell? ⟨b, 2, none⟩ = some x2 := cell_of h rfl
  have c3 : W.cell? ⟨b, 3, none⟩ = some x3 := cell_of h rfl
  have c4 : W.cell? ⟨b, 4, none⟩ = some x4 := cell_of h rfl
  have c5 : W.cell? ⟨b, 5, none⟩ = some x5 := cell_of h rfl
  have c6 : W.cell? ⟨b, 6, none⟩ = some x6 := cell_of h rfl
  exact bodyPost_ret (v := .agg #[x0, x1, x2, x3, x4, x5, x6]) (by simp [results, hfn, hp, go_sem, c0, c1, c2, c3, c4, c5, c6]) hd hR
theorem set_else {W : World} {b k o : Nat} {v : Value} {ob : Obj} (h : W.heap[k]? = some ob) (hne : k ≠ b) : (W.setCell ⟨b, o, none⟩ v).heap[k]? = some ob := by
  rw [Below.heap_setCell _ ⟨b, o, none⟩ v k hne]; exact h
theorem old_heap {X : World} {b : Nat} {o : Obj} (o' : Obj) (h : X.heap[b]? = some o) : (X.alloc o').heap[b]? = some o := (Below.heap_alloc _ _ _ (at_lt h)).trans h
set_option maxHeartbeats 16000000 in
theorem c_example (w : World) : Calls Try.prog 19 #[] w fun e w' => e = .returned (siV (exP w.heap.size) exD) ∧ SiAt w' (exP w.heap.size) exD ∧ Below w.heap.size w w' := by
  obtain ⟨E0, h0⟩ : ∃ X, X = w.alloc (.cells #[.slice (some ⟨w.heap.size + 1, 0, none⟩) 1 1, .slice (some ⟨w.heap.size + 1 + 1, 0, none⟩) 1 1, .slice (some ⟨w.heap.size + 1 + 1 + 1, 0, none⟩) 1 1, .slice (some ⟨w.heap.size + 1 + 1 + 1 + 1, 0, none⟩) 2 2, .int .i64 1, .slice none 0 0, .slice (some ⟨w.heap.size + 1 + 1 + 1 + 1 + 1, 0, none⟩) 3 3] 29) := ⟨_, rfl⟩
  obtain ⟨E1, h1⟩ : ∃ X, X = E0.alloc (.cells #[.int .i64 1000] 43) := ⟨_, rfl⟩
  obtain ⟨E2, h2⟩ : ∃ X, X = E1.alloc (.cells #[.int .i64 0, .int .i64 500, .int .i64 0, .int .i64 0] 47) := ⟨_, rfl⟩
  obtain ⟨E3, h3⟩ : ∃ X, X = E2.alloc (.cells #[.int .i64 1000, .int .i64 0] 51) := ⟨_, rfl⟩
  obtain ⟨E4, h4⟩ : ∃ X, X = E3.alloc (.cells #[.int .i64 0, .int .i64 0, .int .i64 0, .int .i64 0, .int .i64 2, .int .i64 0, .int .i64 0, .int .i64 0] 54) := ⟨_, rfl⟩
  obtain ⟨E5, h5⟩ : ∃ X, X = E4.alloc (.cells #[.int .i64 0, .int .i64 4, .int .i64 0, .int .i64 0, .int .i64 0, .int .i64 4, .int .i64 0, .int .i64 0, .int .i64 1, .int .i64 4, .int .i64 0, .int .i64 0] 60) := ⟨_, rfl⟩
  have z0 : E0.heap.size = w.heap.size + 1 := by rw [h0, World.size_alloc]
  have z1 : E1.heap.size = w.heap.size + 1 + 1 := by rw [h1, World.size_alloc, z0]
  have z2 : E2.heap.size = w.heap.size + 1 + 1 + 1 := by rw [h2, World.size_alloc, z1]
  have z3 : E3.heap.size = w.heap.size + 1 + 1 + 1 + 1 := by rw [h3, World.size_alloc, z2]
  have z4 : E4.heap.size = w.heap.size + 1 + 1 + 1 + 1 + 1 := by rw [h4, World.size_alloc, z3]
  have g0 : E0.heap[w.heap.size]? = some (.cells #[.slice (some ⟨w.heap.size + 1, 0, none⟩) 1 1, .slice (some ⟨w.heap.size + 1 + 1, 0, none⟩) 1 1, .slice (some ⟨w.heap.size + 1 + 1 + 1, 0, none⟩) 1 1, .slice (some ⟨w.heap.size + 1 + 1 + 1 + 1, 0, none⟩) 2 2, .int .i64 1, .slice none 0 0, .slice (some ⟨w.heap.size + 1 + 1 + 1 + 1 + 1, 0, none⟩) 3 3] 29 (0, 0)) := by subst h0; exact heap_alloc_new _ _
  have g1 : E1.heap[w.heap.size + 1]? = some (.cells #[.int .i64 1000] 43 (0, 0)) := by rw [← z0]; subst h1; exact heap_alloc_new _ _
  have g2 : E2.heap[w.heap.size + 1 + 1]? = some (.cells #[.int .i64 0, .int .i64 500, .int .i64 0, .int .i64 0] 47 (0, 0)) := by rw [← z1]; subst h2; exact heap_alloc_new _ _
  have g3 : E3.heap[w.heap.size + 1 + 1 + 1]? = some (.cells #[.int .i64 1000, .int .i64 0] 51 (0, 0)) := by rw [← z2]; subst h3; exact heap_alloc_new _ _
  have g4 : E4.heap[w.heap.size + 1 + 1 + 1 + 1]? = some (.cells #[.int .i64 0, .int .i64 0, .int .i64 0, .int .i64 0, .int .i64 2, .int .i64 0, .int .i64 0, .int .i64 0] 54 (0, 0)) := by rw [← z3]; subst h4; exact heap_alloc_new _ _
  have g5 : E5.heap[w.heap.size + 1 + 1 + 1 + 1 + 1]? = some (.cells #[.int .i64 0, .int .i64 4, .int .i64 0, .int .i64 0, .int .i64 0, .int .i64 4, .int .i64 0, .int .i64 0, .int .i64 1, .int .i64 4, .int .i64 0, .int .i64 0] 60 (0, 0)) := by rw [← z4]; subst h5; exact heap_alloc_new _ _
  have G4 : E5.heap[w.heap.size + 1 + 1 + 1 + 1]? = some (.cells #[.int .i64 0, .int .i64 0, .int .i64 0, .int .i64 0, .int .i64 2, .int .i64 0, .int .i64 0, .int .i64 0] 54 (0, 0)) := by rw [h5]; exact old_heap _ g4
  have G3 : E5.heap[w.heap.size + 1 + 1 + 1]? = some (.cells #[.int .i64 1000, .int .i64 0] 51 (0, 0)) := by rw [h5]; refine old_heap _ ?_; rw [h4]; exact old_heap _ g3
  have G2 : E5.heap[w.heap.size + 1 + 1]? = some (.cells #[.int .i64 0, .int .i64 500, .int .i64 0, .int .i64 0] 47 (0, 0)) := by rw [h5]; refine old_heap _ ?_; rw [h4]; refine old_heap _ ?_; rw [h3]; exact old_heap _ g2
  have G1 : E5.heap[w.heap.size + 1]? = some (.cells #[.int .i64 1000] 43 (0, 0)) := by rw [h5]; refine old_heap _ ?_; rw [h4]; refine old_heap _ ?_; rw [h3]; refine old_heap _ ?_; rw [h2]; exact old_heap _ g1
  have G0 : E5.heap[w.heap.size]? = some (.cells #[.slice (some ⟨w.heap.size + 1, 0, none⟩) 1 1, .slice (some ⟨w.heap.size + 1 + 1, 0, none⟩) 1 1, .slice (some ⟨w.heap.size + 1 + 1 + 1, 0, none⟩) 1 1, .slice (some ⟨w.heap.size + 1 + 1 + 1 + 1, 0, none⟩) 2 2, .int .i64 1, .slice none 0 0, .slice (some ⟨w.heap.size + 1 + 1 + 1 + 1 + 1, 0, none⟩) 3 3] 29 (0, 0)) := by rw [h5]; refine old_heap _ ?_; rw [h4]; refine old_heap _ ?_; rw [h3]; refine old_heap _ ?_; rw [h2]; refine old_heap _ ?_; rw [h1]; exact old_heap _ g0
  have B5 : Below w.heap.size w E5 := by
    rw [h5]
    refine Below.alloc ?_ (by omega) _
    rw [h4]
    refine Below.alloc ?_ (by omega) _
    rw [h3]
    refine Below.alloc ?_ (by omega) _
    rw [h2]
    refine Below.alloc ?_ (by omega) _
    rw [h1]
    refine Below.alloc ?_ (by omega) _
    rw [h0]
    exact (Below.refl _ _).alloc (Nat.le_refl _) _
  have HG := Lib.hid (And.intro G0 (And.intro G1 (And.intro G2 (And.intro G3 (And.intro G4 g5)))))
  have HB := Lib.hid B5
  have HE := Lib.hid h5
  clear g0 g1 g2 g3 g4 g5 G0 G1 G2 G3 G4 B5 z0 z1 z2 z3 z4 h5
  subst h4 h3 h2 h1 h0
  go_enter Try.func19, Try.ntmps19
  go_wp2_with (fail)
  rw [← HE.out]
  obtain ⟨G0, G1, G2, G3, G4, G5⟩ := HG.out
  exact ret7 (i := 0) (b := w.heap.size) rfl rfl rfl G0 ⟨rfl, ⟨rw_block (α := Int) (k := 1) (F := inF) (l := [1000]) G1 (by simp [maxLen]), rw_block (α := Brk) (k := 4) (F := brkF) (l := [⟨0, 500, 0, 0⟩]) G2 (by simp [maxLen]), rw_block (α := Lp) (k := 2) (F := lpF) (l := [⟨1000, 0⟩]) G3 (by simp [maxLen]), rw_block (α := Rk) (k := 4) (F := rkF) (l := [⟨0, 0, 0, 0⟩, ⟨2, 0, 0, 0⟩]) G4 (by simp [maxLen]), Rw.nil _ _, rw_block (α := Hs) (k := 4) (F := hsF) (l := [⟨0, 4, 0, 0⟩, ⟨0, 4, 0, 0⟩, ⟨1, 4, 0, 0⟩]) G5 (by simp [maxLen])⟩, HB.out⟩
end Go.Proofs.Ytoknombajocjlaa
