/-
  DERIVED. The law's site, wish, example and replicas (stage 13).
-/
import Derived.Test.YtplncglgolhfaaaCH
import Derived.Test.YtplncglgolhfaaaER
import Derived.Test.YtplncglgolhfaaaEO
namespace Go.Proofs.Ytplncglgolhfaaa
open Go.RowKit
set_option maxRecDepth 100000
set_option linter.unusedVariables false
set_option linter.unusedSimpArgs false

/-- The law's example. -/
def exD : SiteD := ⟨[1000], [⟨0, 500, 0, 0⟩], [⟨1000, 0⟩], [⟨0, 0, 0, 0⟩, ⟨2, 0, 0, 0⟩], 1, [], [⟨0, 4, 0, 0⟩, ⟨0, 4, 0, 0⟩, ⟨1, 4, 0, 0⟩]⟩
def exP (b : Nat) : SP := ⟨some ⟨b + 1, 0, none⟩, 1, some ⟨b + 1 + 1, 0, none⟩, 1, some ⟨b + 1 + 1 + 1, 0, none⟩, 1, some ⟨b + 1 + 1 + 1 + 1, 0, none⟩, 2, none, 0, some ⟨b + 1 + 1 + 1 + 1 + 1, 0, none⟩, 3⟩
theorem ret7 {fn : Func} {a : Act} {W : World} {R : Ending → World → Prop} {b i : Nat} {x0 x1 x2 x3 x4 x5 x6 : Value} (hfn : fn.results = #[.cell i 29]) (hp : a.tmps[i]?.getD undef = .pointer (some ⟨b, 0, none⟩)) (hd : a.defers = [])
    (h : W.heap[b]? = some (.cells #[x0, x1, x2, x3, x4, x5, x6] 29 (0, 0))) (hR : R (.returned (.agg #[x0, x1, x2, x3, x4, x5, x6])) W) : bodyPost Try.prog fn R .ret a W := by
  have c0 : W.cell? ⟨b, 0, none⟩ = some x0 := cell_of h rfl
  have c1 : W.cell? ⟨b, 1, none⟩ = some x1 := cell_of h rfl
  have c2 : W.cell? ⟨b, 2, none⟩ = some x2 := cell_of h rfl
  have c3 : W.cell? ⟨b, 3, none⟩ = some x3 := cell_of h rfl
  have c4 : W.cell? ⟨b, 4, none⟩ = some x4 := cell_of h rfl
  have c5 : W.cell? ⟨b, 5, none⟩ = some x5 := cell_of h rfl
  have c6 : W.cell? ⟨b, 6, none⟩ = some x6 := cell_of h rfl
  exact bodyPost_ret (v := .agg #[x0, x1, x2, x3, x4, x5, x6]) (by simp [results, hfn, hp, go_sem, c0, c1, c2, c3, c4, c5, c6]) hd hR
set_option maxHeartbeats 16000000 in
theorem c_site (w : World) : Calls Try.prog 36 #[] w fun e w' => e = .returned (siV (exP w.heap.size) exD) ∧ SiAt w' (exP w.heap.size) exD ∧ Below w.heap.size w w' := by
  obtain ⟨E0, h0⟩ : ∃ X, X = w.alloc (.cells #[.slice (some ⟨w.heap.size + 1, 0, none⟩) 1 1, .slice (some ⟨w.heap.size + 1 + 1, 0, none⟩) 1 1, .slice (some ⟨w.heap.size + 1 + 1 + 1, 0, none⟩) 1 1, .slice (some ⟨w.heap.size + 1 + 1 + 1 + 1, 0, none⟩) 2 2, .int .i64 1, .slice none 0 0, .slice (some ⟨w.heap.size + 1 + 1 + 1 + 1 + 1, 0, none⟩) 3 3] 29) := ⟨_, rfl⟩
  obtain ⟨E1, h1⟩ : ∃ X, X = E0.alloc (.cells #[.int .i64 1000] 90) := ⟨_, rfl⟩
  obtain ⟨E2, h2⟩ : ∃ X, X = E1.alloc (.cells #[.int .i64 0, .int .i64 500, .int .i64 0, .int .i64 0] 92) := ⟨_, rfl⟩
  obtain ⟨E3, h3⟩ : ∃ X, X = E2.alloc (.cells #[.int .i64 1000, .int .i64 0] 94) := ⟨_, rfl⟩
  obtain ⟨E4, h4⟩ : ∃ X, X = E3.alloc (.cells #[.int .i64 0, .int .i64 0, .int .i64 0, .int .i64 0, .int .i64 2, .int .i64 0, .int .i64 0, .int .i64 0] 96) := ⟨_, rfl⟩
  obtain ⟨E5, h5⟩ : ∃ X, X = E4.alloc (.cells #[.int .i64 0, .int .i64 4, .int .i64 0, .int .i64 0, .int .i64 0, .int .i64 4, .int .i64 0, .int .i64 0, .int .i64 1, .int .i64 4, .int .i64 0, .int .i64 0] 98) := ⟨_, rfl⟩
  have z0 : E0.heap.size = w.heap.size + 1 := by rw [h0, World.size_alloc]
  have z1 : E1.heap.size = w.heap.size + 1 + 1 := by rw [h1, World.size_alloc, z0]
  have z2 : E2.heap.size = w.heap.size + 1 + 1 + 1 := by rw [h2, World.size_alloc, z1]
  have z3 : E3.heap.size = w.heap.size + 1 + 1 + 1 + 1 := by rw [h3, World.size_alloc, z2]
  have z4 : E4.heap.size = w.heap.size + 1 + 1 + 1 + 1 + 1 := by rw [h4, World.size_alloc, z3]
  have g0 : E0.heap[w.heap.size]? = some (.cells #[.slice (some ⟨w.heap.size + 1, 0, none⟩) 1 1, .slice (some ⟨w.heap.size + 1 + 1, 0, none⟩) 1 1, .slice (some ⟨w.heap.size + 1 + 1 + 1, 0, none⟩) 1 1, .slice (some ⟨w.heap.size + 1 + 1 + 1 + 1, 0, none⟩) 2 2, .int .i64 1, .slice none 0 0, .slice (some ⟨w.heap.size + 1 + 1 + 1 + 1 + 1, 0, none⟩) 3 3] 29 (0, 0)) := by subst h0; exact heap_alloc_new _ _
  have g1 : E1.heap[w.heap.size + 1]? = some (.cells #[.int .i64 1000] 90 (0, 0)) := by rw [← z0]; subst h1; exact heap_alloc_new _ _
  have g2 : E2.heap[w.heap.size + 1 + 1]? = some (.cells #[.int .i64 0, .int .i64 500, .int .i64 0, .int .i64 0] 92 (0, 0)) := by rw [← z1]; subst h2; exact heap_alloc_new _ _
  have g3 : E3.heap[w.heap.size + 1 + 1 + 1]? = some (.cells #[.int .i64 1000, .int .i64 0] 94 (0, 0)) := by rw [← z2]; subst h3; exact heap_alloc_new _ _
  have g4 : E4.heap[w.heap.size + 1 + 1 + 1 + 1]? = some (.cells #[.int .i64 0, .int .i64 0, .int .i64 0, .int .i64 0, .int .i64 2, .int .i64 0, .int .i64 0, .int .i64 0] 96 (0, 0)) := by rw [← z3]; subst h4; exact heap_alloc_new _ _
  have g5 : E5.heap[w.heap.size + 1 + 1 + 1 + 1 + 1]? = some (.cells #[.int .i64 0, .int .i64 4, .int .i64 0, .int .i64 0, .int .i64 0, .int .i64 4, .int .i64 0, .int .i64 0, .int .i64 1, .int .i64 4, .int .i64 0, .int .i64 0] 98 (0, 0)) := by rw [← z4]; subst h5; exact heap_alloc_new _ _
  have G4 : E5.heap[w.heap.size + 1 + 1 + 1 + 1]? = some (.cells #[.int .i64 0, .int .i64 0, .int .i64 0, .int .i64 0, .int .i64 2, .int .i64 0, .int .i64 0, .int .i64 0] 96 (0, 0)) := by rw [h5]; exact old_heap _ g4
  have G3 : E5.heap[w.heap.size + 1 + 1 + 1]? = some (.cells #[.int .i64 1000, .int .i64 0] 94 (0, 0)) := by rw [h5]; refine old_heap _ ?_; rw [h4]; exact old_heap _ g3
  have G2 : E5.heap[w.heap.size + 1 + 1]? = some (.cells #[.int .i64 0, .int .i64 500, .int .i64 0, .int .i64 0] 92 (0, 0)) := by rw [h5]; refine old_heap _ ?_; rw [h4]; refine old_heap _ ?_; rw [h3]; exact old_heap _ g2
  have G1 : E5.heap[w.heap.size + 1]? = some (.cells #[.int .i64 1000] 90 (0, 0)) := by rw [h5]; refine old_heap _ ?_; rw [h4]; refine old_heap _ ?_; rw [h3]; refine old_heap _ ?_; rw [h2]; exact old_heap _ g1
  have G0 : E5.heap[w.heap.size]? = some (.cells #[.slice (some ⟨w.heap.size + 1, 0, none⟩) 1 1, .slice (some ⟨w.heap.size + 1 + 1, 0, none⟩) 1 1, .slice (some ⟨w.heap.size + 1 + 1 + 1, 0, none⟩) 1 1, .slice (some ⟨w.heap.size + 1 + 1 + 1 + 1, 0, none⟩) 2 2, .int .i64 1, .slice none 0 0, .slice (some ⟨w.heap.size + 1 + 1 + 1 + 1 + 1, 0, none⟩) 3 3] 29 (0, 0)) := by rw [h5]; refine old_heap _ ?_; rw [h4]; refine old_heap _ ?_; rw [h3]; refine old_heap _ ?_; rw [h2]; refine old_heap _ ?_; rw [h1]; exact old_heap _ g0
  have B5 : Below w.heap.size w E5 := by
    rw [h5]
    refine Below.alloc ?_ (by omega) _
    rw [h4]
    refine Below.alloc ?_ (by omega) _
    rw [h3]
    refine Below.alloc ?_ (by omega) _
    rw [h2]
    refine Below.alloc ?_ (by omega) _
    rw [h1]
    refine Below.alloc ?_ (by omega) _
    rw [h0]
    exact (Below.refl _ _).alloc (Nat.le_refl _) _
  have HG := Lib.hid (And.intro G0 (And.intro G1 (And.intro G2 (And.intro G3 (And.intro G4 g5)))))
  have HB := Lib.hid B5
  have HE := Lib.hid h5
  clear g0 g1 g2 g3 g4 g5 G0 G1 G2 G3 G4 B5 z0 z1 z2 z3 z4 h5
  subst h4 h3 h2 h1 h0
  go_enter Try.func36, Try.ntmps36
  go_wp2_with (fail)
  rw [← HE.out]
  obtain ⟨G0, G1, G2, G3, G4, G5⟩ := HG.out
  exact ret7 (i := 0) (b := w.heap.size) rfl rfl rfl G0 ⟨rfl, ⟨rw_block (α := Int) (k := 1) (F := inF) (l := [1000]) G1 (by simp [maxLen]), rw_block (α := Brk) (k := 4) (F := brkF) (l := [⟨0, 500, 0, 0⟩]) G2 (by simp [maxLen]), rw_block (α := Lp) (k := 2) (F := lpF) (l := [⟨1000, 0⟩]) G3 (by simp [maxLen]), rw_block (α := Rk) (k := 4) (F := rkF) (l := [⟨0, 0, 0, 0⟩, ⟨2, 0, 0, 0⟩]) G4 (by simp [maxLen]), Rw.nil _ _, rw_block (α := Hs) (k := 4) (F := hsF) (l := [⟨0, 4, 0, 0⟩, ⟨0, 4, 0, 0⟩, ⟨1, 4, 0, 0⟩]) G5 (by simp [maxLen])⟩, HB.out⟩
theorem ret1w {fn : Func} {a : Act} {W : World} {R : Ending → World → Prop} {b i : Nat} {x0 : Value} (hfn : fn.results = #[.cell i 32]) (hp : a.tmps[i]?.getD undef = .pointer (some ⟨b, 0, none⟩)) (hd : a.defers = [])
    (h : W.heap[b]? = some (.cells #[x0] 32 (0, 0))) (hR : R (.returned (.agg #[x0])) W) : bodyPost Try.prog fn R .ret a W := by
  have c0 : W.cell? ⟨b, 0, none⟩ = some x0 := cell_of h rfl
  exact bodyPost_ret (v := .agg #[x0]) (by simp [results, hfn, hp, go_sem, c0]) hd hR
theorem ret2w {fn : Func} {a : Act} {W : World} {R : Ending → World → Prop} {b i : Nat} {x0 x1 : Value} (hfn : fn.results = #[.cell i 36]) (hp : a.tmps[i]?.getD undef = .pointer (some ⟨b, 0, none⟩)) (hd : a.defers = [])
    (h : W.heap[b]? = some (.cells #[x0, x1] 36 (0, 0))) (hR : R (.returned (.agg #[x0, x1])) W) : bodyPost Try.prog fn R .ret a W := by
  have c0 : W.cell? ⟨b, 0, none⟩ = some x0 := cell_of h rfl
  have c1 : W.cell? ⟨b, 1, none⟩ = some x1 := cell_of h rfl
  exact bodyPost_ret (v := .agg #[x0, x1]) (by simp [results, hfn, hp, go_sem, c0, c1]) hd hR
/-- The law's wish. -/
def wxs : List (Svc × SvA) := [(⟨2, 2, 0, 0, 0, [], [], 0⟩, ⟨none, 0, none, 0⟩), (⟨1, 2, 0, 0, 0, [], [], 0⟩, ⟨none, 0, none, 0⟩)]
theorem wxs_at {X : World} {b : Nat} (h : X.heap[b]? = some (.cells (cellsV 8 svV wxs).toArray 64 (0, 0))) : WiAt X (some ⟨b, 0, none⟩) 2 wxs := by
  refine ⟨rv_block (l := wxs) h (by simp [wxs, maxLen]), fun x hx => ?_⟩
  rcases List.mem_cons.1 hx with rfl | hx
  · exact ⟨Rv.nil _, Rv.nil _, by decide⟩
  · rcases List.mem_cons.1 hx with rfl | hx
    · exact ⟨Rv.nil _, Rv.nil _, by decide⟩
    · cases hx
set_option maxHeartbeats 8000000 in
theorem c_wish (w : World) : Calls Try.prog 35 #[] w fun e w' => e = .returned (.agg #[.slice (some ⟨w.heap.size + 1, 0, none⟩) 2 2]) ∧ WiAt w' (some ⟨w.heap.size + 1, 0, none⟩) 2 wxs ∧ Below w.heap.size w w' := by
  obtain ⟨E0, h0⟩ : ∃ X, X = w.alloc (.cells #[.slice (some ⟨w.heap.size + 1, 0, none⟩) 2 2] 32) := ⟨_, rfl⟩
  obtain ⟨E1, h1⟩ : ∃ X, X = E0.alloc (.cells #[.int .i64 2, .int .i64 2, .int .i64 0, .int .u8 0, .int .i64 0, .slice none 0 0, .slice none 0 0, .int .i64 0, .int .i64 1, .int .i64 2, .int .i64 0, .int .u8 0, .int .i64 0, .slice none 0 0, .slice none 0 0, .int .i64 0] 64) := ⟨_, rfl⟩
  obtain ⟨B0, b0, b1, -⟩ := two_boxes h0 h1
  have HB := Lib.hid B0
  have HB0 := Lib.hid b0
  have HB1 := Lib.hid b1
  have HE := Lib.hid h1
  clear B0 b0 b1 h1
  subst h0
  go_enter Try.func35, Try.ntmps35
  go_wp2_with (fail)
  rw [← HE.out]
  exact ret1w (i := 0) (b := w.heap.size) rfl rfl rfl HB0.out ⟨rfl, wxs_at HB1.out, HB.out⟩
/-- The law's example. -/
def exW : WorldD := ⟨[⟨0, 0⟩, ⟨0, 0⟩, ⟨0, 0⟩], [⟨0, 0⟩, ⟨0, 2⟩, ⟨1, 0⟩]⟩
theorem made3 : (madeCells (.agg #[.int .u8 0, .int .i64 0] : Value).cells (3 * 2)).toList = cellsV 2 hstV exW.hosts := by kernel_rfl
theorem own_cur2 {w : World} {base n g : Nat} {T : TypeId} {xs : List Value} (h : w.ownsRow base T 2 (.slice (some ⟨g, 0, none⟩) n n) n xs) : w.heap[g]? = some (.cells xs.toArray T (0, 0)) := by
  obtain ⟨k1, ⟨e, -⟩ | ⟨g', cap', cur, e, k3, k4, k5, k6, k7, k8⟩⟩ := h
  · cases e
  · injection e with e1 _ e2
    injection e1 with e1
    injection e1 with e1
    subst e1 e2
    rw [k4]
    have : cur = xs.toArray := by
      apply Array.ext'
      rw [← k8, List.take_of_length_le (by simp; omega)]
    rw [this]
set_option maxHeartbeats 8000000 in
theorem c_example (w : World) : Calls Try.prog 34 #[] w fun e w' => ∃ p, e = .returned (.agg (woA p exW)) ∧ OwnW w.heap.size w' p exW ∧ Below w.heap.size w w' := by
  obtain ⟨i0, hi0, hz0, hz1, hz2⟩ := info_parts hst_info
  obtain ⟨E0, h0⟩ : ∃ X, X = w.alloc (.cells #[.slice none 0 0, .slice none 0 0] 36) := ⟨_, rfl⟩
  have B0 : Below w.heap.size w E0 := by rw [h0]; exact (Below.refl _ _).alloc (Nat.le_refl _) _
  have b0 : E0.heap[w.heap.size]? = some (.cells #[.slice none 0 0, .slice none 0 0] 36 (0, 0)) := by rw [h0]; exact box_new _ _ _
  have HS := Lib.hid (show E0.heap.size = w.heap.size + 1 by rw [h0, World.size_alloc])
  have HB := Lib.hid B0
  have HB0 := Lib.hid b0
  clear B0 b0
  go_enter Try.func34, Try.ntmps34
  go_wp2_with (at_make; rw [← h0]; refine wpList_make_full (P := Try.prog) _ rfl _ _ 33 rfl E0.heap.size 51 i0 (.agg #[.int .u8 0, .int .i64 0]) 2 Try.underlying33 hi0 hz0 hz1 .i64 .i64 _ _ 3 rfl rfl rfl rfl (by rw [hz2]; decide) (by decide) (Nat.le_refl _) ?_; intro w1 ho1 hg1; have HR1 := Lib.hid (own_cur2 ho1); have HK1 := Lib.hid ((Below.refl E0.heap.size E0).grown hg1 (Nat.le_refl _) (fun k hk => by cases hk)); have HKY := Lib.hid (show Below E0.heap.size E0 (w1.alloc (.cells #[.int .i64 0, .int .i64 0, .int .i64 0, .int .i64 2, .int .i64 1, .int .i64 0] 41)) from HK1.out.alloc HK1.out.size _); have v0 : (w1.alloc (.cells #[.int .i64 0, .int .i64 0, .int .i64 0, .int .i64 2, .int .i64 1, .int .i64 0] 41)).cell? ⟨w.heap.size, 0, none⟩ = some (.slice none 0 0) := cell_of (box_on HB0.out HKY.out (Nat.le_refl _)) rfl; have v1 : (w1.alloc (.cells #[.int .i64 0, .int .i64 0, .int .i64 0, .int .i64 2, .int .i64 1, .int .i64 0] 41)).cell? ⟨w.heap.size, 1, none⟩ = some (.slice none 0 0) := cell_of (box_on HB0.out HKY.out (Nat.le_refl _)) rfl; have u0 : (w1.alloc (.cells #[.int .i64 0, .int .i64 0, .int .i64 0, .int .i64 2, .int .i64 1, .int .i64 0] 41)).frozen? ⟨w.heap.size, 0, none⟩ = false := frz (box_on HB0.out HKY.out (Nat.le_refl _)) 0; have u1 : (w1.alloc (.cells #[.int .i64 0, .int .i64 0, .int .i64 0, .int .i64 2, .int .i64 1, .int .i64 0] 41)).frozen? ⟨w.heap.size, 1, none⟩ = false := frz (box_on HB0.out HKY.out (Nat.le_refl _)) 1; clear ho1 hg1)
  have e1 := HS.out
  have e2 := HK1.out.size
  have hrow : (w1.alloc (.cells #[.int .i64 0, .int .i64 0, .int .i64 0, .int .i64 2, .int .i64 1, .int .i64 0] 41)).heap[w.heap.size + 1]? = some (.cells (cellsV 2 hstV exW.hosts).toArray 51 (0, 0)) := by
    have h := HR1.out
    rw [made3, e1] at h
    exact old_heap _ h
  refine ret2w (i := 0) (b := w.heap.size) rfl rfl rfl (row_store2 (box_on HB0.out HKY.out (Nat.le_refl _)) _ _) ⟨⟨some ⟨w.heap.size + 1, 0, none⟩, 3, some ⟨w1.heap.size, 0, none⟩, 3⟩, rfl, ⟨own_block2 (n := 3) (by omega) (set_else (set_else hrow (by omega)) (by omega)) rfl (by decide), own_block2 (n := 3) (by omega) (set_else (set_else (box_new _ _ _) (by omega)) (by omega)) rfl (by decide)⟩, ?_⟩
  exact (((HB.out.trans (HKY.out.mono HB.out.size)).setCell (p := ⟨w.heap.size, 0, none⟩) (Nat.le_refl _) _).setCell (p := ⟨w.heap.size, 1, none⟩) (Nat.le_refl _) _)
set_option maxHeartbeats 8000000 in
theorem c_replicas (p : WP) (d : WorldD) (A : Option Addr) (c : Nat) (l : List Rep) (r : Bool) (hr : decide (d.reps = l) = r) (w : World) (h : Rv 2 repV w p.a2 p.c2 d.reps) (hl : Rv 2 repV w A c l) :
    Calls Try.prog 37 #[.agg (woA p d), .slice A l.length c] w fun e w' => e = .returned (.bool r) ∧ Below w.heap.size w w' := by
  unfold woA
  obtain ⟨W, hW⟩ : ∃ W, W = w.alloc (.cells (woA p d) 36) := ⟨_, rfl⟩
  have B0 : Below w.heap.size w W := by subst hW; exact (Below.refl _ _).alloc (Nat.le_refl _) _
  have HB := Lib.hid B0
  have hle := B0.size
  have x1 : W.cell? ⟨w.heap.size, 1, none⟩ = some (.slice p.a2 d.reps.length p.c2) := by subst hW; exact cell_of (box_new _ _ _) rfl
  have HC := Lib.hid (c_wrSame ⟨none, 0, p.a2, p.c2⟩ ⟨none, 0, A, c⟩ ⟨[], d.reps⟩ ⟨[], l⟩ r (by unfold sameB; rw [← hr]; simp) W ⟨Rv.nil _, h.on B0 (Nat.le_refl _), by simp⟩ ⟨Rv.nil _, hl.on B0 (Nat.le_refl _), by simp⟩)
  clear h hl hr B0
  unfold woA at hW
  rw [hW] at x1
  generalize hA : w.heap.size = B at *
  go_enter Try.func37, Try.ntmps37
  go_wp2_with (fail)
  rw [← hW]
  clear hW x1
  go_at_call 28
  refine HC.out.mono ?_
  rintro e w1 ⟨rfl, b1⟩
  have K1 := Lib.hid b1
  clear b1
  go_wp2_with (fail)
  go_ret
  exact ⟨rfl, below_join HB.out K1.out hle⟩
end Go.Proofs.Ytplncglgolhfaaa
