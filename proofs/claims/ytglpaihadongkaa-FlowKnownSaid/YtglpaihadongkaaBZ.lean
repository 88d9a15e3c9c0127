/-
  DERIVED. small of the law: a net by small numbers (stage 5).
-/
import Derived.Test.YtglpaihadongkaaBY
namespace Go.Proofs.Ytglpaihadongkaa
open Go.RowKit Go.Shelf
set_option maxRecDepth 100000
set_option linter.unusedSimpArgs false
set_option linter.unusedVariables false

/-- Edges by small numbers, as a slice. -/
def EdSl (w : World) (v : Value) (l : List (Nat × Nat × Nat)) : Prop :=
  ∃ A c, v = .slice A l.length c ∧ l.length ≤ c ∧ c ≤ maxLen ∧ (∀ p ∈ l, p.1 ≤ 255 ∧ p.2.1 ≤ 255 ∧ p.2.2 ≤ 255) ∧ (0 < l.length → ∃ b o, A = some ⟨b, o, none⟩ ∧ b < w.heap.size ∧ ∀ j p, l[j]? = some p → w.cell? ⟨b, o + j * 3, none⟩ = some (.int .u8 (p.1 : Int)) ∧ w.cell? ⟨b, o + j * 3 + 1, none⟩ = some (.int .u8 (p.2.1 : Int)) ∧ w.cell? ⟨b, o + j * 3 + 2, none⟩ = some (.int .u8 (p.2.2 : Int)))
theorem EdSl.shape {w : World} {v : Value} {l : List (Nat × Nat × Nat)} (h : EdSl w v l) : ∃ A c, v = .slice A l.length c ∧ l.length ≤ c ∧ c ≤ maxLen := by
  obtain ⟨A, c, h1, h2, h3, -⟩ := h
  exact ⟨A, c, h1, h2, h3⟩
theorem EdSl.small {w : World} {v : Value} {l : List (Nat × Nat × Nat)} (h : EdSl w v l) : ∀ p ∈ l, p.1 ≤ 255 ∧ p.2.1 ≤ 255 ∧ p.2.2 ≤ 255 := by
  obtain ⟨A, c, -, -, -, h4, -⟩ := h
  exact h4
theorem EdSl.at_ {w : World} {v : Value} {l : List (Nat × Nat × Nat)} (h : EdSl w v l) {k : Nat} {p : Nat × Nat × Nat} (hk : l[k]? = some p) : ∃ b o c, v = .slice (some ⟨b, o, none⟩) l.length c ∧ b < w.heap.size ∧ w.cell? ⟨b, o + k * 3, none⟩ = some (.int .u8 (p.1 : Int)) ∧ w.cell? ⟨b, o + k * 3 + 1, none⟩ = some (.int .u8 (p.2.1 : Int)) ∧ w.cell? ⟨b, o + k * 3 + 2, none⟩ = some (.int .u8 (p.2.2 : Int)) := by
  obtain ⟨A, c, h1, h2, h3, -, h4⟩ := h
  obtain ⟨b, o, e, hlt, hc⟩ := h4 (by have := (List.getElem?_eq_some_iff.1 hk).1; omega)
  subst e
  exact ⟨b, o, c, h1, hlt, hc k p hk⟩
theorem EdSl.on {w w' : World} {v : Value} {l : List (Nat × Nat × Nat)} {B : Nat} (h : EdSl w v l) (hb : Below B w w') (hB : w.heap.size ≤ B) : EdSl w' v l := by
  obtain ⟨A, c, h1, h2, h3, h5, h4⟩ := h
  refine ⟨A, c, h1, h2, h3, h5, fun h0 => ?_⟩
  obtain ⟨b, o, e, hlt, hc⟩ := h4 h0
  refine ⟨b, o, e, Nat.lt_of_lt_of_le hlt hb.size, fun j p hj => ?_⟩
  obtain ⟨c1, c2, c3⟩ := hc j p hj
  exact ⟨(hb.cell (p := ⟨b, o + j * 3, none⟩) (by show b < B; omega)).trans c1, (hb.cell (p := ⟨b, o + j * 3 + 1, none⟩) (by show b < B; omega)).trans c2, (hb.cell (p := ⟨b, o + j * 3 + 2, none⟩) (by show b < B; omega)).trans c3⟩
def nodesS (n : Nat) : Nat := 2 + n % 9
def arcS (N : Nat) (p : Nat × Nat × Nat) : Int × Int × Int := (((p.1 % N : Nat) : Int), ((p.2.1 % N : Nat) : Int), (p.2.2 : Int))
def arcsS (N : Nat) (l : List (Nat × Nat × Nat)) : List (Int × Int × Int) := (l.filter fun p => p.1 % N != p.2.1 % N).map (arcS N)
def endS (N a b : Nat) : Nat := if a % N = b % N then (a % N + 1) % N else b % N
theorem arcsS_snoc {N : Nat} {l : List (Nat × Nat × Nat)} {k : Nat} {p : Nat × Nat × Nat} (h : l[k]? = some p) : arcsS N (l.take (k + 1)) = arcsS N (l.take k) ++ if p.1 % N != p.2.1 % N then [arcS N p] else [] := by
  unfold arcsS
  rw [take_snoc h, List.filter_append, List.map_append]
  congr 1
  cases e : (p.1 % N != p.2.1 % N) <;> simp [e]
theorem arcsS_len (N : Nat) (l : List (Nat × Nat × Nat)) : (arcsS N l).length ≤ l.length := by
  unfold arcsS; rw [List.length_map]; exact List.length_filter_le _ _
theorem arcsS_ok {N : Nat} {l : List (Nat × Nat × Nat)} (hN : 2 ≤ N ∧ N ≤ 64) (hl : l.length ≤ 40) (h : ∀ p ∈ l, p.1 ≤ 255 ∧ p.2.1 ≤ 255 ∧ p.2.2 ≤ 255) : ntOk (N : Int) (arcsS N l) = true := by
  refine ntOk_iff.2 ⟨by omega, by omega, by have := arcsS_len N l; omega, fun a ha => ?_⟩
  unfold arcsS at ha
  obtain ⟨p, hp, rfl⟩ := List.mem_map.1 ha
  obtain ⟨hp1, hp2⟩ := List.mem_filter.1 hp
  obtain ⟨g1, g2, g3⟩ := h p hp1
  have m1 := Nat.mod_lt p.1 (show 0 < N by omega)
  have m2 := Nat.mod_lt p.2.1 (show 0 < N by omega)
  rw [bne_iff_ne] at hp2
  refine arOk_iff.2 ⟨⟨?_, ?_⟩, ⟨?_, ?_⟩, ?_, ?_, ?_⟩ <;> simp only [arcS] <;> omega
theorem endS_ok {N a b : Nat} (hN : 2 ≤ N) : a % N < N ∧ endS N a b < N ∧ a % N ≠ endS N a b := by
  have m1 := Nat.mod_lt a (show 0 < N by omega)
  have m2 := Nat.mod_lt b (show 0 < N by omega)
  unfold endS
  split
  · refine ⟨m1, Nat.mod_lt _ (by omega), ?_⟩
    by_cases e : a % N + 1 < N
    · rw [Nat.mod_eq_of_lt e]; omega
    · rw [show a % N + 1 = N by omega, Nat.mod_self]; omega
  · rename_i h; exact ⟨m1, m2, h⟩
/-- What small returns. -/
def SmPost (n : Nat) (l : List (Nat × Nat × Nat)) (a b : Nat) (w : World) (e : Ending) (w' : World) : Prop :=
  ∃ v, e = .returned (.tuple #[ntV (nodesS n : Int) v, .int .i64 ((a % nodesS n : Nat) : Int), .int .i64 (endS (nodesS n) a b : Int)]) ∧ w'.ownsRow w.heap.size 39 3 v (arcsS (nodesS n) (l.take 40)).length (cellsA (arcsS (nodesS n) (l.take 40))) ∧ Below w.heap.size w w'
/-- Between two rounds of small. -/
structure SmI (w : World) (N : Nat) (xs : List (Int × Int × Int)) (v : Value) (X : World) : Prop where
  r0 : X.heap[w.heap.size]? = some (.cells #[.int .i64 0, .slice none 0 0] 24 (0, 0))
  r1 : X.heap[w.heap.size + 1]? = some (.cells #[.int .i64 (N : Int), v] 24 (0, 0))
  own : X.ownsRow (w.heap.size + 2) 39 3 v xs.length (cellsA xs)
  bel : Below w.heap.size w X
theorem sm_end {w X : World} {n a b S : Nat} {l : List (Nat × Nat × Nat)} {v : Value} (h : SmI w (nodesS n) (arcsS (nodesS n) (l.take 40)) v X) (hS : S = a % nodesS n) :
    ∃ W5, W5 = (X.setCell ⟨w.heap.size, 0, none⟩ (.int .i64 (nodesS n : Int))).setCell ⟨w.heap.size, 1, none⟩ v ∧ W5.cell? ⟨w.heap.size, 0, none⟩ = some (.int .i64 (nodesS n : Int)) ∧ W5.cell? ⟨w.heap.size, 1, none⟩ = some v ∧
      ∀ d, SmPost n l a b w (.returned (.tuple #[.agg #[.int .i64 (nodesS n : Int), v], .int .i64 (S : Int), .int .i64 (endS (nodesS n) a b : Int)])) (W5.drewN d) := by
  refine ⟨_, rfl, ?_, ?_, fun d => ⟨v, by rw [hS]; rfl, ?_, ?_⟩⟩
  · exact cell_of (row_set3 (row_set3 h.r0 _) _) rfl
  · exact cell_of (row_set3 (row_set3 h.r0 _) _) rfl
  · refine own_mono (base := w.heap.size + 2) (own_row_kept h.own (fun g cur e hg => ?_)) (by omega)
    have hb := (ownsRow_lt h.own e).1
    show (((X.setCell ⟨w.heap.size, 0, none⟩ _).setCell ⟨w.heap.size, 1, none⟩ v).heap[g]? = _)
    rw [Below.heap_setCell _ ⟨w.heap.size, 1, none⟩ _ g (by show g ≠ w.heap.size; omega), Below.heap_setCell _ ⟨w.heap.size, 0, none⟩ _ g (by show g ≠ w.heap.size; omega)]
    exact hg
  · exact below_drewN ((h.bel.setCell (by show w.heap.size ≤ w.heap.size; omega) _).setCell (by show w.heap.size ≤ w.heap.size; omega) _)
theorem tmod_nat (a b : Nat) : Int.tmod (a : Int) (b : Int) = ((a % b : Nat) : Int) := rfl
set_option maxHeartbeats 16000000 in
theorem c_small (n : Nat) (hn : n ≤ 255) (L : Value) (l : List (Nat × Nat × Nat)) (a b : Nat) (ha : a ≤ 255) (hb : b ≤ 255) (w : World) (hL : EdSl w L l) :
    Calls Try.prog 27 #[.int .u8 (n : Int), L, .int .u8 (a : Int), .int .u8 (b : Int)] w (SmPost n l a b w) := by
  obtain ⟨A, c, rfl, hc1, hc2⟩ := hL.shape
  unfold maxLen at hc2
  obtain ⟨N, hN⟩ : ∃ N, N = nodesS n := ⟨_, rfl⟩
  have hNb : 2 ≤ N ∧ N ≤ 10 := by subst hN; unfold nodesS; omega
  have HN := Lib.hid hN
  have hw0 : IntKind.i64.wrap (n : Int) = (n : Int) := IntWalk.i64_in _ (by omega)
  have hs0 : (2 : Int) + (n : Int) % 9 = (N : Int) := by subst hN; unfold nodesS; omega
  have HLL := Lib.hid hL
  clear hL hN
  go_enter Try.func27, Try.ntmps27
  go_wp2_with (fail)
  obtain ⟨V, hV⟩ : ∃ V, V = (w.alloc (.cells #[.int .i64 0, .slice none 0 0] 24)).alloc (.cells #[.int .i64 (N : Int), .slice none 0 0] 24) := ⟨_, rfl⟩
  have HI0 := Lib.hid (show SmI w N (arcsS N (l.take 0)) (.slice none 0 0) V from by
    subst hV
    exact ⟨old_heap _ (heap_alloc_new _ _), row_new _ _ _ (by simp), World.ownsRow_nil _ _ _ _, ((Below.refl _ _).alloc (Nat.le_refl _) _).alloc (by simp) _⟩)
  have hzV : V.heap.size = w.heap.size + 2 := by subst hV; simp
  rw [← hV]
  clear hV hs0 hw0
  obtain ⟨i1, hi1, hz1', hz2, hz3⟩ := info_parts arc_info
  go_loopw [12] (fun i wr => ∃ (k : Nat) (v : Value), k ≤ l.length ∧ k ≤ 40 ∧ i = .int .i64 (k : Int) ∧ Hid (SmI w N (arcsS N (l.take k)) v wr) ∧ w.heap.size + 2 ≤ wr.heap.size) (fun i _ => l.length - (intOf i).toNat)
  case atStart => exact ⟨0, _, Nat.zero_le _, Nat.zero_le _, rfl, HI0, by omega⟩
  case round =>
    obtain ⟨k, v, hk, hk40, rfl, hI, hzr⟩ := hrel
    have hki : ((k : Nat) : Int).toNat = k := by omega
    have x0 : wr.cell? ⟨w.heap.size + 1, 0, none⟩ = some (.int .i64 (N : Int)) := cell_of hI.out.r1 rfl
    have x1 : wr.cell? ⟨w.heap.size + 1, 1, none⟩ = some v := cell_of hI.out.r1 rfl
    by_cases hlt : k < l.length
    · have hd1 : decide ((k : Int) < (l.length : Int)) = true := decide_eq_true (by omega)
      by_cases hlt2 : k < 40
      · have hd2 : decide ((k : Int) < 40) = true := decide_eq_true (by omega)
        obtain ⟨⟨p, q, x⟩, hx⟩ : ∃ p, l[k]? = some p := ⟨_, List.getElem?_eq_getElem hlt⟩
        obtain ⟨b', o, c', e, hbb, y0, y1, y2⟩ := HLL.out.at_ hx
        injection e with e1 hle e2
        clear hle
        subst e1 e2
        have hsm := HLL.out.small _ (List.mem_of_getElem? hx)
        simp only at hsm
        have cb : ∀ o, wr.cell? ⟨b', o, none⟩ = w.cell? ⟨b', o, none⟩ := fun o => hI.out.bel.cell (p := ⟨b', o, none⟩) (by show b' < w.heap.size; omega)
        have y0 := (cb _).trans y0
        have y1 := (cb _).trans y1
        have y2 := (cb _).trans y2
        simp only at y0 y1 y2
        have hN0 : N ≠ 0 := by omega
        have hp1 : IntKind.i64.wrap (p : Int) = (p : Int) := IntWalk.i64_in _ (by omega)
        have hq1 : IntKind.i64.wrap (q : Int) = (q : Int) := IntWalk.i64_in _ (by omega)
        have hx1 : IntKind.i64.wrap (x : Int) = (x : Int) := IntWalk.i64_in _ (by omega)
        have hp2 : Int.tmod (p : Int) (N : Int) = ((p % N : Nat) : Int) := rfl
        have hq2 : Int.tmod (q : Int) (N : Int) = ((q % N : Nat) : Int) := rfl
        have HXK := Lib.hid hx
        have hfm : Try.prog.follows Departure.mixedOrders = true := by kernel_rfl
        clear cb hx
        go_wp2_with (fail)
        refine region_z 26 hfm (S := fun X => X.cell? ⟨w.heap.size + 1, 0, none⟩ = some (.int .i64 (N : Int)) ∧ X.cell? ⟨b', o + k * 3, none⟩ = some (.int .u8 (p : Int)) ∧ X.cell? ⟨b', o + k * 3 + 1, none⟩ = some (.int .u8 (q : Int)) ∧ X.cell? ⟨b', o + k * 3 + 2, none⟩ = some (.int .u8 (x : Int))) ⟨x0, y0, y1, y2⟩ (fun hHeld => ?_)
        refine takeZ 0 (some 31) (by kernel_rfl) rfl rfl (by kernel_rfl) (by kernel_rfl) (by kernel_rfl) (fun _ _ _ h => h) (by rfl) (by intro w ⟨g1, g2, g3, g4⟩; go_simp; try with_reducible rfl) hHeld ?_
        simp only [Act.put, List.setIfInBounds_toArray, List.set_cons_zero, List.set_cons_succ]
        refine takeZ 1 (some 32) (by kernel_rfl) rfl rfl (by kernel_rfl) (by kernel_rfl) (by kernel_rfl) (fun _ _ _ h => h) (by rfl) (by intro w ⟨g1, g2, g3, g4⟩; go_simp; try with_reducible rfl) hHeld ?_
        simp only [Act.put, List.setIfInBounds_toArray, List.set_cons_zero, List.set_cons_succ]
        refine takeZ 2 (some 33) (by kernel_rfl) rfl rfl (by kernel_rfl) (by kernel_rfl) (by kernel_rfl) (fun _ _ _ h => h) (by rfl) (by intro w ⟨g1, g2, g3, g4⟩; go_simp; try with_reducible rfl) hHeld ?_
        simp only [Act.put, List.setIfInBounds_toArray, List.set_cons_zero, List.set_cons_succ]
        refine takeZ 3 (some 34) (by kernel_rfl) rfl rfl (by kernel_rfl) (by kernel_rfl) (by kernel_rfl) (fun _ _ _ h => h) (by rfl) (by intro w ⟨g1, g2, g3, g4⟩; go_simp; try with_reducible rfl) hHeld ?_
        simp only [Act.put, List.setIfInBounds_toArray, List.set_cons_zero, List.set_cons_succ]
        refine takeZ 4 (some 35) (by kernel_rfl) rfl rfl (by kernel_rfl) (by kernel_rfl) (by kernel_rfl) (fun _ _ _ h => h) (by rfl) (by intro w ⟨g1, g2, g3, g4⟩; go_simp; try with_reducible rfl) hHeld ?_
        simp only [Act.put, List.setIfInBounds_toArray, List.set_cons_zero, List.set_cons_succ]
        refine takeZ 5 (some 36) (by kernel_rfl) rfl rfl (by kernel_rfl) (by kernel_rfl) (by kernel_rfl) (fun _ _ _ h => h) (by rfl) (by intro w ⟨g1, g2, g3, g4⟩; go_simp; try with_reducible rfl) hHeld ?_
        simp only [Act.put, List.setIfInBounds_toArray, List.set_cons_zero, List.set_cons_succ]
        refine takeZ 6 (some 37) (by kernel_rfl) rfl rfl (by kernel_rfl) (by kernel_rfl) (by kernel_rfl) (fun _ _ _ h => h) (by rfl) (by intro w ⟨g1, g2, g3, g4⟩; go_simp; try with_reducible rfl) hHeld ?_
        simp only [Act.put, List.setIfInBounds_toArray, List.set_cons_zero, List.set_cons_succ]
        refine takeZ 7 (some 38) (by kernel_rfl) rfl rfl (by kernel_rfl) (by kernel_rfl) (by kernel_rfl) (fun _ _ _ h => h) (by rfl) (by intro w ⟨g1, g2, g3, g4⟩; go_simp; try with_reducible rfl) hHeld ?_
        simp only [Act.put, List.setIfInBounds_toArray, List.set_cons_zero, List.set_cons_succ]
        refine takeZ 8 (some 39) (by kernel_rfl) rfl rfl (by kernel_rfl) (by kernel_rfl) (by kernel_rfl) (fun _ _ _ h => h) (by rfl) (by intro w ⟨g1, g2, g3, g4⟩; go_simp; try with_reducible rfl) hHeld ?_
        simp only [Act.put, List.setIfInBounds_toArray, List.set_cons_zero, List.set_cons_succ]
        refine takeZ 9 (some 40) (by kernel_rfl) rfl rfl (by kernel_rfl) (by kernel_rfl) (by kernel_rfl) (fun _ _ _ h => h) (by rfl) (by intro w ⟨g1, g2, g3, g4⟩; go_simp; try with_reducible rfl) hHeld ?_
        simp only [Act.put, List.setIfInBounds_toArray, List.set_cons_zero, List.set_cons_succ]
        refine takeZ 10 (some 41) (by kernel_rfl) rfl rfl (by kernel_rfl) (by kernel_rfl) (by kernel_rfl) (fun _ _ _ h => h) (by rfl) (by intro w ⟨g1, g2, g3, g4⟩; go_simp; try with_reducible rfl) hHeld ?_
        simp only [Act.put, List.setIfInBounds_toArray, List.set_cons_zero, List.set_cons_succ]
        refine takeZ 11 (some 42) (by kernel_rfl) rfl rfl (by kernel_rfl) (by kernel_rfl) (by kernel_rfl) (fun _ _ _ h => h) (by rfl) (by intro w ⟨g1, g2, g3, g4⟩; go_simp; try with_reducible rfl) hHeld ?_
        simp only [Act.put, List.setIfInBounds_toArray, List.set_cons_zero, List.set_cons_succ]
        refine takeZ 12 (some 43) (by kernel_rfl) rfl rfl (by kernel_rfl) (by kernel_rfl) (by kernel_rfl) (fun _ _ _ h => h) (by rfl) (by intro w ⟨g1, g2, g3, g4⟩; go_simp; try with_reducible rfl) hHeld ?_
        simp only [Act.put, List.setIfInBounds_toArray, List.set_cons_zero, List.set_cons_succ]
        refine takeZ 13 (some 44) (by kernel_rfl) rfl rfl (by kernel_rfl) (by kernel_rfl) (by kernel_rfl) (fun _ _ _ h => h) (by rfl) (by intro w ⟨g1, g2, g3, g4⟩; go_simp; try with_reducible rfl) hHeld ?_
        simp only [Act.put, List.setIfInBounds_toArray, List.set_cons_zero, List.set_cons_succ]
        refine takeZ 14 (some 45) (by kernel_rfl) rfl rfl (by kernel_rfl) (by kernel_rfl) (by kernel_rfl) (fun _ _ _ h => h) (by rfl) (by intro w ⟨g1, g2, g3, g4⟩; go_simp; try with_reducible rfl) hHeld ?_
        simp only [Act.put, List.setIfInBounds_toArray, List.set_cons_zero, List.set_cons_succ]
        refine takeZ 15 (some 46) (by kernel_rfl) rfl rfl (by kernel_rfl) (by kernel_rfl) (by kernel_rfl) (fun _ _ _ h => h) (by rfl) (by intro w ⟨g1, g2, g3, g4⟩; go_simp; try with_reducible rfl) hHeld ?_
        simp only [Act.put, List.setIfInBounds_toArray, List.set_cons_zero, List.set_cons_succ]
        refine takeZ 16 (some 47) (by kernel_rfl) rfl rfl (by kernel_rfl) (by kernel_rfl) (by kernel_rfl) (fun _ _ _ h => h) (by rfl) (by intro w ⟨g1, g2, g3, g4⟩; go_simp; try with_reducible rfl) hHeld ?_
        simp only [Act.put, List.setIfInBounds_toArray, List.set_cons_zero, List.set_cons_succ]
        refine takeZ 17 (some 48) (by kernel_rfl) rfl rfl (by kernel_rfl) (by kernel_rfl) (by kernel_rfl) (fun _ _ _ h => h) (by rfl) (by intro w ⟨g1, g2, g3, g4⟩; go_simp; try with_reducible rfl) hHeld ?_
        simp only [Act.put, List.setIfInBounds_toArray, List.set_cons_zero, List.set_cons_succ]
        refine takeZ 18 (some 49) (by kernel_rfl) rfl rfl (by kernel_rfl) (by kernel_rfl) (by kernel_rfl) (fun _ _ _ h => h) (by rfl) (by intro w ⟨g1, g2, g3, g4⟩; go_simp; try with_reducible rfl) hHeld ?_
        simp only [Act.put, List.setIfInBounds_toArray, List.set_cons_zero, List.set_cons_succ]
        refine takeZ 19 (some 50) (by kernel_rfl) rfl rfl (by kernel_rfl) (by kernel_rfl) (by kernel_rfl) (fun _ _ _ h => h) (by rfl) (by intro w ⟨g1, g2, g3, g4⟩; go_simp; try with_reducible rfl) hHeld ?_
        simp only [Act.put, List.setIfInBounds_toArray, List.set_cons_zero, List.set_cons_succ]
        refine takeZ 20 (some 51) (by kernel_rfl) rfl rfl (by kernel_rfl) (by kernel_rfl) (by kernel_rfl) (fun _ _ _ h => h) (by rfl) (by intro w ⟨g1, g2, g3, g4⟩; go_simp; try with_reducible rfl) hHeld ?_
        simp only [Act.put, List.setIfInBounds_toArray, List.set_cons_zero, List.set_cons_succ]
        refine takeZ 21 (some 52) (by kernel_rfl) rfl rfl (by kernel_rfl) (by kernel_rfl) (by kernel_rfl) (fun _ _ _ h => h) (by rfl) (by intro w ⟨g1, g2, g3, g4⟩; go_simp; try with_reducible rfl) hHeld ?_
        simp only [Act.put, List.setIfInBounds_toArray, List.set_cons_zero, List.set_cons_succ]
        refine takeZ 22 (some 53) (by kernel_rfl) rfl rfl (by kernel_rfl) (by kernel_rfl) (by kernel_rfl) (fun _ _ _ h => h) (by rfl) (by intro w ⟨g1, g2, g3, g4⟩; go_simp; try with_reducible rfl) hHeld ?_
        simp only [Act.put, List.setIfInBounds_toArray, List.set_cons_zero, List.set_cons_succ]
        refine takeZ 23 (some 54) (by kernel_rfl) rfl rfl (by kernel_rfl) (by kernel_rfl) (by kernel_rfl) (fun _ _ _ h => h) (by rfl) (by intro w ⟨g1, g2, g3, g4⟩; go_simp; try with_reducible rfl) hHeld ?_
        simp only [Act.put, List.setIfInBounds_toArray, List.set_cons_zero, List.set_cons_succ]
        refine takeZ 24 (some 55) (by kernel_rfl) rfl rfl (by kernel_rfl) (by kernel_rfl) (by kernel_rfl) (fun _ _ _ h => h) (by rfl) (by intro w ⟨g1, g2, g3, g4⟩; go_simp; try with_reducible rfl) hHeld ?_
        simp only [Act.put, List.setIfInBounds_toArray, List.set_cons_zero, List.set_cons_succ]
        refine oneZ 25 rfl (by kernel_rfl) (fun K hK => ?_)
        go_simp
        refine hK.out _ _ (.inr ⟨alloc_cell x0 _, alloc_cell y0 _, alloc_cell y1 _, alloc_cell y2 _⟩) ?_
        clear hK K
        try simp only [Act.put, List.setIfInBounds_toArray, List.set_cons_zero, List.set_cons_succ]
        refine oneZ 26 rfl (by kernel_rfl) (fun K hK => ?_)
        go_simp
        refine hK.out _ _ (.inl rfl) ?_
        clear hK K hHeld
        refine doneZ (by kernel_rfl) ?_ _
        obtain ⟨P, hP⟩ : ∃ P, P = (p : Int) % (N : Int) := ⟨_, rfl⟩
        obtain ⟨Q, hQ⟩ : ∃ Q, Q = (q : Int) % (N : Int) := ⟨_, rfl⟩
        have HP := Lib.hid (show P = ((p % N : Nat) : Int) by rw [hP]; rfl)
        have HQ := Lib.hid (show Q = ((q % N : Nat) : Int) by rw [hQ]; rfl)
        rw [← hP, ← hQ]
        obtain ⟨U, hU⟩ : ∃ U, U = (wr.alloc (.cells #[.int .i64 P, .int .i64 Q, .int .i64 (x : Int)] 39)).drew := ⟨_, rfl⟩
        have BU : Below (w.heap.size + 2) wr U := by subst hU; exact ((Below.refl _ _).alloc hzr _).drew
        have BW' : Below w.heap.size wr U := by subst hU; exact ((Below.refl _ _).alloc (by omega) _).drew
        have HU := Lib.hid (show SmI w N (arcsS N (l.take k)) v U from ⟨(BU.block _ (by omega)).trans hI.out.r0, (BU.block _ (by omega)).trans hI.out.r1, own_row_kept hI.out.own (fun g cur _ h => by subst hU; exact old_heap _ h), hI.out.bel.trans BW'⟩)
        have HA := Lib.hid (show U.heap[wr.heap.size]? = some (.cells #[.int .i64 P, .int .i64 Q, .int .i64 (x : Int)] 39 (0, 0)) by subst hU; exact heap_alloc_new _ _)
        obtain ⟨a0, a1, a2⟩ := three_cells HA.out
        have hzU : wr.heap.size < U.heap.size := by subst hU; simp
        have u0 : U.cell? ⟨w.heap.size + 1, 0, none⟩ = some (.int .i64 (N : Int)) := cell_of HU.out.r1 rfl
        have u1 : U.cell? ⟨w.heap.size + 1, 1, none⟩ = some v := cell_of HU.out.r1 rfl
        rw [← hU]
        clear hU BU BW' x0 x1 y0 y1 y2 hp1 hq1 hx1 hp2 hq2 hP hQ hsm
        have hstep := arcsS_snoc (N := N) HXK.out
        by_cases hpq : P = Q
        · have hpb : (P != Q) = false := by rw [hpq]; simp
          have hI2 := Lib.hid (show SmI w N (arcsS N (l.take (k + 1))) v U by
            rw [hstep, show ((p, q, x).1 % N != (p, q, x).2.1 % N) = false by have h1 := HP.out; have h2 := HQ.out; simp; omega]
            simp only [Bool.false_eq_true, if_false, List.append_nil]
            exact HU.out)
          clear hpq hstep
          go_wp2_with (fail)
          go_roundw
          case rel => exact ⟨k + 1, v, by omega, by omega, by go_num, hI2, by omega⟩
          case measure => simp only [intOf]; omega
        · have hpb : (P != Q) = true := by rw [bne_iff_ne]; exact hpq
          have hcs : cellsA (arcsS N (l.take (k + 1))) = cellsA (arcsS N (l.take k)) ++ [.int .i64 P, .int .i64 Q, .int .i64 (x : Int)] ∧ (arcsS N (l.take (k + 1))).length = (arcsS N (l.take k)).length + 1 := by
            rw [hstep, show ((p, q, x).1 % N != (p, q, x).2.1 % N) = true by have h1 := HP.out; have h2 := HQ.out; simp; omega]
            rw [if_pos rfl, HP.out, HQ.out]
            exact ⟨by unfold cellsA; rw [List.flatMap_append]; rfl, by simp⟩
          have HCS := Lib.hid hcs
          have hlen := arcsS_len N (l.take k)
          rw [List.length_take] at hlen
          obtain ⟨nn, hnn⟩ : ∃ n, n = (arcsS N (l.take k)).length := ⟨_, rfl⟩
          have hnn40 : nn ≤ 40 := by omega
          have HOU := Lib.hid (show U.ownsRow (w.heap.size + 2) 39 3 v nn (cellsA (arcsS N (l.take k))) by rw [hnn]; exact HU.out.own)
          have HNN := Lib.hid hnn
          obtain ⟨As, ns, cs, rfl⟩ := own_shape HOU.out
          clear hpq hstep hcs hlen hnn
          go_wp2_with (at_builtin; refine wpList_append_lies _ rfl _ _ 22 rfl (w.heap.size + 2) 39 i1 (.agg #[.int .i64 0, .int .i64 0, .int .i64 0]) 3 24 Try.underlying22 hi1 hz1' hz2 hz3 rfl (by decide) (.slice As ns cs) nn _ rfl (HOU.out.alloc _) ⟨U.heap.size, 0, none⟩ 1 1 [.int .i64 P, .int .i64 Q, .int .i64 (x : Int)] rfl rfl (World.news_of_block (heap_alloc_new _ _)) (by simp [Value.oneCell']) (by decide) (by unfold maxLen; omega) (by omega) (by simp <;> omega) (U.heap.size + 1) (by simp) ?_; intro g4 cap4 Z hown hgrow _ _; have HBZ := Lib.hid (((Below.refl (w.heap.size + 2) U).alloc (by omega) _).grown hgrow (by simp <;> omega) (fun k hk => (ownsRow_lt HOU.out hk).1)); have HOZ := Lib.hid hown; have r1Z := (HBZ.out.block _ (by omega)).trans HU.out.r1; have z1 : Z.cell? ⟨w.heap.size + 1, 1, none⟩ = some (.slice As ns cs) := cell_of r1Z rfl; have z2 : Z.frozen? ⟨w.heap.size + 1, 1, none⟩ = false := (by simp [World.frozen?, r1Z]); clear hown hgrow r1Z)
          have HI2 := Lib.hid (show SmI w N (arcsS N (l.take (k + 1))) (.slice (some ⟨g4, 0, none⟩) (nn + 1) cap4) (Z.setCell ⟨w.heap.size + 1, 1, none⟩ (.slice (some ⟨g4, 0, none⟩) (nn + 1) cap4)) from
            ⟨(Below.heap_setCell Z ⟨w.heap.size + 1, 1, none⟩ _ w.heap.size (by show w.heap.size ≠ w.heap.size + 1; omega)).trans ((HBZ.out.block _ (by omega)).trans HU.out.r0), row_set3 ((HBZ.out.block _ (by omega)).trans HU.out.r1) _,
              by rw [HCS.out.1, HCS.out.2, ← HNN.out]; exact own_row_kept HOZ.out (fun g cur e h => by
                    obtain rfl : g4 = g := by simpa [Value.ownBlock] using e
                    exact (Below.heap_setCell Z ⟨w.heap.size + 1, 1, none⟩ _ g4 (by have := (ownsRow_lt HOZ.out (g := g4) rfl).1; show g4 ≠ w.heap.size + 1; omega)).trans h),
              (HU.out.bel.trans (HBZ.out.mono (by omega))).setCell (by show w.heap.size ≤ w.heap.size + 1; omega) _⟩)
          have hzZ : U.heap.size ≤ Z.heap.size := HBZ.out.size
          clear z1 z2
          go_roundw
          case rel => exact ⟨k + 1, _, by omega, by omega, by go_num, HI2, by simp [World.setCell]; omega⟩
          case measure => simp only [intOf]; omega
      · have hd2 : decide ((k : Int) < 40) = false := decide_eq_false (by omega)
        have htk : l.take 40 = l.take k := by rw [show k = 40 by omega]
        have HT := Lib.hid htk
        have hN0 : N ≠ 0 := by omega
        have ha1 : IntKind.i64.wrap (a : Int) = (a : Int) := IntWalk.i64_in _ (by omega)
        have hb1 : IntKind.i64.wrap (b : Int) = (b : Int) := IntWalk.i64_in _ (by omega)
        obtain ⟨S, hS⟩ : ∃ S, S = a % N := ⟨_, rfl⟩
        obtain ⟨T, hT⟩ : ∃ T, T = b % N := ⟨_, rfl⟩
        have hsa : (a : Int) % (N : Int) = (S : Int) := by rw [hS]; rfl
        have hsb : (b : Int) % (N : Int) = (T : Int) := by rw [hT]; rfl
        have hSN : S < N := by rw [hS]; exact Nat.mod_lt _ (by omega)
        have HI := Lib.hid (show SmI w N (arcsS N (l.take 40)) v wr by rw [htk]; exact hI.out)
        obtain ⟨As, ns, cs, rfl⟩ := own_shape HI.out.own
        have HE := Lib.hid (show ∀ E : Nat, E = endS N a b → E = if S = T then (S + 1) % N else T from fun E hE => by rw [hE, hS, hT]; rfl)
        have HS := Lib.hid hS
        clear hS hT htk
        have f0 : wr.frozen? ⟨w.heap.size, 0, none⟩ = false := by simp [World.frozen?, HI.out.r0]
        have f1 : wr.frozen? ⟨w.heap.size, 1, none⟩ = false := by simp [World.frozen?, HI.out.r0]
        have c0 : wr.cell? ⟨w.heap.size, 0, none⟩ = some (.int .i64 0) := cell_of HI.out.r0 rfl
        have c1 : wr.cell? ⟨w.heap.size, 1, none⟩ = some (.slice none 0 0) := cell_of HI.out.r0 rfl
        have HFIN := Lib.hid (show ∃ W5, W5 = (wr.setCell ⟨w.heap.size, 0, none⟩ (.int .i64 (N : Int))).setCell ⟨w.heap.size, 1, none⟩ (.slice As ns cs) ∧ W5.cell? ⟨w.heap.size, 0, none⟩ = some (.int .i64 (N : Int)) ∧ W5.cell? ⟨w.heap.size, 1, none⟩ = some (.slice As ns cs) ∧ ∀ d, SmPost n l a b w (.returned (.tuple #[.agg #[.int .i64 (N : Int), .slice As ns cs], .int .i64 (S : Int), .int .i64 (endS N a b : Int)])) (W5.drewN d) by have h := HI.out; have h2 := HS.out; rw [HN.out] at h h2 ⊢; exact sm_end h h2)
        by_cases hST : S = T
        · have hst : ((S : Int) == (T : Int)) = true := by rw [hST]; simp
          have hw2 : IntKind.i64.wrap ((S : Int) + 1) = (S : Int) + 1 := IntWalk.i64_in _ (by omega)
          have hm2 : ((S : Int) + 1) % (N : Int) = ((endS N a b : Nat) : Int) := by rw [HE.out _ rfl, if_pos hST]; rfl
          clear hST
          go_wp2_with (fail)
          go_quiet (fail)
          go_wp2_with (fail)
          obtain ⟨W5, h5, c50, c51, hpost⟩ := HFIN.out
          rw [show ((wr.drewN nq).setCell ⟨w.heap.size, 0, none⟩ (.int .i64 (N : Int))).setCell ⟨w.heap.size, 1, none⟩ (.slice As ns cs) = W5.drewN nq by rw [h5]; rfl]
          rw [hsa, hm2]
          clear h5
          refine bodyPost_ret (v := .tuple #[.agg #[.int .i64 (N : Int), .slice As ns cs], .int .i64 (S : Int), .int .i64 (endS N a b : Int)]) ?_ rfl (hpost _)
          simp [results, Try.results27, go_sem, c50, c51]
        · have hst : ((S : Int) == (T : Int)) = false := by rw [beq_eq_false_iff_ne]; omega
          have hm2 : (T : Int) = ((endS N a b : Nat) : Int) := by rw [HE.out _ rfl, if_neg hST]
          clear hST
          go_wp2_with (fail)
          go_quiet (fail)
          go_wp2_with (fail)
          obtain ⟨W5, h5, c50, c51, hpost⟩ := HFIN.out
          rw [show ((wr.drewN nq).setCell ⟨w.heap.size, 0, none⟩ (.int .i64 (N : Int))).setCell ⟨w.heap.size, 1, none⟩ (.slice As ns cs) = W5.drewN nq by rw [h5]; rfl]
          rw [hsa, hsb, hm2]
          clear h5
          refine bodyPost_ret (v := .tuple #[.agg #[.int .i64 (N : Int), .slice As ns cs], .int .i64 (S : Int), .int .i64 (endS N a b : Int)]) ?_ rfl (hpost _)
          simp [results, Try.results27, go_sem, c50, c51]
    · have hd1 : decide ((k : Int) < (l.length : Int)) = false := decide_eq_false (by omega)
      have htk : l.take 40 = l.take k := by rw [List.take_of_length_le (by omega), List.take_of_length_le (by omega)]
      have HT := Lib.hid htk
      have hN0 : N ≠ 0 := by omega
      have ha1 : IntKind.i64.wrap (a : Int) = (a : Int) := IntWalk.i64_in _ (by omega)
      have hb1 : IntKind.i64.wrap (b : Int) = (b : Int) := IntWalk.i64_in _ (by omega)
      obtain ⟨S, hS⟩ : ∃ S, S = a % N := ⟨_, rfl⟩
      obtain ⟨T, hT⟩ : ∃ T, T = b % N := ⟨_, rfl⟩
      have hsa : (a : Int) % (N : Int) = (S : Int) := by rw [hS]; rfl
      have hsb : (b : Int) % (N : Int) = (T : Int) := by rw [hT]; rfl
      have hSN : S < N := by rw [hS]; exact Nat.mod_lt _ (by omega)
      have HI := Lib.hid (show SmI w N (arcsS N (l.take 40)) v wr by rw [htk]; exact hI.out)
      obtain ⟨As, ns, cs, rfl⟩ := own_shape HI.out.own
      have HE := Lib.hid (show ∀ E : Nat, E = endS N a b → E = if S = T then (S + 1) % N else T from fun E hE => by rw [hE, hS, hT]; rfl)
      have HS := Lib.hid hS
      clear hS hT htk
      have f0 : wr.frozen? ⟨w.heap.size, 0, none⟩ = false := by simp [World.frozen?, HI.out.r0]
      have f1 : wr.frozen? ⟨w.heap.size, 1, none⟩ = false := by simp [World.frozen?, HI.out.r0]
      have c0 : wr.cell? ⟨w.heap.size, 0, none⟩ = some (.int .i64 0) := cell_of HI.out.r0 rfl
      have c1 : wr.cell? ⟨w.heap.size, 1, none⟩ = some (.slice none 0 0) := cell_of HI.out.r0 rfl
      have HFIN := Lib.hid (show ∃ W5, W5 = (wr.setCell ⟨w.heap.size, 0, none⟩ (.int .i64 (N : Int))).setCell ⟨w.heap.size, 1, none⟩ (.slice As ns cs) ∧ W5.cell? ⟨w.heap.size, 0, none⟩ = some (.int .i64 (N : Int)) ∧ W5.cell? ⟨w.heap.size, 1, none⟩ = some (.slice As ns cs) ∧ ∀ d, SmPost n l a b w (.returned (.tuple #[.agg #[.int .i64 (N : Int), .slice As ns cs], .int .i64 (S : Int), .int .i64 (endS N a b : Int)])) (W5.drewN d) by have h := HI.out; have h2 := HS.out; rw [HN.out] at h h2 ⊢; exact sm_end h h2)
      by_cases hST : S = T
      · have hst : ((S : Int) == (T : Int)) = true := by rw [hST]; simp
        have hw2 : IntKind.i64.wrap ((S : Int) + 1) = (S : Int) + 1 := IntWalk.i64_in _ (by omega)
        have hm2 : ((S : Int) + 1) % (N : Int) = ((endS N a b : Nat) : Int) := by rw [HE.out _ rfl, if_pos hST]; rfl
        clear hST
        go_wp2_with (fail)
        go_quiet (fail)
        go_wp2_with (fail)
        obtain ⟨W5, h5, c50, c51, hpost⟩ := HFIN.out
        rw [show ((wr.drewN nq).setCell ⟨w.heap.size, 0, none⟩ (.int .i64 (N : Int))).setCell ⟨w.heap.size, 1, none⟩ (.slice As ns cs) = W5.drewN nq by rw [h5]; rfl]
        rw [hsa, hm2]
        clear h5
        refine bodyPost_ret (v := .tuple #[.agg #[.int .i64 (N : Int), .slice As ns cs], .int .i64 (S : Int), .int .i64 (endS N a b : Int)]) ?_ rfl (hpost _)
        simp [results, Try.results27, go_sem, c50, c51]
      · have hst : ((S : Int) == (T : Int)) = false := by rw [beq_eq_false_iff_ne]; omega
        have hm2 : (T : Int) = ((endS N a b : Nat) : Int) := by rw [HE.out _ rfl, if_neg hST]
        clear hST
        go_wp2_with (fail)
        go_quiet (fail)
        go_wp2_with (fail)
        obtain ⟨W5, h5, c50, c51, hpost⟩ := HFIN.out
        rw [show ((wr.drewN nq).setCell ⟨w.heap.size, 0, none⟩ (.int .i64 (N : Int))).setCell ⟨w.heap.size, 1, none⟩ (.slice As ns cs) = W5.drewN nq by rw [h5]; rfl]
        rw [hsa, hsb, hm2]
        clear h5
        refine bodyPost_ret (v := .tuple #[.agg #[.int .i64 (N : Int), .slice As ns cs], .int .i64 (S : Int), .int .i64 (endS N a b : Int)]) ?_ rfl (hpost _)
        simp [results, Try.results27, go_sem, c50, c51]
end Go.Proofs.Ytglpaihadongkaa
