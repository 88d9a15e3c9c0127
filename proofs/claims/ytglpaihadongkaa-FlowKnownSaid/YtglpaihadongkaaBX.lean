/-
  DERIVED. slices.Equal of numbers; the law's sample (stage 5).
-/
import Derived.Test.YtglpaihadongkaaBW
import Derived.Test.YtglpaihadongkaaAK
namespace Go.Proofs.Ytglpaihadongkaa
open Go.RowKit Go.Shelf
set_option maxRecDepth 100000
set_option linter.unusedSimpArgs false
set_option linter.unusedVariables false

theorem take_same {α : Type} {l m : List α} {k : Nat} {x : α} (h : l.take k = m.take k) (h1 : l[k]? = some x) (h2 : m[k]? = some x) : l.take (k + 1) = m.take (k + 1) := by
  rw [List.take_add_one, List.take_add_one, h, h1, h2]
set_option maxHeartbeats 4000000 in
theorem c_eqInts (l m : List Int) (r : Bool) (hr : decide (l = m) = r) (v u : Value) (w : World) (hv : IntSl w v l) (hu : IntSl w u m) :
    Calls Try.prog 24 #[v, u] w fun e w' => e = .returned (.bool r) ∧ ∃ n, w' = w.drewN n := by
  have HV := Lib.hid hv
  have HU := Lib.hid hu
  have HR := Lib.hid hr
  obtain ⟨A, c, rfl, hc1, hc2⟩ := hv.shape
  obtain ⟨B, d, rfl, hd1, hd2⟩ := hu.shape
  unfold maxLen at hc2 hd2
  clear hv hu hr
  by_cases hl : l.length = m.length
  · have hne : (((l.length : Nat) : Int) != ((m.length : Nat) : Int)) = false := by rw [bne_eq_false_iff_eq]; omega
    have HL := Lib.hid hl
    clear hl
    go_enter Try.func24, Try.ntmps24
    go_wp2_with (fail)
    go_loopw [13] (fun i wr => ∃ (k n : Nat), k ≤ l.length ∧ i = .int .i64 (k : Int) ∧ Hid (l.take k = m.take k) ∧ wr = w.drewN n) (fun i wr => l.length - (intOf i).toNat)
    case atStart => exact ⟨0, 0, Nat.zero_le _, rfl, Lib.hid rfl, rfl⟩
    case round =>
      obtain ⟨k, n, hk, rfl, htk, rfl⟩ := hrel
      by_cases hlt : k < l.length
      · obtain ⟨x, hx⟩ : ∃ x, l[k]? = some x := ⟨_, List.getElem?_eq_getElem hlt⟩
        obtain ⟨y, hy⟩ : ∃ y, m[k]? = some y := ⟨_, List.getElem?_eq_getElem (by have := HL.out; omega)⟩
        obtain ⟨b1, o1, c1, e1, -, -, -, p1⟩ := HV.out.at_ hx
        obtain ⟨b2, o2, c2, e2, -, -, -, q1⟩ := HU.out.at_ hy
        injection e1 with e1 _ e1'
        injection e2 with e2 _ e2'
        subst e1 e1' e2 e2'
        have HX := Lib.hid hx
        have HY := Lib.hid hy
        have hk2 : (k : Int) < ((m.length : Nat) : Int) := by have := HL.out; omega
        have hki : ((k : Nat) : Int).toNat = k := by omega
        clear hx hy
        rcases hxy : (x == y) with _ | _
        · have hrr : r = false := by
            rw [← HR.out]
            refine decide_eq_false fun h => ?_
            have h1 := HX.out
            rw [h, HY.out] at h1
            injection h1 with h1
            subst h1
            simp at hxy
          subst hrr
          go_wp2_with (fail)
          go_quiet (fail)
          go_wp2_with (fail)
          go_ret
          exact ⟨rfl, _, World.drewN_drewN _ _ _⟩
        · have HXY := Lib.hid (show x = y by simpa using hxy)
          go_wp2_with (fail)
          go_quiet (fail)
          go_wp2_with (fail)
          go_roundw
          case rel => exact ⟨k + 1, _, by omega, by go_num, Lib.hid (take_same htk.out HX.out (by rw [HY.out, HXY.out])), rfl⟩
          case measure => simp only [intOf]; omega
      · obtain rfl : k = l.length := by omega
        have hrr : r = true := by
          rw [← HR.out, decide_eq_true]
          have := htk.out
          rw [List.take_of_length_le (Nat.le_refl _), HL.out, List.take_of_length_le (Nat.le_refl _)] at this
          exact this
        subst hrr
        go_wp2_with (fail)
        go_ret
        exact ⟨rfl, n, rfl⟩
  · have hne : (((l.length : Nat) : Int) != ((m.length : Nat) : Int)) = true := by rw [bne_iff_ne]; omega
    have hrr : r = false := by rw [← HR.out]; exact decide_eq_false (fun h => hl (by rw [h]))
    subst hrr
    clear hl
    go_enter Try.func24, Try.ntmps24
    go_wp2_with (fail)
    go_ret
    exact ⟨rfl, 0, rfl⟩
theorem intSl_lit {W : World} {b : Nat} {cs : Array Value} {T : TypeId} (l : List Int) (hb : W.heap[b]? = some (.cells cs T (0, 0))) (hc : cs.toList = l.map fun x => Value.int .i64 x) (h0 : 0 < l.length) (hm : l.length ≤ 100000) : IntSl W (.slice (some ⟨b, 0, none⟩) l.length l.length) l := by
  refine ⟨some ⟨b, 0, none⟩, l.length, rfl, Nat.le_refl _, by unfold maxLen; omega, (by intro h; cases h), fun _ => ⟨b, 0, rfl, at_lt hb, fun j x hj => ?_⟩⟩
  have e : cs[0 + j]? = some (.int .i64 x) := by
    rw [← Array.getElem?_toList, hc, List.getElem?_map, Nat.zero_add, hj]; rfl
  simp [World.cell?, hb]
  rw [Nat.zero_add] at e
  exact e
theorem ptSl_lit {W : World} {b : Nat} {cs : Array Value} {T : TypeId} (l : List (Int × Int × Int)) (hb : W.heap[b]? = some (.cells cs T (0, 0))) (hc : cs.toList = cellsA l) (hm : l.length ≤ 100000) : PtSl W (.slice (some ⟨b, 0, none⟩) l.length l.length) l := by
  refine ⟨some ⟨b, 0, none⟩, l.length, rfl, Nat.le_refl _, by unfold maxLen; omega, fun _ => ⟨b, 0, rfl, at_lt hb, fun j p hj => ?_⟩⟩
  obtain ⟨h1, h2, h3⟩ := cellsA_get l j p hj
  rw [← hc, Array.getElem?_toList] at h1 h2 h3
  rw [Nat.zero_add]
  exact ⟨cell_of hb h1, cell_of hb h2, cell_of hb h3⟩
theorem c_sample (w : World) : Calls Try.prog 30 #[] w fun e w' => ∃ P, e = .returned (ntV 4 P) ∧ PtSl w' P smpL ∧ Below w.heap.size w w' := by
  obtain ⟨W2, hW2⟩ : ∃ W, W = (w.alloc (.cells #[.int .i64 4, .slice (some ⟨w.heap.size + 1, 0, none⟩) 5 5] 24)).alloc (.cells #[.int .i64 0, .int .i64 1, .int .i64 3, .int .i64 0, .int .i64 2, .int .i64 2, .int .i64 1, .int .i64 2, .int .i64 5, .int .i64 1, .int .i64 3, .int .i64 2, .int .i64 2, .int .i64 3, .int .i64 4] 39) := ⟨_, rfl⟩
  have HZ := Lib.hid (show W2.heap[w.heap.size]? = some (.cells #[.int .i64 4, .slice (some ⟨w.heap.size + 1, 0, none⟩) 5 5] 24 (0, 0)) by subst hW2; exact old_heap _ (heap_alloc_new _ _))
  have HS := Lib.hid (show PtSl W2 (.slice (some ⟨w.heap.size + 1, 0, none⟩) 5 5) smpL by subst hW2; exact ptSl_lit smpL (row_new _ _ _ (by simp)) rfl (by decide))
  have HB := Lib.hid (show Below w.heap.size w W2 by subst hW2; exact ((Below.refl _ _).alloc (Nat.le_refl _) _).alloc (by simp) _)
  unfold ntV
  go_enter Try.func30, Try.ntmps30
  go_wp2_with (fail)
  rw [← hW2]
  clear hW2
  have c0 : W2.cell? ⟨w.heap.size, 0, none⟩ = some (.int .i64 4) := cell_of HZ.out rfl
  have c1 : W2.cell? ⟨w.heap.size, 1, none⟩ = some (.slice (some ⟨w.heap.size + 1, 0, none⟩) 5 5) := cell_of HZ.out rfl
  refine bodyPost_ret (v := .agg #[.int .i64 4, .slice (some ⟨w.heap.size + 1, 0, none⟩) 5 5]) ?_ rfl ⟨_, rfl, HS.out, HB.out⟩
  simp [results, Try.results30, go_sem, c0, c1]
theorem smp_crit {lf : List Ar} {val : Int} (h : Best 4 0 3 smpL lf val) : (List.range 5).filter (crAt 4 0 3 smpL val) = [0, 1, 2, 3, 4] := by
  obtain rfl := smp_val h.gr
  have e : ∀ n ∈ List.range 5, crAt 4 0 3 smpL 5 n = true := fun n hn => by
    rw [List.mem_range] at hn
    match n, hn with
    | 0, _ => rw [crAt_best (Gr.best (gr_of (L := zeroAt smpL 0) (xs := [0, 2, 0, 0, 2]) (by decide +kernel) (by decide) (fun n => n == 0) rfl rfl (by decide +kernel))) (by decide)]; decide +kernel
    | 1, _ => rw [crAt_best (Gr.best (gr_of (L := zeroAt smpL 1) (xs := [3, 0, 1, 2, 1]) (by decide +kernel) (by decide) (fun n => n == 0) rfl rfl (by decide +kernel))) (by decide)]; decide +kernel
    | 2, _ => rw [crAt_best (Gr.best (gr_of (L := zeroAt smpL 2) (xs := [2, 2, 0, 2, 2]) (by decide +kernel) (by decide) (fun n => n == 0 || n == 1) rfl rfl (by decide +kernel))) (by decide)]; decide +kernel
    | 3, _ => rw [crAt_best (Gr.best (gr_of (L := zeroAt smpL 3) (xs := [3, 1, 3, 0, 4]) (by decide +kernel) (by decide) (fun n => n != 3) rfl rfl (by decide +kernel))) (by decide)]; decide +kernel
    | 4, _ => rw [crAt_best (Gr.best (gr_of (L := zeroAt smpL 4) (xs := [2, 0, 0, 2, 0]) (by decide +kernel) (by decide) (fun n => n != 3) rfl rfl (by decide +kernel))) (by decide)]; decide +kernel
  rw [List.filter_eq_self.2 e]
  rfl
end Go.Proofs.Ytglpaihadongkaa
