/-
  DERIVED. slices.Equal of numbers; the law's sample and works (stage 6).
-/
import Derived.Test.YthghinkicaafmaaBB
import Derived.BigQuiet
namespace Go.Proofs.Ythghinkicaafmaa
open Go.RowKit
set_option maxRecDepth 100000

theorem take_same {α : Type} {l m : List α} {k : Nat} {x : α} (h : l.take k = m.take k) (h1 : l[k]? = some x) (h2 : m[k]? = some x) : l.take (k + 1) = m.take (k + 1) := by
  rw [List.take_add_one, List.take_add_one, h, h1, h2]
set_option maxHeartbeats 4000000 in
theorem c_eqInts (l m : List Int) (r : Bool) (hr : decide (l = m) = r) (v u : Value) (w : World) (hv : IntSl w v l) (hu : IntSl w u m) :
    Calls Try.prog 15 #[v, u] w fun e w' => e = .returned (.bool r) ∧ ∃ n, w' = w.drewN n := by
  have HV := Lib.hid hv
  have HU := Lib.hid hu
  have HR := Lib.hid hr
  obtain ⟨A, c, rfl, hc1, hc2⟩ := hv.shape
  obtain ⟨B, d, rfl, hd1, hd2⟩ := hu.shape
  unfold maxLen at hc2 hd2
  clear hv hu hr
  by_cases hl : l.length = m.length
  · have hne : (((l.length : Nat) : Int) != ((m.length : Nat) : Int)) = false := by rw [bne_eq_false_iff_eq]; omega
    have HL := Lib.hid hl
    clear hl
    go_enter Try.func15, Try.ntmps15
    go_wp2_with (fail)
    go_loopw [13] (fun i wr => ∃ (k n : Nat), k ≤ l.length ∧ i = .int .i64 (k : Int) ∧ Hid (l.take k = m.take k) ∧ wr = w.drewN n) (fun i wr => l.length - (intOf i).toNat)
    case atStart => exact ⟨0, 0, Nat.zero_le _, rfl, Lib.hid rfl, rfl⟩
    case round =>
      obtain ⟨k, n, hk, rfl, htk, rfl⟩ := hrel
      by_cases hlt : k < l.length
      · obtain ⟨x, hx⟩ : ∃ x, l[k]? = some x := ⟨_, List.getElem?_eq_getElem hlt⟩
        obtain ⟨y, hy⟩ : ∃ y, m[k]? = some y := ⟨_, List.getElem?_eq_getElem (by have := HL.out; omega)⟩
        obtain ⟨b1, o1, c1, e1, -, -, -, p1⟩ := HV.out.at_ hx
        obtain ⟨b2, o2, c2, e2, -, -, -, q1⟩ := HU.out.at_ hy
        injection e1 with e1 _ e1'
        injection e2 with e2 _ e2'
        subst e1 e1' e2 e2'
        have HX := Lib.hid hx
        have HY := Lib.hid hy
        have hk2 : (k : Int) < ((m.length : Nat) : Int) := by have := HL.out; omega
        have hki : ((k : Nat) : Int).toNat = k := by omega
        clear hx hy
        rcases hxy : (x == y) with _ | _
        · have hrr : r = false := by
            rw [← HR.out]
            refine decide_eq_false fun h => ?_
            have h1 := HX.out
            rw [h, HY.out] at h1
            injection h1 with h1
            subst h1
            simp at hxy
          subst hrr
          go_wp2_with (fail)
          go_quiet (fail)
          go_wp2_with (fail)
          go_ret
          exact ⟨rfl, _, World.drewN_drewN _ _ _⟩
        · have HXY := Lib.hid (show x = y by simpa using hxy)
          go_wp2_with (fail)
          go_quiet (fail)
          go_wp2_with (fail)
          go_roundw
          case rel => exact ⟨k + 1, _, by omega, by go_num, Lib.hid (take_same htk.out HX.out (by rw [HY.out, HXY.out])), rfl⟩
          case measure => simp only [intOf]; omega
      · obtain rfl : k = l.length := by omega
        have hrr : r = true := by
          rw [← HR.out, decide_eq_true]
          have := htk.out
          rw [List.take_of_length_le (Nat.le_refl _), HL.out, List.take_of_length_le (Nat.le_refl _)] at this
          exact this
        subst hrr
        go_wp2_with (fail)
        go_ret
        exact ⟨rfl, n, rfl⟩
  · have hne : (((l.length : Nat) : Int) != ((m.length : Nat) : Int)) = true := by rw [bne_iff_ne]; omega
    have hrr : r = false := by rw [← HR.out]; exact decide_eq_false (fun h => hl (by rw [h]))
    subst hrr
    clear hl
    go_enter Try.func15, Try.ntmps15
    go_wp2_with (fail)
    go_ret
    exact ⟨rfl, 0, rfl⟩
theorem intSl_lit {W : World} {b : Nat} {cs : Array Value} {T : TypeId} (l : List Int) (hb : W.heap[b]? = some (.cells cs T (0, 0))) (hc : cs.toList = l.map fun x => Value.int .i64 x) (h0 : 0 < l.length) (hm : l.length ≤ 100000) : IntSl W (.slice (some ⟨b, 0, none⟩) l.length l.length) l := by
  refine ⟨some ⟨b, 0, none⟩, l.length, rfl, Nat.le_refl _, by unfold maxLen; omega, (by intro h; cases h), fun _ => ⟨b, 0, rfl, at_lt hb, fun j x hj => ?_⟩⟩
  have e : cs[0 + j]? = some (.int .i64 x) := by
    rw [← Array.getElem?_toList, hc, List.getElem?_map, Nat.zero_add, hj]; rfl
  simp [World.cell?, hb]
  rw [Nat.zero_add] at e
  exact e
theorem liSl_lit {W : World} {b : Nat} {us : List Value} {T : TypeId} (ls : List (List Int)) (hb : W.heap[b]? = some (.cells us.toArray T (0, 0))) (hu : us.length = ls.length) (hl : ∀ (j : Nat) (u : Value) (l : List Int), us[j]? = some u → ls[j]? = some l → IntSl W u l) (hm : ls.length ≤ 100000) : LiSl W (.slice (some ⟨b, 0, none⟩) ls.length ls.length) ls := by
  refine ⟨some ⟨b, 0, none⟩, ls.length, rfl, Nat.le_refl _, by unfold maxLen; omega, fun _ => ⟨b, 0, rfl, at_lt hb, fun j l hj => ?_⟩⟩
  have hjl := (List.getElem?_eq_some_iff.1 hj).1
  obtain ⟨u, hju⟩ : ∃ u, us[j]? = some u := ⟨_, List.getElem?_eq_getElem (by omega)⟩
  refine ⟨u, ?_, hl j u l hju hj⟩
  rw [Nat.zero_add]
  exact cell_of hb (by rw [List.getElem?_toArray]; exact hju)
theorem ret2L {fn : Func} {a : Act} {W : World} {R : Ending → World → Prop} {b i : Nat} {x0 x1 : Value} (hfn : fn.results = #[.cell i 24]) (hp : a.tmps[i]?.getD undef = .pointer (some ⟨b, 0, none⟩)) (hd : a.defers = [])
    (h : W.heap[b]? = some (.cells #[x0, x1] 24 (0, 0))) (hR : R (.returned (.agg #[x0, x1])) W) : bodyPost Try.prog fn R .ret a W := by
  have c0 : W.cell? ⟨b, 0, none⟩ = some x0 := cell_of h rfl
  have c1 : W.cell? ⟨b, 1, none⟩ = some x1 := cell_of h rfl
  exact bodyPost_ret (v := .agg #[x0, x1]) (by simp [results, hfn, hp, go_sem, c0, c1]) hd hR
/-- Parts as cells. -/
def cellsP (l : List (Int × Int × Int)) : List Value := l.flatMap fun p => [.int .i64 p.1, .int .i64 p.2.1, .int .i64 p.2.2]
theorem cellsP_get (l : List (Int × Int × Int)) : ∀ j p, l[j]? = some p → (cellsP l)[j * 3]? = some (.int .i64 p.1) ∧ (cellsP l)[j * 3 + 1]? = some (.int .i64 p.2.1) ∧ (cellsP l)[j * 3 + 2]? = some (.int .i64 p.2.2) := by
  induction l with
  | nil => intro j p h; simp at h
  | cons q l ih =>
    intro j p h
    cases j with
    | zero => simp at h; subst h; exact ⟨rfl, rfl, rfl⟩
    | succ j =>
      have := ih j p (by simpa using h)
      rw [show (j + 1) * 3 = j * 3 + 1 + 1 + 1 by omega]
      exact this
theorem ptSl_lit {W : World} {b : Nat} {cs : Array Value} {T : TypeId} (l : List (Int × Int × Int)) (hb : W.heap[b]? = some (.cells cs T (0, 0))) (hc : cs.toList = cellsP l) (hm : l.length ≤ 100000) : PtSl W (.slice (some ⟨b, 0, none⟩) l.length l.length) l := by
  refine ⟨some ⟨b, 0, none⟩, l.length, rfl, Nat.le_refl _, by unfold maxLen; omega, fun _ => ⟨b, 0, rfl, at_lt hb, fun j p hj => ?_⟩⟩
  obtain ⟨h1, h2, h3⟩ := cellsP_get l j p hj
  rw [← hc, Array.getElem?_toList] at h1 h2 h3
  rw [Nat.zero_add]
  exact ⟨cell_of hb h1, cell_of hb h2, cell_of hb h3⟩
/-- The sample's parts. -/
def smP : List (Int × Int × Int) := [(0, 1, 0), (1, 2, 2)]
theorem c_sample (w : World) : Calls Try.prog 28 #[] w fun e w' => ∃ P, e = .returned (.agg #[.int .i64 10, P]) ∧ PtSl w' P smP ∧ Below w.heap.size w w' := by
  go_enter Try.func28, Try.ntmps28
  go_wp2_with (fail)
  refine ret2L (b := w.heap.size) rfl rfl rfl (old_heap _ (heap_alloc_new _ _)) ⟨_, rfl, ptSl_lit smP (row_new _ _ _ (by simp)) rfl (by decide), ((Below.refl _ _).alloc (Nat.le_refl _) _).alloc (by simp) _⟩
theorem lstP_small : lstP 10 smP 0 [[15, 15], [20]] 4 20 = (20, 0) := by
  have hf : fltL 10 smP 0 [[15, 15], [20]] 4 = 0 := by decide +kernel
  have hl : lstN 0 20 (amts smP [[15, 15], [20]] (4 : Int).toNat) = 20 := lstN_eq (by omega) (fun _ => by decide +kernel) (fun _ => by decide +kernel)
  unfold lstP
  rw [if_pos hf, hl, if_pos (by omega)]
  rfl
set_option maxHeartbeats 8000000 in
theorem c_works (w : World) : Calls Try.prog 21 #[] w fun e w' => e = .returned (.bool true) ∧ Below w.heap.size w w' := by
  have HA := Lib.hid (fun (X : World) (P I : Value) (hP : PtSl X P smP) (hI : LiSl X I [[15, 15], [20]]) => c_Arrives 10 smP [[15, 15], [20]] 2 P I X hP hI 40 0 (by decide +kernel) (by decide +kernel))
  have HC := Lib.hid (fun (X : World) (P I : Value) (hP : PtSl X P smP) (hI : LiSl X I [[15, 15], [20]]) => c_Course 10 smP 0 [[15, 15], [20]] 4 P I X hP hI 0 (by decide +kernel) [0, 5, 10, 40, 30] (by decide +kernel))
  have HV := Lib.hid (fun (X : World) (P : Value) (hP : PtSl X P smP) => c_Valid 10 smP P X hP true (by decide +kernel))
  have HK := Lib.hid (fun (X : World) (P I : Value) (hP : PtSl X P smP) (hI : LiSl X I [[15, 15], [20]]) => c_Peak 10 smP 0 [[15, 15], [20]] 4 P I X hP hI 3 40 0 (by decide +kernel) (by decide +kernel))
  have HF := Lib.hid (fun (X : World) (P I : Value) (hP : PtSl X P smP) (hI : LiSl X I [[15, 15], [20]]) => c_First 10 smP 0 [[15, 15], [20]] 4 9 P I X hP hI 2 0 (by decide +kernel) (by decide +kernel))
  have HL := Lib.hid (fun (X : World) (P I : Value) (hP : PtSl X P smP) (hI : LiSl X I [[15, 15], [20]]) => c_Least 10 smP 0 [[15, 15], [20]] 4 20 P I X hP hI 20 0 lstP_small)
  unfold lnV at HA HC HV HK HF HL
  go_enter Try.func21, Try.ntmps21
  go_wp2_with (fail)
  go_at_call 28
  refine (c_sample w).mono ?_
  rintro e w1 ⟨P, rfl, hP, b1⟩
  have HP1 := Lib.hid hP
  obtain ⟨A, c, rfl, -, -⟩ := hP.shape
  have HB1 := Lib.hid b1
  clear hP b1
  obtain ⟨V, hV⟩ : ∃ V, V = (((w1.alloc (.cells #[.int .i64 10, .slice A smP.length c] 24)).alloc (.cells #[.int .i64 15, .int .i64 15] 3)).alloc (.cells #[.int .i64 20] 3)).alloc (.cells #[.slice (some ⟨w1.heap.size + 1, 0, none⟩) 2 2, .slice (some ⟨w1.heap.size + 1 + 1, 0, none⟩) 1 1] 32) := ⟨_, rfl⟩
  have B4 : Below w1.heap.size w1 V := by subst hV; exact below_a4 _ _ _ _ _
  have HBV := Lib.hid (below_join HB1.out B4 HB1.out.size)
  have HLV := Lib.hid (show V.heap[w1.heap.size]? = some (.cells #[.int .i64 10, .slice A smP.length c] 24 (0, 0)) by subst hV; exact old_heap _ (old_heap _ (old_heap _ (heap_alloc_new _ _))))
  have HPV := Lib.hid (HP1.out.on B4 (Nat.le_refl _))
  have HIV := Lib.hid (show LiSl V (.slice (some ⟨w1.heap.size + 1 + 1 + 1, 0, none⟩) 2 2) [[15, 15], [20]] by
    have h1 : IntSl V (.slice (some ⟨w1.heap.size + 1, 0, none⟩) 2 2) [15, 15] := by subst hV; exact intSl_lit [15, 15] (old_heap _ (old_heap _ (row_new _ _ _ (by simp)))) rfl (by decide) (by decide)
    have h2 : IntSl V (.slice (some ⟨w1.heap.size + 1 + 1, 0, none⟩) 1 1) [20] := by subst hV; exact intSl_lit [20] (old_heap _ (row_new _ _ _ (by simp))) rfl (by decide) (by decide)
    refine liSl_lit (us := [.slice (some ⟨w1.heap.size + 1, 0, none⟩) 2 2, .slice (some ⟨w1.heap.size + 1 + 1, 0, none⟩) 1 1]) [[15, 15], [20]] (by subst hV; exact row_new _ _ _ (by simp)) rfl (fun j u l hu hl => ?_) (by decide)
    match j, hu, hl with
    | 0, hu, hl => simp at hu hl; subst hu hl; exact h1
    | 1, hu, hl => simp at hu hl; subst hu hl; exact h2)
  have hzV := at_lt HLV.out
  have HX := Lib.hid (fun (X : World) (hX : Below V.heap.size V X) => (⟨lin_cells ((hX.block _ hzV).trans HLV.out), HPV.out.on hX (Nat.le_refl _), HIV.out.on hX (Nat.le_refl _)⟩ : (X.cell? ⟨w1.heap.size, 0, none⟩ = some (.int .i64 10) ∧ X.cell? ⟨w1.heap.size, 1, none⟩ = some (.slice A smP.length c)) ∧ PtSl X (.slice A smP.length c) smP ∧ LiSl X (.slice (some ⟨w1.heap.size + 1 + 1 + 1, 0, none⟩) 2 2) [[15, 15], [20]]))
  clear B4
  obtain ⟨⟨x0, x1⟩, p0, i0⟩ := HX.out V (Below.refl _ _)
  rw [hV] at x0 x1
  go_wp2_with (fail)
  rw [← hV]
  clear hV x0 x1
  go_at_call 11
  refine (HA.out V _ _ p0 i0).mono ?_
  rintro e w2 ⟨rfl, b2⟩
  have HB2 := Lib.hid b2
  clear p0 i0 b2
  obtain ⟨⟨x0, x1⟩, p0, i0⟩ := HX.out w2 HB2.out
  go_wp2_with (fail)
  go_at_call 13
  refine (HC.out w2 _ _ p0 i0).mono ?_
  rintro e w3 ⟨y, rfl, hy, b3⟩
  have HB3 := Lib.hid (below_join HB2.out b3 HB2.out.size)
  have HY3 := Lib.hid hy
  obtain ⟨Ay, cy, rfl, -, -⟩ := hy.shape
  clear p0 i0 b3 x0 x1 hy
  obtain ⟨⟨x0, x1⟩, p0, i0⟩ := HX.out w3 HB3.out
  go_wp2_with (fail)
  go_at_call 16
  refine (HV.out w3 _ p0).mono ?_
  rintro e w4 ⟨rfl, b4⟩
  have HB4 := Lib.hid (below_join HB3.out b4 HB3.out.size)
  have HY4 := Lib.hid (HY3.out.on b4 (Nat.le_refl _))
  clear p0 i0 b4 x0 x1
  obtain ⟨W5, hW5⟩ : ∃ W5, W5 = w4.alloc (.cells #[.int .i64 0, .int .i64 5, .int .i64 10, .int .i64 40, .int .i64 30] 3) := ⟨_, rfl⟩
  have b5 : Below w4.heap.size w4 W5 := by subst hW5; exact (Below.refl _ _).alloc (Nat.le_refl _) _
  have HE := Lib.hid (c_eqInts [0, 5, 10, 40, 30] [0, 5, 10, 40, 30] true (by decide) _ _ W5 (HY4.out.on b5 (Nat.le_refl _)) (by subst hW5; exact intSl_lit [0, 5, 10, 40, 30] (heap_alloc_new _ _) rfl (by decide) (by decide)))
  have HBW5 := Lib.hid (below_join HB4.out b5 HB4.out.size)
  clear b5
  go_wp2_with (fail)
  rw [← hW5]
  clear hW5
  go_at_call 15
  refine HE.out.mono ?_
  rintro e w6 ⟨rfl, hd6⟩
  have HB6 := Lib.hid (drew_below HBW5.out hd6)
  clear hd6
  obtain ⟨⟨x0, x1⟩, p0, i0⟩ := HX.out w6 HB6.out
  go_wp2_with (fail)
  go_at_call 18
  refine (HK.out w6 _ _ p0 i0).mono ?_
  rintro e w7 ⟨rfl, b7⟩
  have HB7 := Lib.hid (below_join HB6.out b7 HB6.out.size)
  clear p0 i0 b7 x0 x1
  obtain ⟨⟨x0, x1⟩, p0, i0⟩ := HX.out w7 HB7.out
  go_wp2_with (fail)
  go_at_call 22
  refine (HF.out w7 _ _ p0 i0).mono ?_
  rintro e w8 ⟨rfl, b8⟩
  have HB8 := Lib.hid (below_join HB7.out b8 HB7.out.size)
  clear p0 i0 b8 x0 x1
  obtain ⟨⟨x0, x1⟩, p0, i0⟩ := HX.out w8 HB8.out
  go_wp2_with (fail)
  go_at_call 24
  refine (HL.out w8 _ _ p0 i0).mono ?_
  rintro e w9 ⟨rfl, b9⟩
  have HB9 := Lib.hid (below_join HB8.out b9 HB8.out.size)
  clear p0 i0 b9 x0 x1
  go_wp2_with (fail)
  go_ret
  exact ⟨rfl, below_join HBV.out HB9.out HBV.out.size⟩
end Go.Proofs.Ythghinkicaafmaa
