/-
  DERIVED. faultOfHeat, Next, Lasts, Cools.
-/
import Derived.Test.YtomfaknemjbjcaaBE
namespace Go.Proofs.Ytomfaknemjbjcaa
open Go.RowKit
set_option maxRecDepth 100000

theorem ret2t {fn : Func} {a : Act} {W : World} {R : Ending → World → Prop} {b i j : Nat} {x0 x1 y : Value} (hfn : fn.results = #[.cell i 25, .tmp j]) (hp : a.tmps[i]?.getD undef = .pointer (some ⟨b, 0, none⟩)) (hj : a.tmps[j]?.getD undef = y) (hd : a.defers = [])
    (h : W.heap[b]? = some (.cells #[x0, x1] 25 (0, 0))) (hR : R (.returned (.tuple #[.agg #[x0, x1], y])) W) : bodyPost Try.prog fn R .ret a W := by
  obtain ⟨c0, c1⟩ := two_cells h
  exact bodyPost_ret (v := .tuple #[.agg #[x0, x1], y]) (by simp [results, hfn, hp, hj, go_sem, c0, c1]) hd hR
theorem retTT {fn : Func} {a : Act} {W : World} {R : Ending → World → Prop} {i j : Nat} {x y : Value} (hfn : fn.results = #[.tmp i, .tmp j]) (hi : a.tmps[i]?.getD undef = x) (hj : a.tmps[j]?.getD undef = y) (hd : a.defers = [])
    (hR : R (.returned (.tuple #[x, y])) W) : bodyPost Try.prog fn R .ret a W :=
  bodyPost_ret (v := .tuple #[x, y]) (by simp [results, hfn, hi, hj, go_sem]) hd hR
theorem one_cell {W : World} {b : Nat} {x0 : Value} {T : TypeId} (h : W.heap[b]? = some (.cells #[x0] T (0, 0))) : W.cell? ⟨b, 0, none⟩ = some x0 := by simp [World.cell?, h]
theorem intSl_one (w : World) (p : Int) : IntSl (w.alloc (.cells #[.int .i64 p] 3)) (.slice (some ⟨w.heap.size, 0, none⟩) 1 1) [p] := by
  refine ⟨some ⟨w.heap.size, 0, none⟩, 1, rfl, Nat.le_refl _, by unfold maxLen; omega, (by intro h; cases h), fun _ => ⟨w.heap.size, 0, rfl, by simp, fun j x hj => ?_⟩⟩
  have h := heap_alloc_new w (.cells #[.int .i64 p] 3)
  match j, hj with
  | 0, hj => simp at hj; subst hj; exact one_cell h
/-- faultOfHeat's answer. -/
def fltH (L S F h : Int) (l : List Int) : Int := if bOk L S F = true then (if ((decide (0 ≤ h) && decide (h ≤ S)) && lsOk l) = true then 0 else 2) else 1
set_option maxHeartbeats 4000000 in
theorem c_faultOfHeat (f L S F h : Int) (l : List Int) (r : Int) (hr : fltH L S F h l = r) (v : Value) (w : World) (hv : IntSl w v l) :
    Calls Try.prog 44 #[bkV f L S F, .int .i64 h, v] w fun e w' => e = .returned (.int .i64 r) ∧ Below w.heap.size w w' := by
  obtain ⟨W, hW⟩ : ∃ W, W = w.alloc (.cells #[.int .i64 f, .int .i64 L, .int .i64 S, .int .i64 F] 23) := ⟨_, rfl⟩
  have B0 : Below w.heap.size w W := by subst hW; exact (Below.refl _ _).alloc (Nat.le_refl _) _
  have HB := Lib.hid B0
  have HK := Lib.hid (show Bk W w.heap.size f L S F by subst hW; exact bk_new _ _ _ _ _)
  have HC := Lib.hid (fun (r1 : Bool) (h1 : bOk L S F = r1) => c_Valid f L S F r1 h1 W)
  have hz : w.heap.size < W.heap.size := block_lt HK.out
  unfold bkV
  unfold bkV at HC
  obtain ⟨A, c, rfl, hc1, hc2⟩ := hv.shape
  have HV := Lib.hid hv
  obtain ⟨x0, x1, x2, x3⟩ := HK.out.cells
  clear B0 hv
  unfold fltH at hr
  rcases h1 : bOk L S F with _ | _
  · have H1 := Lib.hid h1
    rw [h1, if_neg (by decide)] at hr
    subst hr
    clear h1
    go_enter Try.func44, Try.ntmps44
    go_wp2_with (fail)
    rw [← hW]
    clear hW
    go_at_call 16
    refine (HC.out _ H1.out).mono ?_
    rintro e w1 ⟨rfl, b1⟩
    have HB1 := Lib.hid (below_join HB.out b1 HB.out.size)
    clear b1 x0 x1 x2 x3
    go_wp2_with (fail)
    go_ret
    exact ⟨rfl, HB1.out⟩
  · have H1 := Lib.hid h1
    rw [h1, if_pos rfl] at hr
    rcases h2 : (decide (0 ≤ h) && decide (h ≤ S)) with _ | _
    · have H2 := Lib.hid h2
      rw [h2, Bool.false_and, if_neg (by decide)] at hr
      subst hr
      clear h1 h2
      go_enter Try.func44, Try.ntmps44
      go_wp2_with (fail)
      rw [← hW]
      clear hW
      go_at_call 16
      refine (HC.out _ H1.out).mono ?_
      rintro e w1 ⟨rfl, b1⟩
      have HB1 := Lib.hid (below_join HB.out b1 HB.out.size)
      have HK1 := Lib.hid (HK.out.on b1 (by omega))
      clear b1 x0 x1 x2 x3
      obtain ⟨x0, x1, x2, x3⟩ := HK1.out.cells
      go_wp2_with (fail)
      go_at_call 43
      refine (c_isUpTo _ _ _ H2.out _).mono ?_
      rintro e w2 ⟨rfl, rfl⟩
      go_wp2_with (fail)
      go_ret
      exact ⟨rfl, HB1.out⟩
    · have H2 := Lib.hid h2
      rw [h2, Bool.true_and] at hr
      clear h1 h2
      rcases h3 : lsOk l with _ | _
      all_goals
        have H3 := Lib.hid h3
        rw [h3] at hr
        simp only [if_true, Bool.false_eq_true, if_false] at hr
        subst hr
        clear h3
        go_enter Try.func44, Try.ntmps44
        go_wp2_with (fail)
        rw [← hW]
        clear hW
        go_at_call 16
        refine (HC.out _ H1.out).mono ?_
        rintro e w1 ⟨rfl, b1⟩
        have HB1 := Lib.hid (below_join HB.out b1 HB.out.size)
        have HK1 := Lib.hid (HK.out.on b1 (by omega))
        have HL1 := Lib.hid (c_areLoads l _ H3.out _ w1 (HV.out.on HB1.out (Nat.le_refl _)))
        clear b1 x0 x1 x2 x3
        obtain ⟨x0, x1, x2, x3⟩ := HK1.out.cells
        go_wp2_with (fail)
        go_at_call 43
        refine (c_isUpTo _ _ _ H2.out _).mono ?_
        rintro e w2 ⟨rfl, rfl⟩
        go_wp2_with (fail)
        go_at_call 54
        refine HL1.out.mono ?_
        rintro e w3 ⟨rfl, rfl⟩
        go_wp2_with (fail)
        go_ret
        exact ⟨rfl, HB1.out⟩
theorem fltS_zero {L S F h : Int} {t : Bool} {l : List Int} (hz : fltS L S F h t l = 0) : bOk L S F = true ∧ tOk S h t = true ∧ lsOk l = true := by
  unfold fltS at hz
  by_cases h1 : (bOk L S F && tOk S h t) = true
  · rw [if_pos h1] at hz
    by_cases h2 : lsOk l = true
    · simp only [Bool.and_eq_true] at h1; exact ⟨h1.1, h1.2, h2⟩
    · rw [if_neg h2] at hz; omega
  · rw [if_neg h1] at hz; omega
theorem fltH_zero {L S F h : Int} {l : List Int} (hz : fltH L S F h l = 0) : bOk L S F = true ∧ 0 ≤ h ∧ h ≤ S ∧ lsOk l = true := by
  unfold fltH at hz
  by_cases h1 : bOk L S F = true
  · rw [if_pos h1] at hz
    by_cases h2 : ((decide (0 ≤ h) && decide (h ≤ S)) && lsOk l) = true
    · simp only [Bool.and_eq_true, decide_eq_true_eq] at h2; exact ⟨h1, h2.1.1, h2.1.2, h2.2⟩
    · rw [if_neg h2] at hz; omega
  · rw [if_neg h1] at hz; omega
theorem lsOk_one {p : Int} (h : lsOk [p] = true) : 0 ≤ p ∧ p ≤ 100000000 := by
  simp only [lsOk, Bool.and_eq_true, List.all_cons, List.all_nil, Bool.and_true] at h
  exact wOk_iff.1 h.2
theorem tOk_range {S h : Int} {t : Bool} (hS : S ≤ 1000000) (k : tOk S h t = true) : 0 ≤ h ∧ h ≤ 100000000 := by
  unfold tOk at k
  cases t <;> simp at k <;> omega
/-- Next's answer. -/
def nxt (L S F h : Int) (t : Bool) (p : Int) : (Int × Bool) × Int := if fltS L S F h t [p] = 0 then (nx L S F (h, t) p, 0) else ((0, false), fltS L S F h t [p])
set_option maxHeartbeats 4000000 in
theorem c_Next (f L S F q p : Int) (t : Bool) (y : Int × Bool) (r : Int) (hr : nxt L S F q t p = (y, r)) (w : World) :
    Calls Try.prog 11 #[bkV f L S F, stV (q, t), .int .i64 p] w fun e w' => e = .returned (.tuple #[stV y, .int .i64 r]) ∧ Below w.heap.size w w' := by
  obtain ⟨W, hW⟩ : ∃ W, W = (((w.alloc (.cells #[.int .i64 f, .int .i64 L, .int .i64 S, .int .i64 F] 23)).alloc (.cells #[.int .i64 q, .bool t] 25)).alloc (.cells #[.int .i64 0, .bool false] 25)).alloc (.cells #[.int .i64 p] 3) := ⟨_, rfl⟩
  have B0 : Below w.heap.size w W := by subst hW; exact (below_a3 _ _ _ _).alloc (by simp; omega) _
  have HB := Lib.hid B0
  have HK := Lib.hid (show Bk W w.heap.size f L S F by subst hW; exact old_heap _ (old_heap _ (old_heap _ (bk_new _ _ _ _ _))))
  have HS := Lib.hid (show St W (w.heap.size + 1) q t by subst hW; exact old_heap _ (old_heap _ (row_new4 _ _ _ (by simp))))
  have HZ := Lib.hid (show St W (w.heap.size + 1 + 1) 0 false by subst hW; exact old_heap _ (row_new4 _ _ _ (by simp)))
  have hz : w.heap.size + 1 + 1 < W.heap.size := block_lt HZ.out
  have HI := Lib.hid (show IntSl W (.slice (some ⟨w.heap.size + 1 + 1 + 1, 0, none⟩) 1 1) [p] by
    subst hW
    have := intSl_one (((w.alloc (.cells #[.int .i64 f, .int .i64 L, .int .i64 S, .int .i64 F] 23)).alloc (.cells #[.int .i64 q, .bool t] 25)).alloc (.cells #[.int .i64 0, .bool false] 25)) p
    simpa only [World.size_alloc] using this)
  have HC := Lib.hid (fun (r1 : Int) (h1 : fltS L S F q t [p] = r1) => c_fault f L S F q t [p] r1 h1 _ W HI.out)
  unfold bkV stV
  unfold bkV stV at HC
  obtain ⟨x0, x1, x2, x3⟩ := HK.out.cells
  obtain ⟨y0, y1⟩ := HS.out.cells
  clear B0
  unfold nxt at hr
  by_cases h1 : fltS L S F q t [p] = 0
  · rw [if_pos h1] at hr
    injection hr with hy hr
    subst hr
    obtain ⟨g1, g2, g3⟩ := fltS_zero h1
    have g4 := bOk_iff.1 g1
    have HN := Lib.hid (fun (X : World) => c_next f L S F q p t ⟨g4.1, g4.2.1, (tOk_range (by omega) g2).1, (tOk_range (by omega) g2).2, (lsOk_one g3).1, (lsOk_one g3).2⟩ y hy X)
    unfold bkV stV at HN
    have H1 := Lib.hid h1
    clear h1 g1 g2 g3 g4 hy
    go_enter Try.func11, Try.ntmps11
    go_wp2_with (fail)
    rw [← hW]
    clear hW
    go_at_call 38
    refine (HC.out _ H1.out).mono ?_
    rintro e w1 ⟨rfl, b1⟩
    have HB1 := Lib.hid (below_join HB.out b1 HB.out.size)
    have HK1 := Lib.hid (HK.out.on b1 (by omega))
    have HS1 := Lib.hid (HS.out.on b1 (by omega))
    have HZ1 := Lib.hid (HZ.out.on b1 (by omega))
    have hz1 := Nat.lt_of_lt_of_le hz b1.size
    clear b1 x0 x1 x2 x3 y0 y1
    obtain ⟨x0, x1, x2, x3⟩ := HK1.out.cells
    obtain ⟨y0, y1⟩ := HS1.out.cells
    go_wp2_with (fail)
    go_at_call 39
    refine (HN.out _).mono ?_
    rintro e w2 ⟨rfl, b2⟩
    have HB2 := Lib.hid (below_join HB1.out b2 HB1.out.size)
    have HZ2 := Lib.hid (HZ1.out.on b2 hz1)
    obtain ⟨f0, f1⟩ := HZ2.out.frozen
    clear b2 x0 x1 x2 x3 y0 y1
    obtain ⟨y0, y1⟩ := HZ2.out.cells
    go_wp2_with (fail)
    exact ret2t (b := w.heap.size + 1 + 1) rfl rfl rfl rfl (row_store2 HZ2.out _ _) ⟨rfl, below_store2 HB2.out (by omega) _ _⟩
  · rw [if_neg h1] at hr
    injection hr with hy hr
    subst hy
    have H1 := Lib.hid hr
    have hne : (r == 0) = false := by rw [beq_eq_false_iff_ne, ← hr]; exact h1
    clear h1 hr
    go_enter Try.func11, Try.ntmps11
    go_wp2_with (fail)
    rw [← hW]
    clear hW
    go_at_call 38
    refine (HC.out _ H1.out).mono ?_
    rintro e w1 ⟨rfl, b1⟩
    have HB1 := Lib.hid (below_join HB.out b1 HB.out.size)
    have HZ1 := Lib.hid (HZ.out.on b1 (by omega))
    obtain ⟨f0, f1⟩ := HZ1.out.frozen
    clear b1 x0 x1 x2 x3 y0 y1
    obtain ⟨y0, y1⟩ := HZ1.out.cells
    go_wp2_with (fail)
    exact ret2t (b := w.heap.size + 1 + 1) rfl rfl rfl rfl (row_store2 HZ1.out _ _) ⟨rfl, below_store2 HB1.out (by omega) _ _⟩
end Go.Proofs.Ytomfaknemjbjcaa
