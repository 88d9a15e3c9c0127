/-
  DERIVED. The law's works: examples of the chapter.
-/
import Derived.Test.YtomfaknemjbjcaaBP
import Derived.Test.YtomfaknemjbjcaaBQ
import Derived.Test.YtomfaknemjbjcaaBH
namespace Go.Proofs.Ytomfaknemjbjcaa
open Go.RowKit
set_option maxRecDepth 100000

theorem intSl_lit {W : World} {b : Nat} {cs : Array Value} {T : TypeId} (l : List Int) (hb : W.heap[b]? = some (.cells cs T (0, 0))) (hc : cs.toList = l.map fun x => Value.int .i64 x) (h0 : 0 < l.length) (hm : l.length ≤ 100000) : IntSl W (.slice (some ⟨b, 0, none⟩) l.length l.length) l := by
  refine ⟨some ⟨b, 0, none⟩, l.length, rfl, Nat.le_refl _, by unfold maxLen; omega, (by intro h; cases h), fun _ => ⟨b, 0, rfl, block_lt hb, fun j x hj => ?_⟩⟩
  have e : cs[0 + j]? = some (.int .i64 x) := by
    rw [← Array.getElem?_toList, hc, List.getElem?_map, Nat.zero_add, hj]; rfl
  simp [World.cell?, hb]
  rw [Nat.zero_add] at e
  exact e
theorem stSl_lit {W : World} {b : Nat} {cs : Array Value} {T : TypeId} (l : List (Int × Bool)) (hb : W.heap[b]? = some (.cells cs T (0, 0))) (hc : cs.toList = cellsS l) (h0 : 0 < l.length) (hm : l.length ≤ 100000) : StSl W (.slice (some ⟨b, 0, none⟩) l.length l.length) l := by
  refine ⟨some ⟨b, 0, none⟩, l.length, rfl, Nat.le_refl _, by unfold maxLen; omega, (by intro h; cases h), fun _ => ⟨b, 0, rfl, block_lt hb, fun j x hj => ?_⟩⟩
  obtain ⟨h1, h2⟩ := cellsS_get l j x hj
  rw [← hc, Array.getElem?_toList] at h1 h2
  simp [World.cell?, hb]
  exact ⟨h1, h2⟩
theorem ret4 {fn : Func} {a : Act} {W : World} {R : Ending → World → Prop} {b i : Nat} {x0 x1 x2 x3 : Value} (hfn : fn.results = #[.cell i 23]) (hp : a.tmps[i]?.getD undef = .pointer (some ⟨b, 0, none⟩)) (hd : a.defers = [])
    (h : W.heap[b]? = some (.cells #[x0, x1, x2, x3] 23 (0, 0))) (hR : R (.returned (.agg #[x0, x1, x2, x3])) W) : bodyPost Try.prog fn R .ret a W := by
  have c0 : W.cell? ⟨b, 0, none⟩ = some x0 := by simp [World.cell?, h]
  have c1 : W.cell? ⟨b, 1, none⟩ = some x1 := by simp [World.cell?, h]
  have c2 : W.cell? ⟨b, 2, none⟩ = some x2 := by simp [World.cell?, h]
  have c3 : W.cell? ⟨b, 3, none⟩ = some x3 := by simp [World.cell?, h]
  exact bodyPost_ret (v := .agg #[x0, x1, x2, x3]) (by simp [results, hfn, hp, go_sem, c0, c1, c2, c3]) hd hR
theorem c_sample (w : World) : Calls Try.prog 37 #[] w fun e w' => e = .returned (bkV 0 50 40 100) ∧ Below w.heap.size w w' := by
  unfold bkV
  go_enter Try.func37, Try.ntmps37
  go_wp2
  exact ret4 (b := w.heap.size) rfl rfl rfl (heap_alloc_new _ _) ⟨rfl, (Below.refl _ _).alloc (Nat.le_refl _) _⟩
theorem drew_below {w w1 : World} {B : Nat} (h : Below B w w1) {w2 : World} (k : ∃ n, w2 = w1.drewN n) : Below B w w2 := by
  obtain ⟨n, rfl⟩ := k
  exact ⟨h.os, h.tape, h.output, h.size, h.block⟩
set_option maxHeartbeats 8000000 in
theorem c_works (w : World) : Calls Try.prog 21 #[] w fun e w' => e = .returned (.bool true) ∧ Below w.heap.size w w' := by
  have HN := Lib.hid (fun (X : World) => c_Next 0 50 40 100 30 61 false (41, true) 0 (by decide +kernel) X)
  have HCo := Lib.hid (fun (X : World) (v : Value) (hv : IntSl X v [70, 30]) => c_Course 0 50 40 100 0 false [70, 30] v X hv 0 (by decide +kernel) [(0, false), (20, false), (0, false)] (by decide +kernel))
  have HT := Lib.hid (fun (X : World) (v : Value) (hv : IntSl X v [70, 70, 30, 71]) => c_Trips 0 50 40 100 0 [70, 70, 30, 71] v X hv 3 0 (by decide +kernel))
  have HV := Lib.hid (fun (X : World) => c_Valid 0 50 40 100 true (by decide +kernel) X)
  have HL := Lib.hid (fun (X : World) => c_Lasts 0 50 40 100 0 60 4 0 (by decide +kernel) X)
  have HC := Lib.hid (fun (X : World) => c_Cools 0 50 40 100 31 40 4 0 (by decide +kernel) X)
  have HBe := Lib.hid (fun (X : World) => c_Bears 0 50 40 100 0 3 63 0 (by decide +kernel) X)
  unfold bkV stV at HN HCo
  unfold bkV at HT HV HL HC HBe
  have g1 := guardSt
  have g2 := neqSt
  go_enter Try.func21, Try.ntmps21
  go_wp2_with (fail)
  go_at_call 37
  refine (c_sample w).mono ?_
  rintro e w1 ⟨rfl, b1⟩
  unfold bkV
  have HB1 := Lib.hid b1
  have hz1 := b1.size
  obtain ⟨W, hW⟩ : ∃ W, W = w1.alloc (.cells #[.int .i64 0, .int .i64 50, .int .i64 40, .int .i64 100] 23) := ⟨_, rfl⟩
  have HBW := Lib.hid (show Below w.heap.size w W by subst hW; exact b1.alloc b1.size _)
  have HK := Lib.hid (show Bk W w1.heap.size 0 50 40 100 by subst hW; exact bk_new _ _ _ _ _)
  have hzW : w1.heap.size < W.heap.size := block_lt HK.out
  clear b1
  go_wp2_with (fail)
  rw [← hW]
  clear hW
  go_at_call 11
  refine (HN.out _).mono ?_
  rintro e w2 ⟨rfl, b2⟩
  have HB2 := Lib.hid (below_join HBW.out b2 HBW.out.size)
  have HK2 := Lib.hid (HK.out.on b2 hzW)
  have hz2 := Nat.lt_of_lt_of_le hzW b2.size
  clear b2
  obtain ⟨W2, hW2⟩ : ∃ W2, W2 = (w2.alloc (.cells #[.int .i64 41, .bool true] 25)).alloc (.cells #[.int .i64 70, .int .i64 30] 3) := ⟨_, rfl⟩
  have HBW2 := Lib.hid (show Below w.heap.size w W2 by subst hW2; exact (HB2.out.alloc HB2.out.size _).alloc (by have := HB2.out.size; simp; omega) _)
  have HKW2 := Lib.hid (show Bk W2 w1.heap.size 0 50 40 100 by subst hW2; exact old_heap _ (old_heap _ HK2.out))
  have HS2 := Lib.hid (show St W2 w2.heap.size 41 true by subst hW2; exact old_heap _ (st_new _ _ _))
  have HI2 := Lib.hid (show IntSl W2 (.slice (some ⟨w2.heap.size + 1, 0, none⟩) 2 2) [70, 30] by subst hW2; exact intSl_lit [70, 30] (row_new4 _ _ _ (by simp)) rfl (by decide) (by decide))
  have hzW2 : w2.heap.size + 1 < W2.heap.size := by subst hW2; simp
  have HKa := Lib.hid (show Bk (w2.alloc (.cells #[.int .i64 41, .bool true] 25)) w1.heap.size 0 50 40 100 from old_heap _ HK2.out)
  obtain ⟨x0, x1, x2, x3⟩ := HKa.out.cells
  go_wp2_with (fail)
  rw [← hW2]
  clear hW2 x0 x1 x2 x3
  go_at_call 13
  refine (HCo.out _ _ HI2.out).mono ?_
  rintro e w3 ⟨cv, rfl, hcv, b3⟩
  have HB3 := Lib.hid (below_join HBW2.out b3 HBW2.out.size)
  have HK3 := Lib.hid (HKW2.out.on b3 (by omega))
  have HS3 := Lib.hid (HS2.out.on b3 (by omega))
  have HC3 := Lib.hid hcv
  have hz3 := Nat.lt_of_lt_of_le hzW2 b3.size
  obtain ⟨Ac, cc, rfl, -, -⟩ := hcv.shape
  clear b3 hcv
  obtain ⟨W3, hW3⟩ : ∃ W3, W3 = w3.alloc (.cells #[.int .i64 70, .int .i64 70, .int .i64 30, .int .i64 71] 3) := ⟨_, rfl⟩
  have b3 : Below w3.heap.size w3 W3 := by subst hW3; exact (Below.refl _ _).alloc (Nat.le_refl _) _
  have HBW3 := Lib.hid (below_join HB3.out b3 HB3.out.size)
  have HKW3 := Lib.hid (HK3.out.on b3 (by omega))
  have HSW3 := Lib.hid (HS3.out.on b3 (by omega))
  have HCW3 := Lib.hid (HC3.out.on b3 (Nat.le_refl _))
  have HI3 := Lib.hid (show IntSl W3 (.slice (some ⟨w3.heap.size, 0, none⟩) 4 4) [70, 70, 30, 71] by subst hW3; exact intSl_lit [70, 70, 30, 71] (heap_alloc_new _ _) rfl (by decide) (by decide))
  have hzW3 := Nat.lt_of_lt_of_le hz3 b3.size
  clear b3
  obtain ⟨x0, x1, x2, x3⟩ := HK3.out.cells
  go_wp2_with (fail)
  rw [← hW3]
  clear hW3 x0 x1 x2 x3
  go_at_call 18
  refine (HT.out _ _ HI3.out).mono ?_
  rintro e w4 ⟨rfl, b4⟩
  have HB4 := Lib.hid (below_join HBW3.out b4 HBW3.out.size)
  have HK4 := Lib.hid (HKW3.out.on b4 (by omega))
  have HS4 := Lib.hid (HSW3.out.on b4 (by omega))
  have HC4 := Lib.hid (HCW3.out.on b4 (Nat.le_refl _))
  have hz4 := Nat.lt_of_lt_of_le hzW3 b4.size
  clear b4
  obtain ⟨x0, x1, x2, x3⟩ := HK4.out.cells
  go_wp2_with (fail)
  go_at_call 16
  refine (HV.out _).mono ?_
  rintro e w5 ⟨rfl, b5⟩
  have HB5 := Lib.hid (below_join HB4.out b5 HB4.out.size)
  have HK5 := Lib.hid (HK4.out.on b5 (by omega))
  have HS5 := Lib.hid (HS4.out.on b5 (by omega))
  have HC5 := Lib.hid (HC4.out.on b5 (Nat.le_refl _))
  have hz5 := Nat.lt_of_lt_of_le hz4 b5.size
  clear b5 x0 x1 x2 x3
  obtain ⟨y0, y1⟩ := HS5.out.cells
  obtain ⟨W5, hW5⟩ : ∃ W5, W5 = w5.alloc (.cells #[.int .i64 0, .bool false, .int .i64 20, .bool false, .int .i64 0, .bool false] 25) := ⟨_, rfl⟩
  have b5 : Below w5.heap.size w5 W5 := by subst hW5; exact (Below.refl _ _).alloc (Nat.le_refl _) _
  have HE := Lib.hid (c_eqStates [(0, false), (20, false), (0, false)] [(0, false), (20, false), (0, false)] true (by decide) _ _ W5 (HC5.out.on b5 (Nat.le_refl _)) (by subst hW5; exact stSl_lit [(0, false), (20, false), (0, false)] (heap_alloc_new _ _) rfl (by decide) (by decide)))
  have HBW5 := Lib.hid (below_join HB5.out b5 HB5.out.size)
  have HKW5 := Lib.hid (HK5.out.on b5 (by omega))
  clear b5
  go_wp2_with (fail)
  rw [← hW5]
  clear hW5 y0 y1
  go_at_call 15
  refine HE.out.mono ?_
  rintro e w6 ⟨rfl, hd6⟩
  have HB6 := Lib.hid (drew_below HBW5.out hd6)
  have HK6 := Lib.hid (show Bk w6 w1.heap.size 0 50 40 100 by obtain ⟨n, rfl⟩ := hd6; exact HKW5.out)
  have hz6 : w1.heap.size < w6.heap.size := block_lt HK6.out
  clear hd6
  obtain ⟨x0, x1, x2, x3⟩ := HK6.out.cells
  go_wp2_with (fail)
  go_at_call 22
  refine (HL.out _).mono ?_
  rintro e w7 ⟨rfl, b7⟩
  have HB7 := Lib.hid (below_join HB6.out b7 HB6.out.size)
  have HK7 := Lib.hid (HK6.out.on b7 hz6)
  have hz7 := Nat.lt_of_lt_of_le hz6 b7.size
  clear b7 x0 x1 x2 x3
  obtain ⟨x0, x1, x2, x3⟩ := HK7.out.cells
  go_wp2_with (fail)
  go_at_call 24
  refine (HC.out _).mono ?_
  rintro e w8 ⟨rfl, b8⟩
  have HB8 := Lib.hid (below_join HB7.out b8 HB7.out.size)
  have HK8 := Lib.hid (HK7.out.on b8 hz7)
  have hz8 := Nat.lt_of_lt_of_le hz7 b8.size
  clear b8 x0 x1 x2 x3
  obtain ⟨x0, x1, x2, x3⟩ := HK8.out.cells
  go_wp2_with (fail)
  go_at_call 26
  refine (HBe.out _).mono ?_
  rintro e w9 ⟨rfl, b9⟩
  have HB9 := Lib.hid (below_join HB8.out b9 HB8.out.size)
  clear b9 x0 x1 x2 x3
  go_wp2_with (fail)
  go_ret
  exact ⟨rfl, HB9.out⟩
end Go.Proofs.Ytomfaknemjbjcaa
