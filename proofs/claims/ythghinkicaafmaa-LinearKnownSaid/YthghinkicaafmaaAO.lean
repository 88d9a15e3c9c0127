/-
  DERIVED. eachPart at arriving's closure; arriving; the program's Arrives (stage 6).
-/
import Derived.Test.YthghinkicaafmaaAN
namespace Go.Proofs.Ythghinkicaafmaa
open Go.RowKit
set_option maxRecDepth 100000

theorem PtSl.but {w X Y : World} {v : Value} {l : List (Int × Int × Int)} {bs : Nat} (h : PtSl w v l) (h1 : Below w.heap.size w X) (k : But bs X Y) (hb : w.heap.size ≤ bs) : PtSl Y v l :=
  h.kept (Gd := fun k => k ≠ bs) h1 (k.good fun _ h => h) (fun k hk => by omega)
theorem LiSl.but {w X Y : World} {v : Value} {l : List (List Int)} {bs : Nat} (h : LiSl w v l) (h1 : Below w.heap.size w X) (k : But bs X Y) (hb : w.heap.size ≤ bs) : LiSl Y v l :=
  h.kept (Gd := fun k => k ≠ bs) h1 (k.good fun _ h => h) (fun k hk => by omega)
set_option maxHeartbeats 8000000 in
theorem c_eachPart (C : Int) (ps : List (Int × Int × Int)) (ins : List (List Int)) (t : Int) (hp : ps.all ptOk = true) (hl : ps.length ≤ 16) (hi : inOk ins = true) (ht : 0 ≤ t ∧ t ≤ 100000) (P I : Value) (bs bi bt : Nat) (n1 : bi ≠ bs) (n2 : bt ≠ bs)
    (w : World) (h1 : Boxed w bs 3 (.int .i64 0)) (h2 : Boxed w bi 25 I) (h3 : Boxed w bt 3 (.int .i64 t)) (hP : ∀ X, But bs w X → PtSl X P ps) (hI : ∀ X, But bs w X → LiSl X I ins) :
    Calls Try.prog 44 #[lnV C P, .func (.func 45) #[] #[.pointer (some ⟨bs, 0, none⟩), .pointer (some ⟨bi, 0, none⟩), .pointer (some ⟨bt, 0, none⟩)]] w fun e w' => (∃ v, e = .returned v) ∧ But bs w w' ∧ Boxed w' bs 3 (.int .i64 (arr ps ins t)) := by
  unfold lnV
  obtain ⟨A, c, rfl, hc1, hc2⟩ := (hP w (But.refl w)).shape
  unfold maxLen at hc2
  obtain ⟨W, hW⟩ : ∃ W, W = w.alloc (.cells #[.int .i64 C, .slice A ps.length c] 24) := ⟨_, rfl⟩
  have B0 : Below w.heap.size w W := by subst hW; exact (Below.refl _ _).alloc (Nat.le_refl _) _
  have HBU := Lib.hid (But.of_below (b := bs) B0 (Nat.le_refl _))
  have H1 := Lib.hid (show Boxed W bs 3 (.int .i64 0) from (B0.block _ h1.lt).trans h1)
  have H2 := Lib.hid h2
  have H3 := Lib.hid h3
  have HP := Lib.hid hP
  have HI := Lib.hid hI
  have HALL := Lib.hid hp
  have HIN := Lib.hid hi
  clear hP hI B0 hp hi h1 h2 h3
  go_enter Try.func44, Try.ntmps44
  go_wp2_with (fail)
  rw [← hW]
  clear hW
  go_loopw [9] (fun i wr => ∃ k : Nat, k ≤ ps.length ∧ i = .int .i64 (k : Int) ∧ Hid (But bs w wr) ∧ Hid (Boxed wr bs 3 (.int .i64 (arr (ps.take k) ins t)))) (fun i _ => ps.length - (intOf i).toNat)
  case atStart => exact ⟨0, Nat.zero_le _, rfl, HBU, H1⟩
  case round =>
    obtain ⟨k, hk, rfl, hB, hX⟩ := hrel
    have hki : ((k : Nat) : Int).toNat = k := by omega
    by_cases hlt : k < ps.length
    · obtain ⟨⟨s, m, d⟩, hx⟩ : ∃ p, ps[k]? = some p := ⟨_, List.getElem?_eq_getElem hlt⟩
      obtain ⟨g1, g2, g3, g4, g5, g6⟩ := ptOk_iff.1 (List.all_eq_true.1 HALL.out _ (List.mem_of_getElem? hx))
      have g1 : 0 ≤ s := g1
      have g2 : s ≤ 15 := g2
      have g3 : 0 ≤ m := g3
      have g4 : m ≤ 1000 := g4
      have g5 : 0 ≤ d := g5
      have g6 : d ≤ 1000 := g6
      obtain ⟨b, o, c', e, hb, -, -, y0, y1, y2⟩ := (HP.out wr hB.out).at_ hx
      injection e with e1 e2 e3
      clear e2
      subst e1 e3
      have hs := arr_take_succ hx ins t
      have hz2 := arr_bounds HIN.out (all_take HALL.out k) t
      have hlen : ((ps.take k).length : Int) ≤ 16 := by rw [List.length_take]; omega
      obtain ⟨sn, hsn⟩ : ∃ n : Nat, s = (n : Int) := ⟨s.toNat, by omega⟩
      subst hsn
      obtain ⟨z, hz⟩ : ∃ z, z = arr (ps.take k) ins t := ⟨_, rfl⟩
      rw [← hz] at hz2 hX
      have HZ := Lib.hid (show z + m * giv ins (sn : Int) (t - d) = arr (ps.take (k + 1)) ins t by rw [hs, hz])
      obtain ⟨V, hV⟩ : ∃ V, V = wr.alloc (.cells #[.int .i64 (sn : Int), .int .i64 m, .int .i64 d] 41) := ⟨_, rfl⟩
      have B1 : Below wr.heap.size wr V := by subst hV; exact (Below.refl _ _).alloc (Nat.le_refl _) _
      have HV := Lib.hid (hB.out.trans (But.of_below B1 (Nat.le_refl _)))
      have HXV := Lib.hid (show Boxed V bs 3 (.int .i64 z) from (B1.block _ hX.out.lt).trans hX.out)
      have HC := Lib.hid (c_arriving1 sn m d t z ins I bs bi bt (by omega) HIN.out (by omega) ht V HXV.out (but_box H2.out HV.out n1) (but_box H3.out HV.out n2) (fun X hX => HI.out X (HV.out.trans hX)) n1 n2)
      unfold ptV at HC
      have q0 : V.cell? ⟨wr.heap.size, 0, none⟩ = some (.int .i64 (sn : Int)) := by subst hV; exact cell_of (heap_alloc_new _ _) rfl
      have q1 : V.cell? ⟨wr.heap.size, 1, none⟩ = some (.int .i64 m) := by subst hV; exact cell_of (heap_alloc_new _ _) rfl
      have q2 : V.cell? ⟨wr.heap.size, 2, none⟩ = some (.int .i64 d) := by subst hV; exact cell_of (heap_alloc_new _ _) rfl
      clear hx hb hs hz2 hz hX B1 hlen
      rw [hV] at q0 q1 q2
      go_wp2_with (fail)
      rw [← hV]
      clear hV q0 q1 q2 y0 y1 y2
      refine HC.out.mono ?_
      rintro e w1 ⟨⟨v, rfl⟩, hb1, hx1⟩
      rw [HZ.out] at hx1
      have HB1 := Lib.hid (HV.out.trans hb1)
      have HX1 := Lib.hid hx1
      clear hb1 hx1
      go_wp2_with (fail)
      go_roundw
      case rel => exact ⟨k + 1, by omega, by go_num, HB1, HX1⟩
      case measure => simp only [intOf]; omega
    · obtain rfl : k = ps.length := by omega
      rw [List.take_length] at hX
      go_wp2_with (fail)
      exact bodyPost_end (results_none rfl _ _ _) rfl ⟨⟨_, rfl⟩, hB.out, hX.out⟩
theorem below_a4 (w : World) (o1 o2 o3 o4 : Obj) : Below w.heap.size w ((((w.alloc o1).alloc o2).alloc o3).alloc o4) :=
  ((((Below.refl _ _).alloc (Nat.le_refl _) o1).alloc (by simp) o2).alloc (by simp; omega) o3).alloc (by simp; omega) o4
set_option maxHeartbeats 8000000 in
theorem c_arriving (C : Int) (ps : List (Int × Int × Int)) (ins : List (List Int)) (t : Int) (hp : ps.all ptOk = true) (hl : ps.length ≤ 16) (hi : inOk ins = true) (ht : 0 ≤ t ∧ t ≤ 100000) (P I : Value) (w : World) (hP : PtSl w P ps) (hI : LiSl w I ins) :
    Calls Try.prog 31 #[lnV C P, I, .int .i64 t] w fun e w' => e = .returned (.int .i64 (arr ps ins t)) ∧ Below w.heap.size w w' := by
  obtain ⟨A, c, rfl, hc1, hc2⟩ := hP.shape
  obtain ⟨A2, c2, rfl, hd1, hd2⟩ := hI.shape
  unfold maxLen at hc2 hd2
  obtain ⟨W, hW⟩ : ∃ W, W = (((w.alloc (.cells #[.int .i64 C, .slice A ps.length c] 24)).alloc (.cells #[.slice A2 ins.length c2] 25)).alloc (.cells #[.int .i64 t] 3)).alloc (.cells #[.int .i64 0] 3) := ⟨_, rfl⟩
  have B0 : Below w.heap.size w W := by subst hW; exact below_a4 _ _ _ _ _
  have HB := Lib.hid B0
  have l0 : W.heap[w.heap.size]? = some (.cells #[.int .i64 C, .slice A ps.length c] 24 (0, 0)) := by subst hW; exact old_heap _ (old_heap _ (old_heap _ (heap_alloc_new _ _)))
  have H2 := Lib.hid (show Boxed W (w.heap.size + 1) 25 (.slice A2 ins.length c2) by subst hW; exact old_heap _ (old_heap _ (row_new _ _ _ (by simp))))
  have H3 := Lib.hid (show Boxed W (w.heap.size + 1 + 1) 3 (.int .i64 t) by subst hW; exact old_heap _ (row_new _ _ _ (by simp)))
  have H1 := Lib.hid (show Boxed W (w.heap.size + 1 + 1 + 1) 3 (.int .i64 0) by subst hW; exact row_new _ _ _ (by simp))
  have HE := Lib.hid (c_eachPart C ps ins t hp hl hi ht (.slice A ps.length c) (.slice A2 ins.length c2) (w.heap.size + 1 + 1 + 1) (w.heap.size + 1) (w.heap.size + 1 + 1) (by omega) (by omega) W H1.out H2.out H3.out (fun X hX => hP.but B0 hX (by omega)) (fun X hX => hI.but B0 hX (by omega)))
  unfold lnV at HE
  have x0 : W.cell? ⟨w.heap.size, 0, none⟩ = some (.int .i64 C) := cell_of l0 rfl
  have x1 : W.cell? ⟨w.heap.size, 1, none⟩ = some (.slice A ps.length c) := cell_of l0 rfl
  clear hP hI hp hi B0 l0
  unfold lnV
  rw [hW] at x0 x1
  go_enter Try.func31, Try.ntmps31
  go_wp2_with (fail)
  rw [← hW]
  clear hW x0 x1
  refine HE.out.mono ?_
  rintro e w1 ⟨⟨v, rfl⟩, hb, hx⟩
  have HB1 := Lib.hid (hb.below HB.out (by omega))
  have x1 := hx.cell
  clear hb hx
  go_wp2_with (fail)
  go_ret
  exact ⟨rfl, HB1.out⟩
end Go.Proofs.Ythghinkicaafmaa
