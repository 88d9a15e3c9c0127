/-
  DERIVED. Several texts in one.
-/
import Derived.Test.YtjheaeeeeggncaaPB3
import Derived.WideMake
import Derived.Test.YtjheaeeeeggncaaPB2
import Derived.OrdersHeld
import Derived.Deep.RegionHeld3
import Derived.Laws.EntriesVeiled
set_option linter.unusedVariables false
set_option linter.unusedSimpArgs false

namespace Go.Proofs.Ytjheaeeeeggncaa
open Go.RowKit Go.Shelf
attribute [local go_sem] Oper.semAt_some
set_option maxRecDepth 100000
set_option linter.unusedVariables false
set_option linter.unusedSimpArgs false

/-- The most elements that one of some sets enables. -/
def wideL (n : Nat) (f : Nat → Nat) (l : List Nat) : Nat := l.foldl (fun m s => max m (enL n f s).length) 0
theorem wideL_snoc (n : Nat) (f : Nat → Nat) (l : List Nat) (s : Nat) : wideL n f (l ++ [s]) = max (wideL n f l) (enL n f s).length := by simp [wideL]
theorem fold_ge (g : Nat → Nat) : ∀ (l : List Nat) (m : Nat), m ≤ l.foldl (fun m s => max m (g s)) m ∧ ∀ s ∈ l, g s ≤ l.foldl (fun m s => max m (g s)) m
  | [], m => ⟨Nat.le_refl _, fun s hs => by cases hs⟩
  | x :: l, m => by
    obtain ⟨h1, h2⟩ := fold_ge g l (max m (g x))
    refine ⟨Nat.le_trans (Nat.le_max_left _ _) h1, fun s hs => ?_⟩
    rcases List.mem_cons.1 hs with rfl | hs
    · exact Nat.le_trans (Nat.le_max_right _ _) h1
    · exact h2 s hs
theorem fold_of (g : Nat → Nat) : ∀ (l : List Nat) (m : Nat), l.foldl (fun m s => max m (g s)) m = m ∨ ∃ s ∈ l, g s = l.foldl (fun m s => max m (g s)) m
  | [], m => .inl rfl
  | x :: l, m => by
    rcases fold_of g l (max m (g x)) with h | ⟨s, hs, h⟩
    · rcases Nat.le_total m (g x) with h2 | h2
      · refine .inr ⟨x, by simp, ?_⟩
        show g x = l.foldl _ (max m (g x))
        rw [h]; omega
      · refine .inl ?_
        show l.foldl _ (max m (g x)) = m
        rw [h]; omega
    · exact .inr ⟨s, List.mem_cons_of_mem _ hs, h⟩
theorem wide_idL {n : Nat} {f : Nat → Nat} (hn : n ≤ 12) (hp : Po n f) : Wide n f (wideL n f (idL f (2 ^ n))) := by
  have hmem : ∀ t, t < 2 ^ n → Idl n f t → t ∈ idL f (2 ^ n) := fun t ht hi => by
    unfold idL
    exact List.mem_filter.2 ⟨List.mem_range.2 ht, (idB_iff hn ht).2 hi⟩
  have hge := (fold_ge (fun s => (enL n f s).length) (idL f (2 ^ n)) 0).2
  refine wide_ideals hp ?_ (fun t ht hi => hge t (hmem t ht hi))
  rcases fold_of (fun s => (enL n f s).length) (idL f (2 ^ n)) 0 with h | ⟨s, hs, h⟩
  · have h0 : Idl n f 0 := fun i _ hb => by rw [Nat.zero_testBit] at hb; cases hb
    refine ⟨0, h0, ?_⟩
    have := hge 0 (hmem 0 (Nat.two_pow_pos n) h0)
    unfold wideL
    omega
  · refine ⟨s, ?_, h⟩
    exact (idB_iff hn (idL_lt hs)).1 (List.mem_filter.1 hs).2
/-- Between two ideals. -/
structure WdI (w : World) (g n : Nat) (f : Nat → Nat) (pre : List Nat) (X : World) : Prop where
  bb : Boxed X w.heap.size 64 (.slice (some ⟨g, 0, none⟩) n n)
  bm : Boxed X (w.heap.size + 1) 3 (.int .i64 ((wideL n f pre : Nat) : Int))
  bel : Below w.heap.size w X
section
variable {w X Y : World} {g n : Nat} {f : Nat → Nat} {pre : List Nat} {S m : Nat}
theorem WdI.own (h : WdI w g n f pre X) (hE : OwnIt S m X Y) (hS : w.heap.size + 2 ≤ S) : WdI w g n f pre Y :=
  ⟨hE.same _ _ h.bb (.inl (by omega)), hE.same _ _ h.bm (.inl (by omega)), below_own h.bel hE (by omega)⟩
theorem WdI.put {l : Nat} {o o' : Obj} (h : WdI w g n f pre X) (hw : w.heap.size ≤ l) (hl : X.heap[l]? = some o) (ho : o.isCells = false) : WdI w g n f pre (X.putObj l o') :=
  ⟨put_cells h.bb hl ho, put_cells h.bm hl ho, below_put h.bel hw⟩
end
theorem wideL_le (n : Nat) (f : Nat → Nat) (l : List Nat) : wideL n f l ≤ n := by
  rcases fold_of (fun s => (enL n f s).length) l 0 with h | ⟨s, hs, h⟩
  · unfold wideL; omega
  · have := enL_len f s n
    unfold wideL; omega
set_option maxHeartbeats 8000000 in
theorem c_width (g n : Nat) (f : Nat → Nat) (hn : n ≤ 12) (hf : ∀ j, f j < 2 ^ 12) (hp : Po n f) (w : World) (h : Blk w g n f) :
    Calls Try.prog 67 #[.slice (some ⟨g, 0, none⟩) n n] w fun e w' => (∃ k : Nat, e = .returned (.int .i64 (k : Int)) ∧ Wide n f k) ∧ Below w.heap.size w w' := by
  have HWD := Lib.hid (wide_idL hn hp)
  have HK := Lib.hid h
  have HF := Lib.hid hf
  have hgl := at_lt h
  have hp12 := pow12 hn
  have HML := Lib.hid (show ∀ x ∈ idL f (2 ^ n), x < 2 ^ n from fun x hx => idL_lt hx)
  have hnp := Nat.pow_le_pow_right (n := 2) (by omega) hn
  obtain ⟨W, hW⟩ : ∃ W, W = (w.alloc (.cells #[.slice (some ⟨g, 0, none⟩) n n] 64)).alloc (.cells #[.int .i64 0] 3) := ⟨_, rfl⟩
  have HB := Lib.hid (show Below w.heap.size w W by subst hW; exact ((Below.refl _ _).alloc (Nat.le_refl _) _).alloc (by simp) _)
  have H0 := Lib.hid (show Boxed W w.heap.size 64 (.slice (some ⟨g, 0, none⟩) n n) by subst hW; exact old_heap _ (heap_alloc_new _ _))
  have H1 := Lib.hid (show Boxed W (w.heap.size + 1) 3 (.int .i64 0) by subst hW; exact row_new _ _ _ (by simp))
  have x0 := H0.out.cell
  have hzW : W.heap.size = w.heap.size + 2 := by subst hW; simp
  have HSQ := Lib.hid (c_ideals 7 (by omega) (fun k => k < w.heap.size) g n f hn hf w h hgl)
  obtain ⟨L, hL⟩ : ∃ L, idL f (2 ^ n) = L := ⟨_, rfl⟩
  rw [hL] at HWD HML HSQ
  clear h hf hp hL
  refine (callsIn_wide (n := 8)).1 ?_
  refine callsIn_of_wp_marks Try.func67 rfl trivial ?_ rfl
  simp only [Try.ntmps67, List.size_toArray, List.length_cons, List.length_nil, Nat.reduceAdd, Nat.reduceSub, Array.replicate_succ, Array.replicate_zero, List.push_toArray, List.append_toArray, List.nil_append, List.cons_append]
  rw [wpIn_wide]
  go_wp2_with (fail)
  rw [← hW]
  clear hW
  refine (wpIn_wide (n := 8)).1 ?_
  refine wpIn_it (n := 8) (by omega) (gf := 58) (fb := #[.slice (some ⟨g, 0, none⟩) n n]) (lb := #[]) rfl eg_ideals (m := 0) (Gd := fun k => k < w.heap.size) (ok := okS) (ts := L) (w0 := w) HSQ.out (KpG.of_below HB.out (Nat.le_refl _)) (fun v t h => by rw [h]; rfl)
    (fun pre X => WdI w g n f pre X) (fun _ _ _ => False)
    (fun pre X Y h hE => h.own hE (by omega)) (fun _ _ _ _ h _ => h.elim)
    (fun pre X l o o' h hl ho hc => h.put (by omega) ho hc) (fun _ _ _ _ _ _ h _ _ _ => h.elim)
    ⟨H0.out, H1.out, HB.out⟩ ?round ?done (fun _ _ _ _ _ _ h _ => h.elim)
  case round =>
    intro l pre v s X K hpre hok hK
    obtain rfl : v = #[.int .u16 (s : Int)] := hok
    gi_wp2_with (fail)
    refine hK _ _ (Below.refl _ _) ?_
    rintro Y ⟨o, o', ho, hoc, hYe⟩ hsz hI
    have hs12 : s < 2 ^ 12 := by have := HML.out s (hpre.subset (by simp)); omega
    have y0 := hI.bb.cell
    have y1 := hI.bm.cell
    have f1 := hI.bm.frozen
    have HBY := Lib.hid (HK.out.on hI.bel (Nat.le_refl _))
    have HCE := Lib.hid (fun (Z : World) (hZ : Blk Z g n f) => c_enabled g n f hn HF.out s hs12 Z hZ)
    have HLE := Lib.hid (lst_en (b := f) (s := s) hn)
    have hsb : setB (enB f s) n < 2 ^ 12 := Nat.lt_of_lt_of_le (setB_lt _ _) (Nat.pow_le_pow_right (by omega) hn)
    have HNX := Lib.hid (wideL_snoc n f pre s)
    have hwl := wideL_le n f pre
    have hel := enL_len f s n
    have HI := Lib.hid hI
    have hfm : Try.prog.follows Departure.mixedOrders = true := by kernel_rfl
    obtain ⟨t, ht⟩ : ∃ t, setB (enB f s) n = t := ⟨_, rfl⟩
    rw [ht] at HCE HLE hsb
    have HSZ := Lib.hid (fun Z => c_size t hsb Z)
    rw [HLE.out] at HSZ
    obtain ⟨p, hp⟩ : ∃ p, wideL n f pre = p := ⟨_, rfl⟩
    obtain ⟨q, hq⟩ : ∃ q, (enL n f s).length = q := ⟨_, rfl⟩
    rw [hp] at y1 HNX hwl
    rw [hq] at HNX HSZ hel
    have HFIN := Lib.hid (show ∀ v : Nat, v = max p q → KeepsFrom (w.heap.size + 2) Y (Y.setCell ⟨w.heap.size + 1, 0, none⟩ (.int .i64 (v : Int))).drew.drew ∧ KpIt (w.heap.size + 2 + 2) 0 (fun k => k < w.heap.size) Y (Y.setCell ⟨w.heap.size + 1, 0, none⟩ (.int .i64 (v : Int))).drew.drew ∧ WdI w g n f (pre ++ [s]) (Y.setCell ⟨w.heap.size + 1, 0, none⟩ (.int .i64 (v : Int))).drew.drew from fun v hv => by
      have hk2 := kf_store (B := w.heap.size + 2) (o := 0) (.int .i64 (v : Int)) HI.out.bm
      have hk := kf_store (B := w.heap.size + 2 + 2) (o := 0) (.int .i64 (v : Int)) HI.out.bm
      refine ⟨⟨hk2.size, hk2.same⟩, ⟨hk.size, fun k cs T fr hk' hc => ?_, hk.same⟩, ⟨?_, ?_, ?_⟩⟩
      · have hne : k ≠ w.heap.size + 1 := by rcases hk' with h | h <;> omega
        exact set_else hc hne
      · exact set_else HI.out.bb (by omega)
      · rw [HNX.out, ← hv]; exact HI.out.bm.set _
      · exact (HI.out.bel.setCell (p := ⟨w.heap.size + 1, 0, none⟩) (by show w.heap.size ≤ w.heap.size + 1; omega) _).drew.drew)
    clear hYe ho hoc o o' hK hI hpre ht hp hq
    gi_wp2_with (fail)
    gi_region_with_o (refine ⟨trivial, ?_⟩; first
      | (gi_at_call 59; refine (CallsIn.inRound l (calls_wide (HCE.out Y.drew HBY.out))).mono ?_; rintro e wa ⟨rfl, hwa⟩; rw [hwa]; clear hwa wa)
      | (gi_at_call 82; refine (CallsIn.inRound l (calls_wide (HSZ.out _))).mono ?_; rintro e wa ⟨rfl, hwa⟩; rw [hwa]; clear hwa wa))
    all_goals gi_wp2_with (fail)
    all_goals first
      | exact HFIN.out q (by omega)
      | exact HFIN.out p (by omega)
  case done =>
    rintro D X rfl hI hdef
    have y1 := hI.bm.cell
    have HDEF := Lib.hid hdef
    have HI := Lib.hid hI
    clear hI hdef
    go_wp2_with (fail)
    refine ⟨by simp, .inl ⟨_, _, rfl, run_takeDeferred HDEF.out, ?_⟩⟩
    exact ⟨.int .i64 ((wideL n f L : Nat) : Int), by simp [results, Try.results67, go_sem], ⟨_, rfl, HWD.out⟩, below_put HI.out.bel (by omega)⟩
end Go.Proofs.Ytjheaeeeeggncaa

namespace Go.Proofs.Ytjheaeeeeggncaa
open Go.RowKit
attribute [local go_sem] Oper.semAt_some
set_option maxRecDepth 100000
set_option linter.unusedVariables false
set_option linter.unusedSimpArgs false

/-- Whether no element of a set comes before another one. -/
def antL (f : Nat → Nat) (s : Nat) (l : List Nat) : Bool := l.all fun i => decide (f i &&& s = 0)
theorem and_zero {a b : Nat} : a &&& b = 0 ↔ ∀ k, a.testBit k = true → b.testBit k = false := by
  constructor
  · intro h k hk
    have := congrArg (fun x => x.testBit k) h
    simp only [Nat.testBit_and, Nat.zero_testBit, hk, Bool.true_and] at this
    exact this
  · intro h
    apply Nat.eq_of_testBit_eq
    intro k
    rw [Nat.testBit_and, Nat.zero_testBit]
    cases hk : a.testBit k
    · rfl
    · rw [h k hk]; rfl
theorem antL_iff {f : Nat → Nat} {n s : Nat} (hn : n ≤ 12) (hs : s < 2 ^ n) : antL f s (lst 12 s) = true ↔ Anti n f s := by
  unfold antL Anti
  rw [List.all_eq_true]
  constructor
  · intro h i j hi hsi hsj
    have := and_zero.1 (of_decide_eq_true (h i (lst_mem.2 ⟨by omega, hsi⟩))) j
    cases e : (f i).testBit j
    · rfl
    · rw [this e] at hsj; cases hsj
  · intro h i hi
    have hsi := (lst_mem.1 hi).2
    have hin : i < n := by
      rcases Nat.lt_or_ge i n with h | h
      · exact h
      · rw [Nat.testBit_lt_two_pow (Nat.lt_of_lt_of_le hs (Nat.pow_le_pow_right (by omega) h))] at hsi
        cases hsi
    refine decide_eq_true (and_zero.2 fun k hk => ?_)
    cases e : s.testBit k
    · rfl
    · rw [h i k hin hsi e] at hk; cases hk
/-- The most elements of such a set below a number. -/
def bw (f : Nat → Nat) : Nat → Nat
  | 0 => 0
  | k + 1 => if antL f k (lst 12 k) = true then max (bw f k) (lst 12 k).length else bw f k
theorem bw_ge (f : Nat → Nat) : ∀ k s, s < k → antL f s (lst 12 s) = true → (lst 12 s).length ≤ bw f k
  | k + 1, s, h, ha => by
    show _ ≤ if antL f k (lst 12 k) = true then max (bw f k) (lst 12 k).length else bw f k
    by_cases e : s = k
    · subst e; rw [if_pos ha]; exact Nat.le_max_right _ _
    · have := bw_ge f k s (by omega) ha
      split
      · exact Nat.le_trans this (Nat.le_max_left _ _)
      · exact this
theorem bw_of (f : Nat → Nat) : ∀ k, bw f k = 0 ∨ ∃ s, s < k ∧ antL f s (lst 12 s) = true ∧ (lst 12 s).length = bw f k
  | 0 => .inl rfl
  | k + 1 => by
    show (if antL f k (lst 12 k) = true then max (bw f k) (lst 12 k).length else bw f k) = 0 ∨ ∃ s, s < k + 1 ∧ antL f s (lst 12 s) = true ∧ (lst 12 s).length = if antL f k (lst 12 k) = true then max (bw f k) (lst 12 k).length else bw f k
    have ih := bw_of f k
    split
    · rename_i ha
      rcases Nat.le_total (bw f k) (lst 12 k).length with h | h
      · exact .inr ⟨k, by omega, ha, by omega⟩
      · rcases ih with h0 | ⟨s, hs, h1, h2⟩
        · exact .inl (by omega)
        · exact .inr ⟨s, by omega, h1, by omega⟩
    · rcases ih with h0 | ⟨s, hs, h1, h2⟩
      · exact .inl h0
      · exact .inr ⟨s, by omega, h1, h2⟩
theorem lst_12 {n s : Nat} (hn : n ≤ 12) (hs : s < 2 ^ n) : lst 12 s = lst n s := by
  have := lst_cut hs (12 - n)
  rwa [show n + (12 - n) = 12 by omega] at this
theorem wide_bw {n : Nat} {f : Nat → Nat} (hn : n ≤ 12) : Wide n f (bw f (2 ^ n)) := by
  refine wide_sets ?_ fun s hs ha => by rw [← lst_12 hn hs]; exact bw_ge f _ s hs ((antL_iff hn hs).2 ha)
  have h00 : lst n 0 = [] := by unfold lst; exact List.filter_eq_nil_iff.2 fun i _ => by simp
  rcases bw_of f (2 ^ n) with h | ⟨s, hs, h1, h2⟩
  · have ha : Anti n f 0 := fun i j _ h _ => by rw [Nat.zero_testBit] at h; cases h
    exact ⟨0, ha, by rw [h, h00]; rfl⟩
  · exact ⟨s, (antL_iff hn hs).1 h1, by rw [← lst_12 hn hs]; exact h2⟩
theorem bw_le (f : Nat → Nat) (k : Nat) : bw f k ≤ 12 := by
  rcases bw_of f k with h | ⟨s, hs, h1, h2⟩
  · omega
  · have := lst_len 12 s; omega
set_option maxHeartbeats 8000000 in
theorem c_Width (A : Option Addr) (c : Nat) (xs : List LsV) (w : World) (h : LsAt w A c xs) : Calls Try.prog 37 #[.slice A xs.length c] w (HwTo w (rdN xs) (Wide xs.length (ordF xs))) := by
  have H := Lib.hid h
  obtain ⟨R, hR⟩ : ∃ R, R = HwTo w (rdN xs) (Wide xs.length (ordF xs)) := ⟨_, rfl⟩
  rw [← hR]
  have HRR := Lib.hid hR
  clear hR h
  go_enter Try.func37, Try.ntmps37
  go_wp2_with (fail)
  go_at_call 48
  refine (c_read A c xs w H.out).mono ?_
  rintro e w1 ⟨⟨h0, rfl⟩ | ⟨h0, hl, hok, hno, g, rfl, hg, hblk⟩, b1⟩
  · have H0 := Lib.hid h0
    have K1 := Lib.hid b1
    have hne : (rdN xs != 0) = true := by simpa using h0
    have hd0 : (rdN xs == 0) = false := by simpa using h0
    clear h0 b1
    go_wp2_with (fail)
    rw [HRR.out]
    exact ⟨.inl ⟨H0.out, rfl⟩, K1.out⟩
  · have H0 := Lib.hid h0
    have K1 := Lib.hid b1
    have HC := Lib.hid (c_width g xs.length (ordF xs) hl (ordF_lt hl hok) (ord_po hok hno) w1 hblk)
    clear h0 b1 hblk
    go_wp2_with (fail)
    go_at_call 67
    refine HC.out.mono ?_
    rintro e w2 ⟨⟨k, rfl, hk⟩, b2⟩
    have K2 := Lib.hid (below_join K1.out b2 K1.out.size)
    have HK := Lib.hid hk
    clear b2 hk
    go_wp2_with (fail)
    rw [HRR.out, H0.out]
    exact ⟨.inr ⟨rfl, k, rfl, HK.out⟩, K2.out⟩
set_option maxHeartbeats 16000000 in
theorem c_rrWidth (A : Option Addr) (c : Nat) (xs : List LsV) (w : World) (h : LsAt w A c xs) : Calls Try.prog 38 #[.slice A xs.length c] w (HwTo w (rdN xs) (Wide xs.length (ordF xs))) := by
  have H := Lib.hid h
  have k1 := h.1.1; have k2 := h.1.2.1
  unfold maxLen at k2
  obtain ⟨N, hN⟩ : ∃ N, rdN xs = N := ⟨_, rfl⟩
  have HN := Lib.hid hN
  obtain ⟨R, hR⟩ : ∃ R, R = HwTo w (rdN xs) (Wide xs.length (ordF xs)) := ⟨_, rfl⟩
  rw [← hR]
  have HRR := Lib.hid hR
  clear hR hN h
  go_enter Try.func38, Try.ntmps38
  go_wp2_with (fail)
  go_at_call 19
  refine (c_rrValid A c xs w H.out).mono ?_
  rintro e w1 ⟨rfl, b1⟩
  have K1 := Lib.hid b1
  rw [HN.out]
  clear b1
  by_cases h0 : N = 0
  rotate_left
  · have hne : (N != 0) = true := by simpa using h0
    have hd0 : (N == 0) = false := by simpa using h0
    have H0 := Lib.hid h0
    clear h0
    go_wp2_with (fail)
    rw [HRR.out, HN.out]
    exact ⟨.inl ⟨H0.out, rfl⟩, K1.out⟩
  subst h0
  have HZ := Lib.hid (rd_zero HN.out)
  go_wp2_with (fail)
  go_at_call 50
  refine (c_before2 A c xs HZ.out.1 HZ.out.2 w1 (H.out.on K1.out (Nat.le_refl _))).mono ?_
  rintro e w2 ⟨g, rfl, hg, hblk, b2⟩
  have K2 := Lib.hid (below_join K1.out b2 K1.out.size)
  have HBK := Lib.hid hblk
  have hp12 := pow12 HZ.out.1
  have hsh := shl_len HZ.out.1
  have hnp := Nat.pow_le_pow_right (n := 2) (by omega) HZ.out.1
  have HWB := Lib.hid (wide_bw (f := ordF xs) HZ.out.1)
  have HBI := Lib.hid (show ∀ s, s < 2 ^ xs.length → ∀ i ∈ lst 12 s, i < xs.length from fun s hs i hi => by
    rw [lst_12 HZ.out.1 hs] at hi
    exact (lst_mem.1 hi).1)
  obtain ⟨M, hM⟩ : ∃ M, 2 ^ xs.length = M := ⟨_, rfl⟩
  rw [hM] at hp12 hsh hnp HWB HBI
  clear b2 hblk hg hM
  go_wp2_with (fail)
  go_loopw [6, 7] (fun v i wr => ∃ k : Nat, k ≤ M ∧ i = .int .i64 (k : Int) ∧ v = .int .i64 ((bw (ordF xs) k : Nat) : Int) ∧ Hid (Below w2.heap.size w2 wr)) (fun _ i _ => M - (intOf i).toNat)
  case atStart => exact ⟨0, Nat.zero_le _, rfl, rfl, Lib.hid (Below.refl _ _)⟩
  case round =>
    obtain ⟨k, hk, rfl, rfl, hK⟩ := hrel
    have hki : ((k : Nat) : Int).toNat = k := by omega
    by_cases hlt : k < M
    · have hkl : (k : Int) < (M : Int) := by omega
      have hs12 : k < 2 ^ 12 := by omega
      have HLB := Lib.hid (HBI.out k hlt)
      have HNX := Lib.hid (show bw (ordF xs) (k + 1) = if antL (ordF xs) k (lst 12 k) = true then max (bw (ordF xs) k) (lst 12 k).length else bw (ordF xs) k from rfl)
      have hbw := bw_le (ordF xs) k
      obtain ⟨p, hp⟩ : ∃ p, bw (ordF xs) k = p := ⟨_, rfl⟩
      rw [hp] at HNX hbw ⊢
      clear hp
      go_wp2_with (fail)
      go_at_call 51
      refine (c_rrList k hs12 wr).mono ?_
      rintro e w3 ⟨v3, rfl, o3, b3⟩
      have HRV := Lib.hid (show ∃ A3 c3, v3 = .slice A3 (intsN (lst 12 k)).length c3 ∧ Rv 1 inV w3 A3 c3 (intsN (lst 12 k)) from own_rv (by rw [intsN_len, ← elV_ints]; exact o3))
      obtain ⟨A3, c3, rfl, hrv⟩ := HRV.out
      rw [intsN_len]
      have HRV3 := Lib.hid hrv
      have K3 := Lib.hid (below_join hK.out b3 hK.out.size)
      have hL12 := lst_len 12 k
      obtain ⟨L, hL⟩ : ∃ L, lst 12 k = L := ⟨_, rfl⟩
      rw [hL] at HRV3 HLB HNX hL12 ⊢
      clear HRV hrv b3 o3 hL
      go_wp2_with (fail)
      go_loopw [9, 30] (fun v i w4 => ∃ t : Nat, t ≤ L.length ∧ i = .int .i64 (t : Int) ∧ v = .bool (antL (ordF xs) k (L.take t)) ∧ w3 = w4) (fun _ i _ => L.length - (intOf i).toNat)
      case atStart => exact ⟨0, Nat.zero_le _, rfl, rfl, rfl⟩
      case round =>
        obtain ⟨t, ht, rfl, rfl, rfl⟩ := hrel
        have hti : ((t : Nat) : Int).toNat = t := by omega
        by_cases hlt2 : t < L.length
        · obtain ⟨z, hz⟩ : ∃ z, L[t]? = some z := ⟨_, List.getElem?_eq_getElem hlt2⟩
          have htl : (t : Int) < ((L.length : Nat) : Int) := by omega
          have HZI : (intsN L)[t]? = some (z : Int) := by simp [intsN, hz]
          obtain ⟨pb, o, rfl, -, -⟩ := HRV3.out.at_ HZI
          have y0 := inV_at HRV3.out HZI
          have hzn := HLB.out z (List.mem_of_getElem? hz)
          have hzl : (z : Int) < ((xs.length : Nat) : Int) := by omega
          have y1 := Bki.at_ (show Bki w3 g xs.length (ordF xs) from box_on HBK.out K3.out (Nat.le_refl _)) hzn
          have hq := ordF_lt HZ.out.1 HZ.out.2 z
          have HNT := Lib.hid (show antL (ordF xs) k (L.take (t + 1)) = (antL (ordF xs) k (L.take t) && decide (ordF xs z &&& k = 0)) by rw [take_snoc hz]; simp [antL])
          obtain ⟨q, hq0⟩ : ∃ q, ordF xs z = q := ⟨_, rfl⟩
          rw [hq0] at y1 hq HNT
          have hand := bits_and64 q k (by omega) (by omega)
          have HD := Lib.hid (show (((q &&& k : Nat) : Int) == 0) = decide (q &&& k = 0) by rw [Bool.eq_iff_iff, beq_iff_eq, decide_eq_true_iff]; omega)
          obtain ⟨a, ha⟩ : ∃ a, q &&& k = a := ⟨_, rfl⟩
          rw [ha] at hand HD HNT
          obtain ⟨gd, hgd⟩ : ∃ gd, antL (ordF xs) k (L.take t) = gd := ⟨_, rfl⟩
          rw [hgd] at HNT ⊢
          clear hz HZI hq0 ha hgd
          rcases hd : decide (a = 0) with _ | _
          · have hd2 : ((a : Int) == 0) = false := by rw [HD.out, hd]
            have HNT2 := Lib.hid (show antL (ordF xs) k (L.take (t + 1)) = false by rw [HNT.out, hd]; simp)
            clear hd
            cases gd
            · go_wp2_with (fail)
              go_roundw
              case rel => exact ⟨t + 1, by omega, by go_num, by rw [HNT2.out], trivial⟩
              case measure => simp only [intOf]; omega
            · go_wp2_with (fail)
              go_roundw
              case rel => exact ⟨t + 1, by omega, by go_num, by rw [HNT2.out], trivial⟩
              case measure => simp only [intOf]; omega
          · have hd2 : ((a : Int) == 0) = true := by rw [HD.out, hd]
            have HNT2 := Lib.hid (show antL (ordF xs) k (L.take (t + 1)) = gd by rw [HNT.out, hd]; simp)
            clear hd
            cases gd
            · go_wp2_with (fail)
              go_roundw
              case rel => exact ⟨t + 1, by omega, by go_num, by rw [HNT2.out], trivial⟩
              case measure => simp only [intOf]; omega
            · go_wp2_with (fail)
              go_roundw
              case rel => exact ⟨t + 1, by omega, by go_num, by rw [HNT2.out], trivial⟩
              case measure => simp only [intOf]; omega
        · obtain rfl : t = L.length := by omega
          rw [List.take_of_length_le (Nat.le_refl _)]
          obtain ⟨gd, hgd⟩ : ∃ gd, antL (ordF xs) k L = gd := ⟨_, rfl⟩
          rw [hgd] at HNX ⊢
          clear hgd
          cases gd
          · have HNX2 := Lib.hid (show bw (ordF xs) (k + 1) = p by rw [HNX.out]; simp)
            go_wp2_with (fail)
            go_roundw
            case rel => exact ⟨k + 1, by omega, by go_num, by rw [HNX2.out], K3⟩
            case measure => simp only [intOf]; omega
          · have HNX2 := Lib.hid (show bw (ordF xs) (k + 1) = max p L.length by rw [HNX.out]; simp)
            go_wp2_with (fail)
            go_roundw
            case rel => exact ⟨k + 1, by omega, by go_num, by rw [HNX2.out]; congr 1; first | omega | (split <;> omega), K3⟩
            case measure => simp only [intOf]; omega
    · obtain rfl : k = M := by omega
      go_wp2_with (fail)
      rw [HRR.out, HN.out]
      exact ⟨.inr ⟨rfl, _, rfl, HWB.out⟩, below_join K2.out hK.out K2.out.size⟩
end Go.Proofs.Ytjheaeeeeggncaa

namespace Go.Proofs.Ytjheaeeeeggncaa
open Go.RowKit
attribute [local go_sem] Oper.semAt_some
set_option maxRecDepth 100000
set_option linter.unusedVariables false
set_option linter.unusedSimpArgs false

theorem Rv.but {α : Type} {k c g : Nat} {F : α → Nat → Value} {X Y : World} {A : Option Addr} {l : List α} (h : Rv k F X A c l) (hb : But g X Y) (hne : ∀ b o, A = some ⟨b, o, none⟩ → b ≠ g) : Rv k F Y A c l := by
  obtain ⟨h1, h2, h3, h4⟩ := h
  refine ⟨h1, h2, h3, fun h0 => ?_⟩
  obtain ⟨b, o, e, hlt, hc⟩ := h4 h0
  refine ⟨b, o, e, Nat.lt_of_lt_of_le hlt hb.size, fun j x hj i hi => ?_⟩
  have h5 := Array.getElem?_eq_getElem hlt
  have := hb.same b _ (hne b o e) h5
  rw [← hc j x hj i hi]
  exact World.cell?_of_block (a := ⟨b, o + j * k + i, none⟩) (this.trans h5.symm)
/-- In how many ways an ideal goes on; 0 of what is none. -/
def wyI (n : Nat) (f : Nat → Nat) (s : Nat) : Nat := if idB f s = true then wys n f s else 0
def sumW (g : Nat → Nat) (l : List Nat) : Nat := (l.map g).sum
theorem sumW_snoc (g : Nat → Nat) (l : List Nat) (x : Nat) : sumW g (l ++ [x]) = sumW g l + g x := by simp [sumW]
theorem sumW_pre (g : Nat → Nat) {l m : List Nat} (h : l <+: m) : sumW g l ≤ sumW g m := by
  obtain ⟨r, rfl⟩ := h
  simp [sumW]
end Go.Proofs.Ytjheaeeeeggncaa

namespace Go.Proofs.Ytjheaeeeeggncaa
open Go.RowKit
attribute [local go_sem] Oper.semAt_some
set_option maxRecDepth 100000
set_option linter.unusedVariables false
set_option linter.unusedSimpArgs false

set_option maxHeartbeats 4000000 in
theorem c_Index (A : Option Addr) (c : Nat) (l : List Int) (x : Int) (w : World) (h : Rv 1 inV w A c l) :
    Calls Try.prog 45 #[.slice A l.length c, .int .i64 x] w fun e w' => (∃ r : Int, e = .returned (.int .i64 r) ∧ (0 ≤ r ↔ x ∈ l) ∧ -1 ≤ r ∧ r < 9223372036854775807) ∧ w' = w := by
  have H := Lib.hid h
  have k1 := h.1; have k2 := h.2.1
  unfold maxLen at k2
  clear h
  go_enter Try.func45, Try.ntmps45
  go_wp2_with (fail)
  go_loopw [8] (fun i wr => ∃ t : Nat, t ≤ l.length ∧ i = .int .i64 (t : Int) ∧ w = wr ∧ Hid (x ∉ l.take t)) (fun i _ => l.length - (intOf i).toNat)
  case atStart => exact ⟨0, Nat.zero_le _, rfl, rfl, Lib.hid (by simp)⟩
  case round =>
    obtain ⟨t, ht, rfl, rfl, hno⟩ := hrel
    have hti : ((t : Nat) : Int).toNat = t := by omega
    by_cases hlt : t < l.length
    · have htl : (t : Int) < ((l.length : Nat) : Int) := by omega
      obtain ⟨z, hz⟩ : ∃ z, l[t]? = some z := ⟨_, List.getElem?_eq_getElem hlt⟩
      obtain ⟨pb, o, rfl, -, -⟩ := H.out.at_ hz
      have y0 := inV_at H.out hz
      have HZ := Lib.hid hz
      rcases hd : (x == z) with _ | _
      · have HNN := Lib.hid (show x ∉ l.take (t + 1) by
          rw [take_snoc HZ.out, List.mem_append, List.mem_singleton]
          rintro (h | h)
          · exact hno.out h
          · rw [beq_eq_false_iff_ne] at hd; exact hd h)
        clear hz
        go_wp2_with (fail)
        go_roundw
        case rel => exact ⟨t + 1, by omega, by go_num, trivial, HNN⟩
        case measure => simp only [intOf]; omega
      · have HM := Lib.hid (show x ∈ l by rw [beq_iff_eq] at hd; rw [hd]; exact List.mem_of_getElem? HZ.out)
        clear hz
        go_wp2_with (fail)
        go_ret
        exact ⟨⟨_, rfl, ⟨fun _ => HM.out, fun _ => by omega⟩, by omega, by omega⟩, rfl⟩
    · obtain rfl : t = l.length := by omega
      have HM := Lib.hid (show x ∉ l by have := hno.out; rwa [List.take_length] at this)
      go_wp2_with (fail)
      go_ret
      exact ⟨⟨-1, rfl, ⟨fun h => absurd h (by decide), fun h => absurd h HM.out⟩, by decide, by decide⟩, rfl⟩
set_option maxHeartbeats 4000000 in
theorem c_Contains (A : Option Addr) (c : Nat) (l : List Int) (x : Int) (r : Bool) (hr : r = true ↔ x ∈ l) (w : World) (h : Rv 1 inV w A c l) :
    Calls Try.prog 43 #[.slice A l.length c, .int .i64 x] w fun e w' => e = .returned (.bool r) ∧ w' = w := by
  have HR := Lib.hid hr
  have HC := Lib.hid (c_Index A c l x w h)
  clear hr h
  go_enter Try.func43, Try.ntmps43
  go_wp2_with (fail)
  go_at_call 45
  refine HC.out.mono ?_
  rintro e w1 ⟨⟨q, rfl, hq, h1, h2⟩, hw1⟩
  rw [hw1]
  clear hw1 w1
  have HD := Lib.hid (show decide (0 ≤ q) = r by rw [Bool.eq_iff_iff, decide_eq_true_iff, hq]; exact HR.out.symm)
  obtain ⟨d, hd⟩ : ∃ d, decide (0 ≤ q) = d := ⟨_, rfl⟩
  have HDR := Lib.hid (show d = r by rw [← hd]; exact HD.out)
  clear hq
  cases d
  · go_wp2_with (fail)
    go_ret
    exact ⟨by rw [← HDR.out]; rfl, rfl⟩
  · go_wp2_with (fail)
    go_ret
    exact ⟨by rw [← HDR.out]; rfl, rfl⟩
end Go.Proofs.Ytjheaeeeeggncaa

namespace Go.Proofs.Ytjheaeeeeggncaa
open Go.RowKit
attribute [local go_sem] Oper.semAt_some
set_option maxRecDepth 100000
set_option linter.unusedVariables false
set_option linter.unusedSimpArgs false

/-- The error of Rank. -/
noncomputable def rkN (xs : List LsV) (line : List Int) : Int := if rdN xs ≠ 0 then rdN xs else if line.length = xs.length ∧ (rkL xs.length (ordF xs) line 0 0).isSome = true then 0 else 13
def lesW (n : Nat) (f : Nat → Nat) (s : Nat) (x : Int) (l : List Nat) : Nat := sumW (fun i => wys n f (s ||| 1 <<< i)) (l.filter fun (i : Nat) => decide ((i : Int) < x))
theorem lesW_snoc (n : Nat) (f : Nat → Nat) (s : Nat) (x : Int) (l : List Nat) (j : Nat) : lesW n f s x (l ++ [j]) = if (j : Int) < x then lesW n f s x l + wys n f (s ||| 1 <<< j) else lesW n f s x l := by
  unfold lesW
  rw [List.filter_append]
  by_cases h : (j : Int) < x
  · rw [if_pos h]; simp [h, sumW]
  · rw [if_neg h]; simp [h, sumW]
theorem lesW_le {n : Nat} (hn : n ≤ 12) (f : Nat → Nat) (s : Nat) (x : Int) {l : List Nat} (hl : l.length ≤ 12) : lesW n f s x l ≤ 5748019200 := by
  unfold lesW sumW
  have h1 := sum_le (f := fun i => wys n f (s ||| 1 <<< i)) (M := 479001600) (l.filter fun (i : Nat) => decide ((i : Int) < x)) (fun i _ => wys_12 hn _)
  have h2 := List.length_filter_le (fun (i : Nat) => decide ((i : Int) < x)) l
  have h3 : (l.filter fun (i : Nat) => decide ((i : Int) < x)).length * 479001600 ≤ 12 * 479001600 := Nat.mul_le_mul_right _ (by omega)
  omega
theorem rkL_cons {n : Nat} {f : Nat → Nat} {x : Int} {l : List Int} {s k : Nat} : rkL n f (x :: l) s k = if (enL n f s).any (fun (i : Nat) => (i : Int) == x) = true then rkL n f l (s ||| 1 <<< x.toNat) (k + lesW n f s x (enL n f s)) else none := rfl
theorem drop_at {α : Type} {l : List α} {t : Nat} {x : α} (h : l[t]? = some x) : l.drop t = x :: l.drop (t + 1) := by
  obtain ⟨hl, e⟩ := List.getElem?_eq_some_iff.1 h
  rw [List.drop_eq_getElem_cons hl, e]
theorem rk_err {xs : List LsV} {line : List Int} (h0 : rdN xs = 0) (h : ¬ (line.length = xs.length ∧ (rkL xs.length (ordF xs) line 0 0).isSome = true)) : rkN xs line = 13 := by unfold rkN; rw [if_neg (by simp [h0]), if_neg h]
theorem rk_ok {xs : List LsV} {line : List Int} {k : Nat} (h0 : rdN xs = 0) (h : line.length = xs.length) (h2 : rkL xs.length (ordF xs) line 0 0 = some k) : rkN xs line = 0 := by unfold rkN; rw [if_neg (by simp [h0]), if_pos ⟨h, by rw [h2]; rfl⟩]
end Go.Proofs.Ytjheaeeeeggncaa

namespace Go.Proofs.Ytjheaeeeeggncaa
open Go.RowKit
attribute [local go_sem] Oper.semAt_some
set_option maxRecDepth 100000
set_option linter.unusedVariables false
set_option linter.unusedSimpArgs false

/-- The error of Nth. -/
noncomputable def ntN (xs : List LsV) (x : Int) : Int := if rdN xs ≠ 0 then rdN xs else if 0 ≤ x ∧ x < ((wys xs.length (ordF xs) 0 : Nat) : Int) then 0 else 2
theorem pick_cons {g : Nat → Nat} {i : Nat} {l : List Nat} {k : Nat} : pickN g (i :: l) k = if k < g i then some (i, k) else pickN g l (k - g i) := rfl
theorem nthL_next {n : Nat} {b : Nat → Nat} {r s k i k' : Nat} (h : pickN (fun i => wys n b (s ||| 1 <<< i)) (enL n b s) k = some (i, k')) : nthL n b (r + 1) s k = i :: nthL n b r (s ||| 1 <<< i) k' := by
  show (match pickN (fun i => wys n b (s ||| 1 <<< i)) (enL n b s) k with | some (i, k') => i :: nthL n b r (s ||| 1 <<< i) k' | none => []) = _
  rw [h]
theorem nt_in {xs : List LsV} {x : Int} (h0 : rdN xs = 0) (h : 0 ≤ x ∧ x < ((wys xs.length (ordF xs) 0 : Nat) : Int)) : ntN xs x = 0 := by unfold ntN; rw [if_neg (by simp [h0]), if_pos h]
theorem nt_out {xs : List LsV} {x : Int} (h0 : rdN xs = 0) (h : ¬ (0 ≤ x ∧ x < ((wys xs.length (ordF xs) 0 : Nat) : Int))) : ntN xs x = 2 := by unfold ntN; rw [if_neg (by simp [h0]), if_neg h]
theorem free_none {n : Nat} : free n 0 = n := by
  unfold free cnt
  rw [List.filter_eq_self.2 (fun i _ => by simp)]
  simp
end Go.Proofs.Ytjheaeeeeggncaa

namespace Go.Proofs.Ytjheaeeeeggncaa
open Go.RowKit
attribute [local go_sem] Oper.semAt_some
set_option maxRecDepth 100000
set_option linter.unusedVariables false
set_option linter.unusedSimpArgs false

theorem take_eq_next {α : Type} {l m : List α} {t : Nat} {x y : α} (hx : l[t]? = some x) (hy : m[t]? = some y) (h : l.take t = m.take t) : l.take (t + 1) = m.take (t + 1) ↔ x = y := by
  rw [take_snoc hx, take_snoc hy, h]
  simp
set_option maxHeartbeats 8000000 in
theorem c_eqInts (A1 : Option Addr) (c1 : Nat) (l : List Int) (A2 : Option Addr) (c2 : Nat) (m : List Int) (r : Bool) (hr : decide (l = m) = r) (w : World) (h1 : Rv 1 inV w A1 c1 l) (h2 : Rv 1 inV w A2 c2 m) :
    Calls Try.prog 25 #[.slice A1 l.length c1, .slice A2 m.length c2] w fun e w' => e = .returned (.bool r) ∧ Below w.heap.size w w' := by
  have H1 := Lib.hid h1
  have H2 := Lib.hid h2
  have HR := Lib.hid hr
  have k1 := h1.1; have k2 := h1.2.1
  have j1 := h2.1; have j2 := h2.2.1
  unfold maxLen at k2 j2
  clear h1 h2 hr
  have HB0 := Lib.hid (Below.refl w.heap.size w)
  by_cases hl : l.length = m.length
  rotate_left
  · have hd0 : ((l.length : Int) == (m.length : Int)) = false := by rw [beq_eq_false_iff_ne]; omega
    have hne : ((l.length : Int) != (m.length : Int)) = true := by simp; omega
    have HF := Lib.hid (show false = r by rw [← HR.out]; exact (decide_eq_false fun e => hl (by rw [e])).symm)
    clear hl
    go_enter Try.func25, Try.ntmps25
    go_wp2_with (fail)
    go_ret
    exact ⟨by rw [← HF.out]; rfl, HB0.out⟩
  have hd0 : ((l.length : Int) == (m.length : Int)) = true := by rw [beq_iff_eq]; omega
  have hne : ((l.length : Int) != (m.length : Int)) = false := by simp; omega
  have HLM := Lib.hid hl
  go_enter Try.func25, Try.ntmps25
  go_wp2_with (fail)
  go_loopw [13] (fun i wr => ∃ t : Nat, t ≤ l.length ∧ i = .int .i64 (t : Int) ∧ Hid (Below w.heap.size w wr) ∧ Hid (l.take t = m.take t)) (fun i _ => l.length - (intOf i).toNat)
  case atStart => exact ⟨0, Nat.zero_le _, rfl, HB0, Lib.hid (by simp)⟩
  case round =>
    obtain ⟨t, ht, rfl, hB, hT⟩ := hrel
    have hti : ((t : Nat) : Int).toNat = t := by omega
    by_cases hlt : t < l.length
    · have htl : (t : Int) < ((l.length : Nat) : Int) := by omega
      have htm : (t : Int) < ((m.length : Nat) : Int) := by omega
      obtain ⟨x, hx⟩ : ∃ x, l[t]? = some x := ⟨_, List.getElem?_eq_getElem hlt⟩
      obtain ⟨y, hy⟩ : ∃ y, m[t]? = some y := ⟨_, List.getElem?_eq_getElem (by omega)⟩
      have HX := H1.out.on hB.out (Nat.le_refl _)
      have HY := H2.out.on hB.out (Nat.le_refl _)
      obtain ⟨pb, o, rfl, -, -⟩ := HX.at_ hx
      obtain ⟨pb2, o2, rfl, -, -⟩ := HY.at_ hy
      have y0 := inV_at HX hx
      have y1 := inV_at HY hy
      have HN := Lib.hid (take_eq_next hx hy hT.out)
      clear hx hy HX HY
      rcases hd : (x == y) with _ | _
      · have hd2 : (x != y) = true := by simp [bne, hd]
        have HF := Lib.hid (show false = r by
          rw [← HR.out]
          refine (decide_eq_false fun e => ?_).symm
          have := HN.out.1 (by rw [e])
          rw [beq_eq_false_iff_ne] at hd
          exact hd this)
        go_wp2_with (fail)
        go_region
        all_goals go_wp2_with (fail)
        all_goals
          go_ret
          exact ⟨by rw [← HF.out]; rfl, hB.out.drew⟩
      · have hd2 : (x != y) = false := by simp [bne, hd]
        have HT2 := Lib.hid (HN.out.2 (by rw [beq_iff_eq] at hd; exact hd))
        go_wp2_with (fail)
        go_region
        all_goals go_wp2_with (fail)
        all_goals exact ⟨⟨t + 1, by omega, by go_num, Lib.hid hB.out.drew, HT2⟩, by simp only [intOf]; omega⟩
    · obtain rfl : t = l.length := by omega
      have HF := Lib.hid (show true = r by
        rw [← HR.out]
        have := hT.out
        rw [List.take_length, HLM.out, List.take_length] at this
        exact (decide_eq_true this).symm)
      go_wp2_with (fail)
      go_ret
      exact ⟨by rw [← HF.out]; rfl, hB.out⟩
end Go.Proofs.Ytjheaeeeeggncaa

namespace Go.Proofs.Ytjheaeeeeggncaa
open Go.RowKit
attribute [local go_sem] Oper.semAt_some
set_option maxRecDepth 100000
set_option linter.unusedVariables false
set_option linter.unusedSimpArgs false

def lsL (xs : List LsV) : List (List Int) := xs.map (·.l)
theorem lsL_at {xs : List LsV} {t : Nat} {x : LsV} (h : xs[t]? = some x) : (lsL xs)[t]? = some x.l := by simp [lsL, h]
set_option maxHeartbeats 8000000 in
theorem c_EqualFunc (A1 : Option Addr) (c1 : Nat) (xs : List LsV) (A2 : Option Addr) (c2 : Nat) (ys : List LsV) (r : Bool) (hr : decide (lsL xs = lsL ys) = r) (w : World) (h1 : LsAt w A1 c1 xs) (h2 : LsAt w A2 c2 ys) :
    Calls Try.prog 53 #[.slice A1 xs.length c1, .slice A2 ys.length c2, .func (.func 25) #[] #[]] w fun e w' => e = .returned (.bool r) ∧ Below w.heap.size w w' := by
  have H1 := Lib.hid h1
  have H2 := Lib.hid h2
  have HR := Lib.hid hr
  have k1 := h1.1.1; have k2 := h1.1.2.1
  have j1 := h2.1.1; have j2 := h2.1.2.1
  unfold maxLen at k2 j2
  clear h1 h2 hr
  have HB0 := Lib.hid (Below.refl w.heap.size w)
  by_cases hl : xs.length = ys.length
  rotate_left
  · have hd0 : ((xs.length : Int) == (ys.length : Int)) = false := by rw [beq_eq_false_iff_ne]; omega
    have hne : ((xs.length : Int) != (ys.length : Int)) = true := by simp; omega
    have HF := Lib.hid (show false = r by
      rw [← HR.out]
      refine (decide_eq_false fun e => hl ?_).symm
      have := congrArg List.length e
      simpa [lsL] using this)
    clear hl
    go_enter Try.func53, Try.ntmps53
    go_wp2_with (fail)
    go_ret
    exact ⟨by rw [← HF.out]; rfl, HB0.out⟩
  have hd0 : ((xs.length : Int) == (ys.length : Int)) = true := by rw [beq_iff_eq]; omega
  have hne : ((xs.length : Int) != (ys.length : Int)) = false := by simp; omega
  have HLM := Lib.hid hl
  clear hl
  go_enter Try.func53, Try.ntmps53
  go_wp2_with (fail)
  go_loopw [17] (fun i wr => ∃ t : Nat, t ≤ xs.length ∧ i = .int .i64 (t : Int) ∧ Hid (Below w.heap.size w wr) ∧ Hid ((lsL xs).take t = (lsL ys).take t)) (fun i _ => xs.length - (intOf i).toNat)
  case atStart => exact ⟨0, Nat.zero_le _, rfl, HB0, Lib.hid (by simp)⟩
  case round =>
    obtain ⟨t, ht, rfl, hB, hT⟩ := hrel
    have hti : ((t : Nat) : Int).toNat = t := by omega
    by_cases hlt : t < xs.length
    · have htl : (t : Int) < ((xs.length : Nat) : Int) := by omega
      have htm : (t : Int) < ((ys.length : Nat) : Int) := by have := HLM.out; omega
      obtain ⟨x, hx⟩ : ∃ x, xs[t]? = some x := ⟨_, List.getElem?_eq_getElem hlt⟩
      obtain ⟨y, hy⟩ : ∃ y, ys[t]? = some y := ⟨_, List.getElem?_eq_getElem (by have := HLM.out; omega)⟩
      have HX := H1.out.on hB.out (Nat.le_refl _)
      have HY := H2.out.on hB.out (Nat.le_refl _)
      have HXL := HX.2 x (List.mem_of_getElem? hx)
      have HYL := HY.2 y (List.mem_of_getElem? hy)
      obtain ⟨pb, o, rfl, -, -⟩ := HX.1.at_ hx
      obtain ⟨pb2, o2, rfl, -, -⟩ := HY.1.at_ hy
      have y0 := ls_at HX.1 hx
      have y1 := ls_at HY.1 hy
      have HN := Lib.hid (take_eq_next (lsL_at hx) (lsL_at hy) hT.out)
      obtain ⟨q, hq⟩ : ∃ q, decide (x.l = y.l) = q := ⟨_, rfl⟩
      have HC := Lib.hid (c_eqInts x.A x.c x.l y.A y.c y.l q hq wr HXL HYL)
      have HQ := Lib.hid hq
      clear hx hy HX HY HXL HYL hq
      go_wp2_with (fail)
      go_at_call 25
      refine HC.out.mono ?_
      rintro e w1 ⟨rfl, b1⟩
      have K1 := Lib.hid (below_join hB.out b1 hB.out.size)
      clear b1
      cases q
      · have HF := Lib.hid (show false = r by
          rw [← HR.out]
          refine (decide_eq_false fun e => ?_).symm
          have := HN.out.1 (by rw [e])
          exact (of_decide_eq_false HQ.out) this)
        go_wp2_with (fail)
        go_ret
        exact ⟨by rw [← HF.out]; rfl, K1.out⟩
      · have HT2 := Lib.hid (HN.out.2 (of_decide_eq_true HQ.out))
        go_wp2_with (fail)
        go_roundw
        case rel => exact ⟨t + 1, by omega, by go_num, K1, HT2⟩
        case measure => simp only [intOf]; omega
    · obtain rfl : t = xs.length := by omega
      have HF := Lib.hid (show true = r by
        rw [← HR.out]
        have := hT.out
        have e1 : (lsL xs).length = xs.length := by simp [lsL]
        have e2 : (lsL ys).length = ys.length := by simp [lsL]
        rw [List.take_of_length_le (by omega), List.take_of_length_le (by have := HLM.out; omega)] at this
        exact (decide_eq_true this).symm)
      go_wp2_with (fail)
      go_ret
      exact ⟨by rw [← HF.out]; rfl, hB.out⟩
theorem c_same (A1 : Option Addr) (c1 : Nat) (xs : List LsV) (A2 : Option Addr) (c2 : Nat) (ys : List LsV) (r : Bool) (hr : decide (lsL xs = lsL ys) = r) (w : World) (h1 : LsAt w A1 c1 xs) (h2 : LsAt w A2 c2 ys) :
    Calls Try.prog 17 #[.slice A1 xs.length c1, .slice A2 ys.length c2] w fun e w' => e = .returned (.bool r) ∧ Below w.heap.size w w' := by
  have HC := Lib.hid (c_EqualFunc A1 c1 xs A2 c2 ys r hr w h1 h2)
  clear hr h1 h2
  go_enter Try.func17, Try.ntmps17
  go_wp2_with (fail)
  go_at_call 53
  refine HC.out.mono ?_
  rintro e w1 ⟨rfl, b1⟩
  have K1 := Lib.hid b1
  clear b1
  go_wp2_with (fail)
  go_ret
  exact ⟨rfl, K1.out⟩
end Go.Proofs.Ytjheaeeeeggncaa

namespace Go.Proofs.Ytjheaeeeeggncaa
open Go.RowKit
set_option maxRecDepth 100000
set_option linter.unusedVariables false
set_option linter.unusedSimpArgs false

def mkEm : List (Nat × Nat) → Nat → List MapEntry
  | [], _ => []
  | (k, v) :: l, n => { key := .int .u16 (k : Int), val := .int .i64 (v : Int), born := n } :: mkEm l (n + 1)
def assocN (s : Nat) : List (Nat × Nat) → Option Nat
  | [] => none
  | (k, x) :: l => if k = s then some x else assocN s l
theorem assocN_mem {s v : Nat} : ∀ {l : List (Nat × Nat)}, assocN s l = some v → (s, v) ∈ l
  | [], h => by cases h
  | (k, x) :: l, h => by
    unfold assocN at h
    split at h
    · rename_i e
      injection h with h
      subst e h
      exact List.mem_cons_self ..
    · exact List.mem_cons_of_mem _ (assocN_mem h)
theorem assocN_none {s : Nat} : ∀ {l : List (Nat × Nat)}, assocN s l = none ↔ ∀ x ∈ l, x.1 ≠ s
  | [] => ⟨fun _ x hx => (by cases hx), fun _ => rfl⟩
  | (k, y) :: l => by
    unfold assocN
    constructor
    · intro h x hx
      split at h
      · cases h
      · rename_i hne
        rcases List.mem_cons.1 hx with rfl | hx
        · exact hne
        · exact assocN_none.1 h x hx
    · intro h
      rw [if_neg (h (k, y) (List.mem_cons_self ..))]
      exact assocN_none.2 fun x hx => h x (List.mem_cons_of_mem _ hx)
/-- Block b is a map from these sets to these numbers. -/
def MapN (w : World) (b : Nat) (tab : List (Nat × Nat)) : Prop := ∃ es, w.heap[b]? = some (.map es tab.length) ∧ es.toList = mkEm tab 0
theorem findNow_mm (s : Nat) : ∀ (tab : List (Nat × Nat)) (n i : Nat),
    (∃ (j : Nat) (v : Nat), Instr.findNow (.int .u16) (.int .u16 (s : Int)) (mkEm tab n) i = some (some (j, .int .i64 (v : Int))) ∧ assocN s tab = some v) ∨ (Instr.findNow (.int .u16) (.int .u16 (s : Int)) (mkEm tab n) i = some none ∧ assocN s tab = none)
  | [], n, i => .inr ⟨rfl, rfl⟩
  | (k, v) :: l, n, i => by
    by_cases hk : k = s
    · subst hk
      exact .inl ⟨i, v, by simp [mkEm, Instr.findNow, Instr.sameNow], by simp [assocN]⟩
    · have hne : ((s : Int) == (k : Int)) = false := by rw [beq_eq_false_iff_ne]; omega
      rcases findNow_mm s l (n + 1) (i + 1) with ⟨j, v', h1, h2⟩ | ⟨h1, h2⟩
      · exact .inl ⟨j, v', by simp [mkEm, Instr.findNow, Instr.sameNow, hne, h1], by simp [assocN, hk, h2]⟩
      · exact .inr ⟨by simp [mkEm, Instr.findNow, Instr.sameNow, hne, h1], by simp [assocN, hk, h2]⟩
theorem run_lookM {P : Program} {t k e : TypeId} (ht : P.underlying t = some (.map k e)) (hk : P.underlying k = some (.int .u16)) {w : World} (hz : (zeroValue e).run P w = .ok (.int .i64 0) w) {b : Nat} {tab : List (Nat × Nat)} (hm : MapN w b tab) (s : Nat) :
    (Instr.lookup t (.map (some b)) (.int .u16 (s : Int)) true).run P w = .ok (.tuple #[.int .i64 (((assocN s tab).getD 0 : Nat) : Int), .bool (assocN s tab).isSome]) w := by
  obtain ⟨es, hb, he⟩ := hm
  have hc : (Instr.checkKey es.isEmpty 10000 k (.int .u16 (s : Int))).run P w = .ok () w := MapKept.run_checkKey (k := .int .u16 (s : Int)) hk (by simp [MapKept.IsKey]) _ 9999
  rcases findNow_mm s tab 0 0 with ⟨j, v, h1, h2⟩ | ⟨h1, h2⟩
  · rw [← he] at h1
    simp [Instr.lookup, run_underlying ht, MapKept.run_getObj_map hb, hc, MapKept.run_findKey hk h1, h2, Result.andThen]
  · rw [← he] at h1
    simp [Instr.lookup, run_underlying ht, MapKept.run_getObj_map hb, hc, MapKept.run_findKey hk h1, h2, Result.andThen, hz]
theorem mkEm_snoc (k : Nat) (v : Nat) : ∀ (tab : List (Nat × Nat)) (n : Nat), mkEm (tab ++ [(k, v)]) n = mkEm tab n ++ [{ key := .int .u16 (k : Int), val := .int .i64 (v : Int), born := n + tab.length }]
  | [], n => by simp [mkEm]
  | (k', v') :: l, n => by simp [mkEm, mkEm_snoc k v l (n + 1)]; omega
theorem run_putM {P : Program} {t k e : TypeId} (ht : P.underlying t = some (.map k e)) (hk : P.underlying k = some (.int .u16)) {w : World} {b : Nat} {tab : List (Nat × Nat)} (hm : MapN w b tab) (s v : Nat) (hs : assocN s tab = none) :
    ∃ w', (Instr.mapUpdate t (.map (some b)) (.int .u16 (s : Int)) (.int .i64 (v : Int))).run P w = .ok () w' ∧ MapN w' b (tab ++ [(s, v)]) ∧ w.grownBy w' (some b) := by
  obtain ⟨es, hb, he⟩ := hm
  have hc : (Instr.checkKey false 10000 k (.int .u16 (s : Int))).run P w = .ok () w := MapKept.run_checkKey (k := .int .u16 (s : Int)) hk (by simp [MapKept.IsKey]) false 9999
  have hf : Instr.findNow (.int .u16) (.int .u16 (s : Int)) es.toList 0 = some none := by
    rw [he]
    rcases findNow_mm s tab 0 0 with ⟨j, v, h1, h2⟩ | ⟨h1, h2⟩
    · rw [hs] at h2; cases h2
    · exact h1
  refine ⟨_, by simp [Instr.mapUpdate, run_underlying ht, MapKept.run_getObj_map hb, hc, MapKept.run_findKey hk hf, MapKept.run_setObj_map _ hb, Result.andThen]; rfl, ⟨es.push { key := .int .u16 (s : Int), val := .int .i64 (v : Int), born := tab.length }, ?_, ?_⟩, ?_⟩
  · have hlt := (Array.getElem?_eq_some_iff.1 hb).1
    simp [hlt]
  · rw [mkEm_snoc, Array.toList_push, he, Nat.zero_add]
  · exact ⟨rfl, rfl, rfl, by simp, fun i hi hne => by
      simp only [Array.getElem?_setIfInBounds]
      rw [if_neg (fun e => hne (by rw [e]))]⟩
theorem MapN.keep {w w' : World} {b : Nat} {tab : List (Nat × Nat)} (h : MapN w b tab) (H : ∀ o : Obj, w.heap[b]? = some o → w'.heap[b]? = some o) : MapN w' b tab := by
  obtain ⟨es, h1, h2⟩ := h; exact ⟨es, H _ h1, h2⟩
theorem MapN.lt {w : World} {b : Nat} {tab : List (Nat × Nat)} (h : MapN w b tab) : b < w.heap.size := by
  obtain ⟨es, h1, h2⟩ := h; exact (Array.getElem?_eq_some_iff.1 h1).1
theorem MapN.on {w w' : World} {b n : Nat} {tab : List (Nat × Nat)} (h : MapN w b tab) (hb : Below n w w') (hn : w.heap.size ≤ n) : MapN w' b tab := h.keep fun o ho => (hb.block b (by have := h.lt; omega)).trans ho
/-- What a map of ways may hold. -/
def TabOk (n : Nat) (f : Nat → Nat) (tab : List (Nat × Nat)) : Prop := ∀ x ∈ tab, x.2 = wys n f x.1
theorem TabOk.app {n : Nat} {f : Nat → Nat} {a b : List (Nat × Nat)} (h : TabOk n f a) (k : TabOk n f b) : TabOk n f (a ++ b) := fun x hx => by
  rcases List.mem_append.1 hx with hx | hx
  · exact h x hx
  · exact k x hx
end Go.Proofs.Ytjheaeeeeggncaa

namespace Go.Proofs.Ytjheaeeeeggncaa
open Go.RowKit Go.Shelf
set_option maxRecDepth 100000

/-- Q, but nothing is outgrown. -/
def NoOut (Q : Exit → Act → World → Prop) : Exit → Act → World → Prop
  | .outgrown, _, _ => False
  | e, a, w => Q e a w
theorem NoOut.imp {Q : Exit → Act → World → Prop} : ∀ (e : Exit) (a : Act) (w : World), NoOut Q e a w → Q e a w := fun e _ _ h => by
  cases e <;> first | exact h | exact h.elim
theorem noOut_normal (Q : Exit → Act → World → Prop) (a : Act) (w : World) : NoOut Q .normal a w = Q .normal a w := rfl
theorem not_letsOut (Q : Exit → Act → World → Prop) : ¬ LetsOut (NoOut Q) := fun ⟨_, _, h⟩ => h
theorem opIn_of_op {P : Program} {o : Oper} {a : Act} {w : World} {l n : Nat} {K : Act → World → Prop} {Q : Exit → Act → World → Prop} (hnd : ∀ c, o.op ≠ .defer c) (h : o.wp P a w K (NoOut Q)) : o.wpIn (Fence.wide.inRound l) n P a w K Q := by
  unfold Oper.wpIn
  refine ⟨fun _ _ => trivial, ?_⟩
  rw [show (Fence.wide.inRound l).round = some l from rfl, Oper.semAt_eq _ _ _ hnd]
  unfold Oper.wp at h
  generalize (execOp a.eval o).run P w = r at *
  cases r with
  | ok x w' =>
    cases x <;> simp only [Oper.uponIn, Oper.upon] at h ⊢
    case value => exact h
    case skip => exact h
    case defer => exact h
    case enter f args =>
      refine ⟨fun h => (by cases h), (CallsIn.inRound l (calls_wide h)).mono fun e w'' he => ?_⟩
      cases e with
      | returned v => exact he
      | panicked c => exact he
      | outgrown => exact (not_letsOut Q he).elim
    case row row args => exact ⟨fun h => (by cases h), fun c cs _ => by obtain ⟨v, w'', r, s⟩ := h c cs; exact ⟨v, w'', r, stepsIn_wide.2 s⟩⟩
  | halt x w' =>
    cases x <;> simp only [Oper.uponIn, Oper.upon] at h ⊢
    case panic => exact h
def noDefer (ops : Array Oper) : Bool := ops.all fun o => match o.op with | .defer _ => false | _ => true
theorem noDefer_spec {ops : Array Oper} (h : noDefer ops = true) {i : Nat} {o : Oper} (ho : ops[i]? = some o) : ∀ c, o.op ≠ .defer c := by
  intro c hc
  unfold noDefer at h
  rw [Array.all_eq_true_iff_forall_mem] at h
  have := h o (Array.mem_of_getElem? ho)
  rw [hc] at this
  cases this
section
variable {P : Program} {ops : Array Oper} {Q : Exit → Act → World → Prop} {md : Region.Mode} {S : World → Prop} {z : Nat}
/-- Whatever order comes: S holds behind each operation but z. -/
def wpAnyZ (P : Program) (md : Region.Mode) (ops : Array Oper) (Q : Exit → Act → World → Prop) (S : World → Prop) (z : Nat) : Nat → Array Bool → Act → World → Prop
  | 0, listed, a, w => Region.ready md ops listed = [] ∧ Q .normal a w
  | fuel + 1, listed, a, w =>
    (Region.ready md ops listed = [] → Q .normal a w) ∧
    ∀ i ∈ Region.ready md ops listed, wpOp P ops Q i (fun a' w' => (i = z ∨ S w') ∧ wpAnyZ P md ops Q S z fuel (listed.setIfInBounds i true) a' w') a w
/-- z waits for all others. -/
def waitsAll (md : Region.Mode) (ops : Array Oper) (z : Nat) : Bool :=
  match ops[z]? with
  | none => false
  | some o => (List.range ops.size).all fun k => k == z || o.after.any fun e => Region.binds md e && e.on == k
theorem waits_spec (hz : waitsAll md ops z = true) {listed : Array Bool} (hr : z ∈ Region.ready md ops listed) {i : Nat} (hi : i < ops.size) (hne : i ≠ z) : listed.getD i false = true := by
  obtain ⟨-, o, ho, hall⟩ := mem_ready.1 hr
  unfold waitsAll at hz
  rw [ho] at hz
  have h1 := List.all_eq_true.1 hz i (List.mem_range.2 hi)
  simp only [Bool.or_eq_true, beq_iff_eq] at h1
  rcases h1 with h1 | h1
  · exact absurd h1 hne
  · rw [← Array.any_toList, List.any_eq_true] at h1
    obtain ⟨e, he, hb⟩ := h1
    rw [Array.mem_toList_iff] at he
    simp only [Bool.and_eq_true, beq_iff_eq] at hb
    have := hall e he hb.1
    rw [hb.2] at this
    exact this
theorem not_both {listed : Array Bool} {i : Nat} (h1 : listed.getD i true = false) (h2 : listed.getD i false = true) : False := by
  by_cases hlt : i < listed.size
  · simp [hlt] at h1 h2
    rw [h1] at h2; cases h2
  · simp [Array.getElem?_eq_none (show listed.size ≤ i by omega)] at h1
theorem z_first {i : Nat} {oi : Oper} {v : Value} (hz : waitsAll md ops z = true) (hi : ops[i]? = some oi) (hsel : ∀ (j : Nat) (o : Oper) cs b, ops[j]? = some o → o.op ≠ .select cs b) (hQ : ∀ c a w, Q (.panic c) (a.put oi.dst v) w → Q (.panic c) a w) :
    ∀ (fuel : Nat) (listed : Array Bool) (a : Act) (w : World), (∀ j oj, ops[j]? = some oj → j ≠ i → listed.getD j true = false → (∀ e ∈ oj.after, Region.binds md e = true → e.on ≠ i) → oi.apart ops oj = true) →
      i ∈ Region.ready md ops listed → YieldsIf P ops S oi v a → S w → wpAnyZ P md ops Q S z fuel (listed.setIfInBounds i true) (a.put oi.dst v) w → wpAnyZ P md ops Q S z (fuel + 1) listed a w := by
  intro fuel
  induction fuel with
  | zero =>
    intro listed a w _ hr hy hS H
    refine ⟨fun h0 => ?_, fun j hj => ?_⟩
    · rw [h0] at hr; cases hr
    · rcases Nat.decEq j i with hne | heq
      · have h1 := ready_mono hj hne
        rw [H.1] at h1
        cases h1
      · subst heq
        exact hy.wpOp hi hS ⟨.inr hS, H⟩
  | succ fuel ih =>
    intro listed a w hfree hr hy hS H
    refine ⟨fun h0 => ?_, fun j hj => ?_⟩
    · rw [h0] at hr; cases hr
    rcases Nat.decEq j i with hne | heq
    · obtain ⟨hjun, oj, hoj, hall⟩ := mem_ready.1 hj
      have hi0 := (mem_ready.1 hr).1
      have hwait : ∀ e ∈ oj.after, Region.binds md e = true → e.on ≠ i := fun e he hb heq => not_both hi0 (by have h1 := hall e he hb; rw [heq] at h1; exact h1)
      have hjz : j ≠ z := fun e => by
        subst e
        exact not_both hi0 (waits_spec hz hj ((Array.getElem?_eq_some_iff.1 hi).1) (Ne.symm hne))
      have h2 := wpOp_putIf hoj (hfree j oj hoj hne hjun hwait) (fun cs b => hsel i oi cs b hi) (fun cs b => hsel j oj cs b hoj) hQ hy (H.2 j (ready_mono hj hne))
      refine wpOp_mono (fun a' w' h3 => ?_) h2
      obtain ⟨h4, h5, h6⟩ := h3
      have hSw : S w' := h5.resolve_left hjz
      refine ⟨.inr hSw, ih (listed.setIfInBounds j true) a' w' (fun k ok hk hki hun hno => hfree k ok hk hki ?_ hno) (ready_mono hr (Ne.symm hne)) h4 hSw ?_⟩
      · by_cases hjk : j = k
        · subst hjk; exact hjun
        · rw [getD_set_ne true hjk] at hun; exact hun
      · rw [Array.setIfInBounds_comm _ _ hne]
        exact h6
    · subst heq
      exact hy.wpOp hi hS ⟨.inr hS, H⟩
theorem takeZ (i : Nat) (d : Option Tmp) {oi : Oper} {v : Value} {fuel : Nat} {listed : Array Bool} {a : Act} {w : World} (hz : waitsAll md ops z = true) (hi : ops[i]? = some oi) (hd : oi.dst = d)
    (hs : Region.noSelect ops = true) (hf : Region.free md ops listed i = true) (hr : (Region.ready md ops listed).contains i = true)
    (hQ : ∀ c a w, Q (.panic c) (a.put d v) w → Q (.panic c) a w) (hw : Region.wanted oi (yielded ops a.tmps) = true) (hy : ∀ w, S w → (execOp a.eval oi).run P w = .ok (.value v) w) (hS : S w)
    (h : wpAnyZ P md ops Q S z fuel (listed.setIfInBounds i true) (a.put d v) w) : wpAnyZ P md ops Q S z (fuel + 1) listed a w := by
  subst hd
  exact z_first hz hi (Region.noSelect_spec hs) hQ fuel listed a w (Region.free_spec hi hf) (by simpa using hr) (.inl ⟨hw, hy⟩) hS h
/-- One operation alone may come up. -/
theorem oneZ (i : Nat) {oi : Oper} {fuel : Nat} {listed : Array Bool} {a : Act} {w : World} (hi : ops[i]? = some oi) (hr : Region.ready md ops listed = [i])
    (h : ∀ K : Act → World → Prop, _root_.Go.Shut (∀ a w, (i = z ∨ S w) → wpAnyZ P md ops Q S z fuel (listed.setIfInBounds i true) a w → K a w) → if Region.wanted oi (yielded ops a.tmps) = true then Oper.wp P oi a w K Q else K (a.put oi.dst undef) w) :
    wpAnyZ P md ops Q S z (fuel + 1) listed a w := by
  refine ⟨fun h0 => ?_, fun j hj => ?_⟩
  · rw [hr] at h0; cases h0
  · rw [hr] at hj
    obtain rfl : j = i := by simpa using hj
    exact wpOp_step hi fun K hK => h K fun a w h1 h2 => hK a w ⟨h1, h2⟩
theorem doneZ {listed : Array Bool} {a : Act} {w : World} (hr : Region.ready md ops listed = []) (h : Q .normal a w) : ∀ fuel, wpAnyZ P md ops Q S z fuel listed a w
  | 0 => ⟨hr, h⟩
  | _ + 1 => ⟨fun _ => h, by rw [hr]; simp⟩
end

theorem anyIn_of_z {P : Program} {ops : Array Oper} {md : Region.Mode} {l n z : Nat} {S : World → Prop} {Q : Exit → Act → World → Prop} (hnd : noDefer ops = true) :
    ∀ (fuel : Nat) (listed : Array Bool) (a : Act) (w : World), wpAnyZ P md ops (NoOut Q) S z fuel listed a w → wpAnyIn (Fence.wide.inRound l) n P md ops Q fuel listed a w
  | 0, _, _, _, h => ⟨h.1, NoOut.imp _ _ _ h.2⟩
  | fuel + 1, listed, a, w, h => by
    refine ⟨fun h0 => NoOut.imp _ _ _ (h.1 h0), fun i hi => ?_⟩
    have h2 := h.2 i hi
    unfold wpOp at h2
    unfold wpOpIn
    split at h2
    · rename_i e
      rw [e]
      exact anyIn_of_z hnd fuel _ _ _ h2.2
    · rename_i o e
      rw [e]
      show if _ then _ else _
      split at h2
      · rename_i hw
        rw [if_pos hw]
        rcases h2 with h2 | h2
        · exact Oper.wpIn_mono (fun a' w' h3 => anyIn_of_z hnd fuel _ a' w' h3.2) (opIn_of_op (noDefer_spec hnd e) h2)
        · exact (not_letsOut Q h2.2).elim
      · rename_i hw
        rw [if_neg hw]
        exact ⟨fun _ _ => trivial, anyIn_of_z hnd fuel _ _ _ h2.2⟩
/-- A region that draws, in a round; the operation z waits for all others. -/
theorem region_round_z {P : Program} {ops : Array Oper} {l n id : Nat} {S : World → Prop} {Q : Exit → Act → World → Prop} {a : Act} {w : World} (z : Nat) (hm : P.follows .mixedOrders = true) (hnd : noDefer ops = true) (hS : S w.drew)
    (h : S w.drew → wpAnyZ P .any ops (NoOut Q) S z ops.size (Array.replicate ops.size false) a w.drew) : (Code.region id ops true).wpIn (Fence.wide.inRound l) n P Q a w :=
  wpIn_region_any hm (anyIn_of_z hnd _ _ _ _ (h hS))
end Go.Proofs.Ytjheaeeeeggncaa

namespace Go.Proofs.Ytjheaeeeeggncaa
open Go.RowKit Go.Shelf
attribute [local go_sem] Oper.semAt_some
set_option maxRecDepth 100000
set_option linter.unusedVariables false
set_option linter.unusedSimpArgs false

theorem zeroInt (w : World) : (zeroValue 3).run Try.prog w = .ok (.int .i64 0) w := by kernel_rfl
/-- Where ways keeps its variables: kb: what is known (the map M); bb: the order (the block g); cb: the closure. -/
structure WyA where
  g : Nat
  kb : Nat
  M : Nat
  bb : Nat
  cb : Nat
def WyA.fn (a : WyA) : Value := .func (.func 81) #[] #[.pointer (some ⟨a.kb, 0, none⟩), .pointer (some ⟨a.bb, 0, none⟩), .pointer (some ⟨a.cb, 0, none⟩)]
structure WyAt (n : Nat) (f : Nat → Nat) (a : WyA) (tab : List (Nat × Nat)) (W : World) : Prop where
  blk : Blk W a.g n f
  known : W.heap[a.kb]? = some (.cells #[.map (some a.M)] 98 (0, 0))
  map : MapN W a.M tab
  ord : W.heap[a.bb]? = some (.cells #[.slice (some ⟨a.g, 0, none⟩) n n] 64 (0, 0))
  clo : W.heap[a.cb]? = some (.cells #[a.fn] 81 (0, 0))
  ok : TabOk n f tab
  all : (2 ^ n - 1, 1) ∈ tab
theorem MapN.ne {W : World} {M k : Nat} {tab : List (Nat × Nat)} {cs : Array Value} {T : TypeId} {fr : Nat × Nat} (h : MapN W M tab) (hk : W.heap[k]? = some (.cells cs T fr)) : k ≠ M := by
  obtain ⟨es, h1, -⟩ := h
  intro e
  subst e
  rw [h1] at hk
  cases hk
theorem WyAt.but {n : Nat} {f : Nat → Nat} {a : WyA} {tab new : List (Nat × Nat)} {W X : World} (h : WyAt n f a tab W) (hb : But a.M W X) (hm : MapN X a.M (tab ++ new)) (hn : TabOk n f new) : WyAt n f a (tab ++ new) X :=
  ⟨hb.same _ _ (h.map.ne h.blk) h.blk, hb.same _ _ (h.map.ne h.known) h.known, hm, hb.same _ _ (h.map.ne h.ord) h.ord, hb.same _ _ (h.map.ne h.clo) h.clo, h.ok.app hn, List.mem_append_left _ h.all⟩
theorem WyAt.on {n B : Nat} {f : Nat → Nat} {a : WyA} {tab : List (Nat × Nat)} {W X : World} (h : WyAt n f a tab W) (hb : Below B W X) (hB : W.heap.size ≤ B) : WyAt n f a tab X := by
  have hm := h.map.on hb hB
  have := h.but (new := []) (X := X) (But.of_below hb hB) (by simpa using hm) (fun x hx => by cases hx)
  simpa using this
def Sup (s x : Nat) : Prop := ∀ i, s.testBit i = true → x.testBit i = true
/-- What is added. -/
structure New (n : Nat) (f : Nat → Nat) (s : Nat) (new : List (Nat × Nat)) : Prop where
  ok : TabOk n f new
  sup : ∀ x ∈ new, Sup s x.1
theorem New.nil {n : Nat} {f : Nat → Nat} (s : Nat) : New n f s [] := ⟨fun x hx => (by cases hx), fun x hx => (by cases hx)⟩
theorem New.app {n s : Nat} {f : Nat → Nat} {a b : List (Nat × Nat)} (h : New n f s a) (k : New n f s b) : New n f s (a ++ b) := ⟨h.ok.app k.ok, fun x hx => by
  rcases List.mem_append.1 hx with hx | hx
  · exact h.sup x hx
  · exact k.sup x hx⟩
def WyPost (n : Nat) (f : Nat → Nat) (a : WyA) (tab : List (Nat × Nat)) (s : Nat) (W : World) (e : Ending) (W' : World) : Prop :=
  e = .returned (.int .i64 ((wys n f s : Nat) : Int)) ∧ ∃ new, WyAt n f a (tab ++ new) W' ∧ New n f s new ∧ But a.M W W'
/-- Between two rounds. -/
structure WyI (n : Nat) (f : Nat → Nat) (a : WyA) (tab : List (Nat × Nat)) (s : Nat) (W : World) (pre : List Nat) (X : World) : Prop where
  ib : X.heap[W.heap.size]? = some (.cells #[.int .u16 (s : Int)] 72 (0, 0))
  mb : X.heap[W.heap.size + 1]? = some (.cells #[.int .i64 ((sumW (fun i => wys n f (s ||| 1 <<< i)) pre : Nat) : Int)] 3 (0, 0))
  at_ : ∃ new, WyAt n f a (tab ++ new) X ∧ New n f s new ∧ ∀ x ∈ new, ∃ i, s.testBit i = false ∧ x.1.testBit i = true
  bt : But a.M W X
theorem WyAt.keep {n : Nat} {f : Nat → Nat} {a : WyA} {tab : List (Nat × Nat)} {X Y : World} (h : WyAt n f a tab X) (hs : ∀ (k : Nat) (o : Obj), k = a.g ∨ k = a.kb ∨ k = a.M ∨ k = a.bb ∨ k = a.cb → X.heap[k]? = some o → Y.heap[k]? = some o) : WyAt n f a tab Y :=
  ⟨hs _ _ (by simp) h.blk, hs _ _ (by simp) h.known, h.map.keep fun o ho => hs _ _ (by simp) ho, hs _ _ (by simp) h.ord, hs _ _ (by simp) h.clo, h.ok, h.all⟩
theorem WyI.own {n : Nat} {f : Nat → Nat} {a : WyA} {tab : List (Nat × Nat)} {s S : Nat} {W X Y : World} {pre : List Nat} (h : WyI n f a tab s W pre X) (hE : OwnIt S 0 X Y) (hS : W.heap.size + 2 ≤ S) (hM : a.M < S) : WyI n f a tab s W pre Y := by
  have hc : ∀ (k : Nat) (cs : Array Value) (T : TypeId) (fr : Nat × Nat), X.heap[k]? = some (.cells cs T fr) → Y.heap[k]? = some (.cells cs T fr) := fun k cs T fr ho => by
    rcases Nat.lt_or_ge k S with g | g
    · exact hE.same k _ ho (.inl g)
    · exact hE.same k _ ho (.inr ⟨rfl, g⟩)
  obtain ⟨new, h1, h2, h3⟩ := h.at_
  exact ⟨hc _ _ _ _ h.ib, hc _ _ _ _ h.mb, ⟨new, ⟨hc _ _ _ _ h1.blk, hc _ _ _ _ h1.known, h1.map.keep fun o ho => hE.same _ _ ho (.inl hM), hc _ _ _ _ h1.ord, hc _ _ _ _ h1.clo, h1.ok, h1.all⟩, h2, h3⟩, h.bt.own hE (by omega)⟩
theorem WyI.put {n : Nat} {f : Nat → Nat} {a : WyA} {tab : List (Nat × Nat)} {s l : Nat} {W X : World} {pre : List Nat} {o o' : Obj} (h : WyI n f a tab s W pre X) (hl : W.heap.size ≤ l) (hM : a.M < W.heap.size) (ho : X.heap[l]? = some o) (hc : o.isCells = false) : WyI n f a tab s W pre (X.putObj l o') := by
  obtain ⟨new, h1, h2, h3⟩ := h.at_
  exact ⟨put_cells h.ib ho hc, put_cells h.mb ho hc, ⟨new, ⟨put_cells h1.blk ho hc, put_cells h1.known ho hc, h1.map.keep fun o hh => put_else hh (by omega), put_cells h1.ord ho hc, put_cells h1.clo ho hc, h1.ok, h1.all⟩, h2, h3⟩, h.bt.put _ hl⟩
set_option maxHeartbeats 16000000 in
theorem c_ways1 (a : WyA) (n : Nat) (f : Nat → Nat) (hn : n ≤ 12) (hf : ∀ j, f j < 2 ^ 12) : ∀ (r s : Nat) (tab : List (Nat × Nat)) (W : World), s < 2 ^ n → free n s = r → WyAt n f a tab W →
    Calls Try.prog 81 #[.int .u16 (s : Int), .pointer (some ⟨a.kb, 0, none⟩), .pointer (some ⟨a.bb, 0, none⟩), .pointer (some ⟨a.cb, 0, none⟩)] W (WyPost n f a tab s W) := by
  intro r
  induction r using Nat.strongRecOn with
  | _ r ih =>
    intro s tab W hs hr h
    have hs12 : s < 2 ^ 12 := Nat.lt_of_lt_of_le hs (Nat.pow_le_pow_right (by omega) hn)
    obtain ⟨V1, h1⟩ : ∃ V, V = W.alloc (.cells #[.int .u16 (s : Int)] 72) := ⟨_, rfl⟩
    have b1 : Below W.heap.size W V1 := by rw [h1]; exact (Below.refl _ _).alloc (Nat.le_refl _) _
    have z1 : V1.heap.size = W.heap.size + 1 := by rw [h1, World.size_alloc]
    have A1 := h.on b1 (Nat.le_refl _)
    have hlk := run_lookM Try.underlying98 Try.underlying72 (zeroInt V1) A1.map s
    have x0 := cell_of A1.known (o := 0) rfl
    have x1 : V1.cell? ⟨W.heap.size, 0, none⟩ = some (.int .u16 (s : Int)) := cell_of (by rw [h1]; exact heap_alloc_new _ _) rfl
    have H := Lib.hid h
    have HIH := Lib.hid ih
    have HR := Lib.hid hr
    rcases hq : assocN s tab with _ | v
    · rw [hq] at hlk
      simp only [Option.getD_none, Option.isSome_none] at hlk
      have HQ := Lib.hid hq
      have hne : s ≠ 2 ^ n - 1 := fun e => assocN_none.1 hq _ h.all e.symm
      obtain ⟨V, hV⟩ : ∃ V, V = V1.alloc (.cells #[.int .i64 0] 3) := ⟨_, rfl⟩
      have bV : Below W.heap.size W V := by rw [hV]; exact b1.alloc b1.size _
      have zV : V.heap.size = W.heap.size + 2 := by rw [hV, World.size_alloc, z1]
      have HBV := Lib.hid bV
      have hML := h.map.lt
      have HAV := Lib.hid (h.on bV (Nat.le_refl _))
      have HIB := Lib.hid (show V.heap[W.heap.size]? = some (.cells #[.int .u16 (s : Int)] 72 (0, 0)) by rw [hV]; refine old_heap _ ?_; rw [h1]; exact heap_alloc_new _ _)
      have HMB := Lib.hid (show V.heap[W.heap.size + 1]? = some (.cells #[.int .i64 0] 3 (0, 0)) by rw [hV, ← z1]; exact heap_alloc_new _ _)
      have y0 := cell_of HAV.out.ord (o := 0) rfl
      have y1 := cell_of HIB.out (o := 0) rfl
      rw [h1] at hlk x0 x1
      rw [hV, h1] at y0 y1
      clear h ih hr hq b1 z1 A1 bV
      refine (callsIn_wide (n := 8)).1 ?_
      refine callsIn_of_wp_marks Try.func81 rfl trivial ?_ rfl
      simp only [Try.ntmps81, List.size_toArray, List.length_cons, List.length_nil, Nat.reduceAdd, Nat.reduceSub, Array.replicate_succ, Array.replicate_zero, List.push_toArray, List.append_toArray, List.nil_append, List.cons_append]
      rw [wpIn_wide]
      go_wp2_with (fail)
      rw [← h1, ← hV]
      clear h1 hV hlk x0 x1 y0 y1
      go_at_call 59
      refine (c_enabled a.g n f hn hf s hs12 V HAV.out.blk).mono ?_
      rintro e v1 ⟨rfl, hv1⟩
      rw [hv1]
      clear hv1 v1
      have HLE := Lib.hid (lst_en (b := f) (s := s) hn)
      have hsb : setB (enB f s) n < 2 ^ 12 := Nat.lt_of_lt_of_le (setB_lt _ _) (Nat.pow_le_pow_right (by omega) hn)
      obtain ⟨t, ht⟩ : ∃ t, setB (enB f s) n = t := ⟨_, rfl⟩
      rw [ht] at HLE hsb ⊢
      have HSQ := Lib.hid (c_each 7 (by omega) (fun _ => False) t hsb V)
      rw [HLE.out] at HSQ
      have HST := Lib.hid (wys_step (b := f) hs hne)
      have HWB := Lib.hid (fun k => wys_12 (b := f) hn k)
      clear ht
      go_wp2_with (fail)
      refine (wpIn_wide (n := 8)).1 ?_
      refine wpIn_it (n := 8) (by omega) (gf := 77) (fb := #[.int .u16 (t : Int)]) (lb := #[]) rfl eg_each (m := 0) (Gd := fun _ => False) (ok := okE) (ts := enL n f s) (w0 := V) HSQ.out (KpG.refl _) (fun v t h => by rw [h]; rfl)
        (fun pre X => WyI n f a tab s W pre X) (fun _ _ _ => False)
        (fun pre X Y h hE => h.own hE (by omega) (by omega)) (fun _ _ _ _ h _ => h.elim)
        (fun pre X l o o' h hl ho hc => h.put (by omega) hML ho hc) (fun _ _ _ _ _ _ h _ _ _ => h.elim)
        ⟨HIB.out, HMB.out, ⟨[], by simpa using HAV.out, New.nil s, fun x hx => by cases hx⟩, But.of_below HBV.out (Nat.le_refl _)⟩ ?iround ?idone (fun _ _ _ _ _ _ h _ => h.elim)
      case iround =>
        intro l pre v i X K hpre hok hKK
        obtain rfl : v = #[.int .i64 (i : Int)] := hok
        gi_wp2_with (fail)
        refine hKK _ _ (Below.refl _ _) ?_
        rintro Y ⟨o, o', ho', hoc, hYe⟩ hsz hI
        have hie := hpre.subset (show i ∈ pre ++ [i] by simp)
        have hin := enL_mem.1 hie
        have hnb : s.testBit i = false := by have := hin.2; unfold enB at this; simp at this; exact this.1
        have HNB := Lib.hid hnb
        have hfr := free_put hin.1 hnb
        have hs2 := put_lt hs hin.1
        obtain ⟨s2, hs2e⟩ : ∃ t, s ||| 1 <<< i = t := ⟨_, rfl⟩
        have HS2 := Lib.hid hs2e
        have HBIT := Lib.hid (show Sup s s2 ∧ s2.testBit i = true by rw [← hs2e]; exact ⟨fun j hj => by rw [or_bit, hj]; rfl, by rw [or_bit]; simp⟩)
        obtain ⟨new, hat, hnw, hnn⟩ := hI.at_
        have HAT := Lib.hid hat
        have HNW := Lib.hid hnw
        have HNN := Lib.hid hnn
        have HI := Lib.hid hI
        rw [hs2e] at hfr hs2
        have HCW := Lib.hid (fun (Z : World) (hZ : WyAt n f a (tab ++ new) Z) => HIH.out (free n s2) (by have := HR.out; omega) s2 (tab ++ new) Z hs2 rfl hZ)
        have HCO := Lib.hid (fun (Z : World) => c_with s i (by omega) (by have := hin.1; omega) Z)
        rw [hs2e] at HCO
        have z0 := cell_of hI.mb (o := 0) rfl
        have z1 := cell_of hI.ib (o := 0) rfl
        have z2 := cell_of hat.clo (o := 0) rfl
        unfold WyA.fn at z2
        have hsp := sumW_pre (fun i => wys n f (s ||| 1 <<< i)) hpre
        have hso := sumW_snoc (fun i => wys n f (s ||| 1 <<< i)) pre i
        have hwb := HWB.out s
        rw [HST.out] at hwb
        rw [show sumW (fun i => wys n f (s ||| 1 <<< i)) (pre ++ [i]) = sumW (fun i => wys n f (s ||| 1 <<< i)) pre + wys n f s2 by rw [hso, hs2e]] at hsp
        have hsp2 : sumW (fun i => wys n f (s ||| 1 <<< i)) pre + wys n f s2 ≤ 479001600 := Nat.le_trans hsp hwb
        have HSO := Lib.hid (show sumW (fun i => wys n f (s ||| 1 <<< i)) (pre ++ [i]) = sumW (fun i => wys n f (s ||| 1 <<< i)) pre + wys n f s2 by rw [hso, hs2e])
        obtain ⟨S, hS⟩ : ∃ S, sumW (fun i => wys n f (s ||| 1 <<< i)) pre = S := ⟨_, rfl⟩
        obtain ⟨ws, hws⟩ : ∃ S, wys n f s2 = S := ⟨_, rfl⟩
        have HSS := Lib.hid hS
        rw [hS] at z0 HSO hsp2
        have HWS := Lib.hid hws
        rw [hws] at HSO hsp2
        have hw : IntKind.i64.wrap ((S : Int) + (ws : Int)) = ((S + ws : Nat) : Int) := by rw [wrap_in (by omega) (by omega)]; omega
        have hfm : Try.prog.follows Departure.mixedOrders = true := by kernel_rfl
        clear hYe ho' hoc o o' hKK hI hpre hie hin hnb hs2e hat hnw hnn hsp hso hwb hS hws hfr hs2
        gi_wp2_with (fail)
        refine region_round_z 7 (S := fun X => X.cell? ⟨W.heap.size + 1, 0, none⟩ = some (.int .i64 (S : Int)) ∧ X.cell? ⟨a.cb, 0, none⟩ = some (.func (.func 81) #[] #[.pointer (some ⟨a.kb, 0, none⟩), .pointer (some ⟨a.bb, 0, none⟩), .pointer (some ⟨a.cb, 0, none⟩)]) ∧ X.cell? ⟨W.heap.size, 0, none⟩ = some (.int .u16 (s : Int))) hfm (by kernel_rfl) ⟨z0, z2, z1⟩ (fun hHeld => ?_)
        refine takeZ 0 (some 22) (by kernel_rfl) rfl rfl (by kernel_rfl) (by kernel_rfl) (by kernel_rfl) (fun _ _ _ h => h) (by rfl) (by intro w ⟨g1, g2, g3⟩; go_simp; try with_reducible rfl) hHeld ?_
        simp only [Act.put, List.setIfInBounds_toArray, List.set_cons_zero, List.set_cons_succ]
        refine takeZ 1 (some 23) (by kernel_rfl) rfl rfl (by kernel_rfl) (by kernel_rfl) (by kernel_rfl) (fun _ _ _ h => h) (by rfl) (by intro w ⟨g1, g2, g3⟩; go_simp; try with_reducible rfl) hHeld ?_
        simp only [Act.put, List.setIfInBounds_toArray, List.set_cons_zero, List.set_cons_succ]
        refine takeZ 2 (some 24) (by kernel_rfl) rfl rfl (by kernel_rfl) (by kernel_rfl) (by kernel_rfl) (fun _ _ _ h => h) (by rfl) (by intro w ⟨g1, g2, g3⟩; go_simp; try with_reducible rfl) hHeld ?_
        simp only [Act.put, List.setIfInBounds_toArray, List.set_cons_zero, List.set_cons_succ]
        refine takeZ 3 (some 25) (by kernel_rfl) rfl rfl (by kernel_rfl) (by kernel_rfl) (by kernel_rfl) (fun _ _ _ h => h) (by rfl) (by intro w ⟨g1, g2, g3⟩; go_simp; try with_reducible rfl) hHeld ?_
        simp only [Act.put, List.setIfInBounds_toArray, List.set_cons_zero, List.set_cons_succ]
        refine oneZ 4 rfl (by kernel_rfl) (fun K hK => ?_)
        go_simp
        go_at_call 80
        refine (HCO.out Y.drew).mono ?_
        rintro e wa ⟨rfl, hwa⟩
        rw [hwa]
        clear hwa wa
        refine hK.out _ _ (.inr hHeld) ?_
        clear hK K
        try simp only [Act.put, List.setIfInBounds_toArray, List.set_cons_zero, List.set_cons_succ]
        refine oneZ 5 rfl (by kernel_rfl) (fun K hK => ?_)
        go_simp
        go_at_call 81
        refine (HCW.out Y.drew (HAT.out.on (Below.refl _ _).drew (Nat.le_refl _))).mono ?_
        rintro e v2 ⟨he, new2, hat2, hnw2, hb2⟩
        rw [HWS.out] at he
        subst he
        have hb2' : But a.M Y v2 := (But.drew (b := a.M)).trans hb2
        have hM2 : a.M < Y.heap.size := HAT.out.map.lt
        have m1 : v2.heap[W.heap.size + 1]? = some (.cells #[.int .i64 (S : Int)] 3 (0, 0)) := by rw [← HSS.out]; exact hb2'.same _ _ (show W.heap.size + 1 ≠ a.M by omega) HI.out.mb
        have m0 := hb2'.same _ _ (show W.heap.size ≠ a.M by omega) HI.out.ib
        have m2 := hat2.clo
        have HFIN := Lib.hid (show ∀ v : Int, v = (S : Int) + (ws : Int) → KeepsFrom V.heap.size Y (v2.setCell ⟨W.heap.size + 1, 0, none⟩ (.int .i64 v)) ∧ KpIt (V.heap.size + 2) 0 (fun _ => False) Y (v2.setCell ⟨W.heap.size + 1, 0, none⟩ (.int .i64 v)) ∧ WyI n f a tab s W (pre ++ [i]) (v2.setCell ⟨W.heap.size + 1, 0, none⟩ (.int .i64 v)) from fun v hv => by
          have hk := kf_store (B := 0) (o := 0) (.int .i64 v) m1
          have hot : ∀ (k : Nat) (o : Obj), k ≠ a.M → Y.heap[k]? = some o → o.isCells = false → (v2.setCell ⟨W.heap.size + 1, 0, none⟩ (.int .i64 v)).heap[k]? = some o := fun k o h1 h2 h3 => hk.same k o (Nat.zero_le _) (hb2'.same k o h1 h2) h3
          have hsz2 : Y.heap.size ≤ (v2.setCell ⟨W.heap.size + 1, 0, none⟩ (.int .i64 v)).heap.size := Nat.le_trans hb2'.size hk.size
          refine ⟨⟨hsz2, fun k o h1 h2 h3 => hot k o (by omega) h2 h3⟩, ⟨hsz2, fun k cs t fr h1 h2 => by rcases h1 with h1 | h1; exact h1.elim; omega, fun k o h1 h2 h3 => hot k o (by omega) h2 h3⟩, ⟨?_, ?_, ?_, ?_⟩⟩
          · exact set_else m0 (by omega)
          · rw [HSO.out, show ((S + ws : Nat) : Int) = v by omega]; exact set_field m1 _
          · refine ⟨new ++ new2, ?_, HNW.out.app ⟨hnw2.ok, fun x hx j hj => hnw2.sup x hx j (HBIT.out.1 j hj)⟩, fun x hx => ?_⟩
            · rw [← List.append_assoc]
              have hne : ∀ (k : Nat) (cs : Array Value) (T : TypeId) (fr : Nat × Nat), v2.heap[k]? = some (.cells cs T fr) → k ≠ W.heap.size + 1 → (v2.setCell ⟨W.heap.size + 1, 0, none⟩ (.int .i64 v)).heap[k]? = some (.cells cs T fr) := fun k cs T fr h1 h2 => set_else h1 h2
              have l1 := at_lt H.out.blk; have l2 := at_lt H.out.known; have l3 := at_lt H.out.ord; have l4 := at_lt H.out.clo
              exact ⟨set_else hat2.blk (by omega), set_else hat2.known (by omega), hat2.map.keep fun o ho => set_else ho (by omega), set_else hat2.ord (by omega), set_else hat2.clo (by omega), hat2.ok, hat2.all⟩
            · rcases List.mem_append.1 hx with hx | hx
              · exact HNN.out x hx
              · exact ⟨i, HNB.out, hnw2.sup x hx i HBIT.out.2⟩
          · have hb3 := HI.out.bt.trans hb2'
            refine ⟨hb3.os, hb3.tape, hb3.output, Nat.le_trans hb3.size hk.size, fun k o h1 h2 => set_else (hb3.same k o h1 h2) ?_⟩
            have := at_lt h2
            omega)
        have q1 := cell_of m1 (o := 0) rfl
        have q2 := cell_of m2 (o := 0) rfl
        have q0 := cell_of m0 (o := 0) rfl
        have qf := frz m1 0
        unfold WyA.fn at q2
        have hH2 : (fun X : World => X.cell? ⟨W.heap.size + 1, 0, none⟩ = some (.int .i64 (S : Int)) ∧ X.cell? ⟨a.cb, 0, none⟩ = some (.func (.func 81) #[] #[.pointer (some ⟨a.kb, 0, none⟩), .pointer (some ⟨a.bb, 0, none⟩), .pointer (some ⟨a.cb, 0, none⟩)]) ∧ X.cell? ⟨W.heap.size, 0, none⟩ = some (.int .u16 (s : Int))) v2 := ⟨q1, q2, q0⟩
        refine hK.out _ _ (.inr hH2) ?_
        clear hK K hHeld
        try simp only [Act.put, List.setIfInBounds_toArray, List.set_cons_zero, List.set_cons_succ]
        refine takeZ 6 (some 28) (by kernel_rfl) rfl rfl (by kernel_rfl) (by kernel_rfl) (by kernel_rfl) (fun _ _ _ h => h) (by rfl) (by intro w ⟨g1, g2, g3⟩; go_simp; try with_reducible rfl) hH2 ?_
        simp only [Act.put, List.setIfInBounds_toArray, List.set_cons_zero, List.set_cons_succ]
        clear hH2 q0 q2 hb2 hat2 hnw2 hb2' m0 m1 m2
        refine oneZ 7 rfl (by kernel_rfl) (fun K hK => ?_)
        go_simp
        refine hK.out _ _ (.inl rfl) ?_
        clear hK K
        refine doneZ (by kernel_rfl) ?_ _
        rw [noOut_normal]
        gi_wp2_with (fail)
        exact HFIN.out _ rfl
      case idone =>
        rintro D X rfl hI hdef
        have HI := Lib.hid hI
        have HDEF := Lib.hid hdef
        obtain ⟨new, hat, hnw, hnn⟩ := hI.at_
        have hfresh : assocN s (tab ++ new) = none := by
          rw [assocN_none]
          intro x hx
          rcases List.mem_append.1 hx with hx | hx
          · exact assocN_none.1 HQ.out x hx
          · obtain ⟨i, h1, h2⟩ := hnn x hx
            intro e
            rw [e, h1] at h2
            cases h2
        have hwy : sumW (fun i => wys n f (s ||| 1 <<< i)) (enL n f s) = wys n f s := HST.out.symm
        obtain ⟨ws, hws⟩ : ∃ ws, wys n f s = ws := ⟨_, rfl⟩
        have HWS := Lib.hid hws
        have hmb := hI.mb
        rw [hwy, hws] at hmb
        obtain ⟨X2, hrun, hmap, hgr⟩ := run_putM Try.underlying98 Try.underlying72 hat.map s ws hfresh
        have y0 := cell_of hat.known (o := 0) rfl
        have y1 := cell_of hI.ib (o := 0) rfl
        have y2 := cell_of hmb (o := 0) rfl
        have hb : But a.M X X2 := ⟨hgr.os, hgr.tape, hgr.output, hgr.size, fun k o h1 h2 => by
          have := hgr.block k (at_lt h2) (fun e => h1 (by injection e))
          rw [this]; exact h2⟩
        have y3 : X2.cell? ⟨W.heap.size + 1, 0, none⟩ = some (.int .i64 (ws : Int)) := cell_of (hb.same _ _ (by omega) hmb) rfl
        have HD2 := Lib.hid (hb.same _ _ (by omega) hdef)
        have HFIN := Lib.hid (show WyPost n f a tab s W (.returned (.int .i64 (ws : Int))) (X2.putObj V.heap.size (.deferred none)) from by
          refine ⟨by rw [HWS.out], new ++ [(s, ws)], ?_, hnw.app ⟨fun x hx => ?_, fun x hx => ?_⟩, ((hI.bt.trans hb).put _ (by omega))⟩
          · rw [← List.append_assoc]
            have h1 := hat.but hb hmap (fun x hx => by rcases List.mem_singleton.1 hx with rfl; exact HWS.out.symm)
            have hd := hb.same _ _ (show V.heap.size ≠ a.M by omega) hdef
            exact ⟨put_cells h1.blk hd rfl, put_cells h1.known hd rfl, h1.map.keep fun o ho => put_else ho (by omega), put_cells h1.ord hd rfl, put_cells h1.clo hd rfl, h1.ok, h1.all⟩
          · rcases List.mem_singleton.1 hx with rfl; exact HWS.out.symm
          · rcases List.mem_singleton.1 hx with rfl; exact fun i hi => hi)
        clear hI hdef hat hnw hnn hfresh hwy hws hmb hmap hgr hb
        go_wp2_with (fail)
        refine ⟨by simp, .inl ⟨_, _, rfl, run_takeDeferred HD2.out, ?_⟩⟩
        exact ⟨.int .i64 (ws : Int), by simp [results, Try.results81, go_sem], HFIN.out⟩
    · rw [hq] at hlk
      simp only [Option.getD_some, Option.isSome_some] at hlk
      have hv : v = wys n f s := h.ok _ (assocN_mem hq)
      obtain ⟨V, hV⟩ : ∃ V, V = V1.alloc (.cells #[.int .i64 (v : Int)] 3) := ⟨_, rfl⟩
      have bV : Below W.heap.size W V := by rw [hV]; exact b1.alloc b1.size _
      have HFIN := Lib.hid (show WyPost n f a tab s W (.returned (.int .i64 (v : Int))) V from ⟨by rw [hv], [], by simpa using h.on bV (Nat.le_refl _), New.nil s, But.of_below bV (Nat.le_refl _)⟩)
      rw [h1] at hlk x0 x1
      clear h ih hr hq b1 z1 A1 bV hv
      go_enter Try.func81, Try.ntmps81
      go_wp2_with (fail)
      rw [← h1, ← hV]
      go_ret
      exact HFIN.out
end Go.Proofs.Ytjheaeeeeggncaa

namespace Go.Proofs.Ytjheaeeeeggncaa
open Go.RowKit Go.Shelf
attribute [local go_sem] Oper.semAt_some
set_option maxRecDepth 100000
set_option linter.unusedVariables false
set_option linter.unusedSimpArgs false

def WyTo (g n : Nat) (f : Nat → Nat) (w : World) (e : Ending) (w' : World) : Prop :=
  ∃ a : WyA, e = .returned a.fn ∧ a.g = g ∧ (w.heap.size ≤ a.M ∧ w.heap.size ≤ a.kb ∧ w.heap.size ≤ a.bb ∧ w.heap.size ≤ a.cb) ∧ WyAt n f a [(2 ^ n - 1, 1)] w' ∧ Below w.heap.size w w'
set_option maxHeartbeats 8000000 in
theorem c_ways (g n : Nat) (f : Nat → Nat) (hn : n ≤ 12) (w : World) (h : Blk w g n f) :
    Calls Try.prog 62 #[.slice (some ⟨g, 0, none⟩) n n] w (WyTo g n f w) := by
  have hmm := @run_makeMap Try.prog
  obtain ⟨W1, h1⟩ : ∃ W, W = w.alloc (.cells #[.slice (some ⟨g, 0, none⟩) n n] 64) := ⟨_, rfl⟩
  obtain ⟨W2, h2⟩ : ∃ W, W = W1.alloc (.map #[] 0) := ⟨_, rfl⟩
  have z1 : W1.heap.size = w.heap.size + 1 := by rw [h1, World.size_alloc]
  have z2 : W2.heap.size = w.heap.size + 1 + 1 := by rw [h2, World.size_alloc, z1]
  have b1 : Below w.heap.size w W1 := by rw [h1]; exact (Below.refl _ _).alloc (Nat.le_refl _) _
  have b2 : Below w.heap.size w W2 := by rw [h2]; exact b1.alloc b1.size _
  have k1 : W2.heap[w.heap.size]? = some (.cells #[.slice (some ⟨g, 0, none⟩) n n] 64 (0, 0)) := by rw [h2]; refine old_heap _ ?_; rw [h1]; exact heap_alloc_new _ _
  have m0 : MapN W2 (w.heap.size + 1) [] := by rw [h2, ← z1]; exact ⟨#[], heap_alloc_new _ _, rfl⟩
  obtain ⟨al, hal⟩ : ∃ al, 2 ^ n - 1 = al := ⟨_, rfl⟩
  obtain ⟨W3, e1, m1, g1⟩ := run_putM Try.underlying98 Try.underlying72 m0 al 1 rfl
  have e2 : (Instr.mapUpdate 98 (.map (some (w.heap.size + 1))) (.int .u16 (al : Int)) (.int .i64 1)).run Try.prog W2 = .ok () W3 := e1
  have b3 : Below w.heap.size w W3 := b2.grown g1 b2.size (fun k e => by cases e; omega)
  have k3 : W3.heap[w.heap.size]? = some (.cells #[.slice (some ⟨g, 0, none⟩) n n] 64 (0, 0)) := by
    rw [g1.block _ (at_lt k1) (by simp)]; exact k1
  have c1 := cell_of k1 (o := 0) rfl
  have HC := Lib.hid (fun (X : World) => c_all (some ⟨g, 0, none⟩) n n hn X)
  rw [hal] at HC
  have HB3 := Lib.hid b3
  have HK3 := Lib.hid k3
  have HM3 := Lib.hid m1
  have HZ := Lib.hid g1.size
  have HZ2 := Lib.hid z2
  have HAL := Lib.hid hal
  have H := Lib.hid h
  rw [h2, h1] at e2 c1
  clear h b1 b2 b3 k1 k3 m0 m1 e1 g1 z1 z2 hal
  go_enter Try.func62, Try.ntmps62
  go_wp2_with (fail)
  rw [← h1, ← h2]
  go_at_call 78
  refine (HC.out W2).mono ?_
  rintro e v ⟨rfl, hv⟩
  rw [hv]
  clear hv v
  rw [← h1, ← h2] at e2
  clear h1 h2 c1
  go_wp2_with (fail)
  go_ret
  obtain ⟨K1, q1⟩ : ∃ X, X = W3.alloc (.cells #[.map (some (w.heap.size + 1))] 98) := ⟨_, rfl⟩
  rw [← q1]
  have zq : K1.heap.size = W3.heap.size + 1 := by rw [q1, World.size_alloc]
  have hz := HZ.out
  rw [HZ2.out] at hz
  have HM4 : MapN W3 (w.heap.size + 1) [(2 ^ n - 1, 1)] := by rw [HAL.out]; exact HM3.out
  refine ⟨⟨g, W3.heap.size, w.heap.size + 1, w.heap.size, W3.heap.size + 1⟩, rfl, rfl, (by show w.heap.size ≤ w.heap.size + 1 ∧ w.heap.size ≤ W3.heap.size ∧ w.heap.size ≤ w.heap.size ∧ w.heap.size ≤ W3.heap.size + 1; omega), ?_, ?_⟩
  · have bb : ∀ (k : Nat) (o : Obj), W3.heap[k]? = some o → (K1.alloc (.cells #[(WyA.mk g W3.heap.size (w.heap.size + 1) w.heap.size (W3.heap.size + 1)).fn] 81)).heap[k]? = some o := fun k o ho => by
      refine old_heap _ ?_; rw [q1]; exact old_heap _ ho
    refine ⟨bb _ _ ((HB3.out.block _ (at_lt H.out)).trans H.out), ?_, HM4.keep fun o ho => bb _ _ ho, bb _ _ HK3.out, ?_, fun x hx => ?_, List.mem_singleton.2 rfl⟩
    · refine old_heap _ ?_; rw [q1]; exact heap_alloc_new _ _
    · show (K1.alloc _).heap[W3.heap.size + 1]? = _
      rw [← zq]; exact heap_alloc_new _ _
    · rcases List.mem_singleton.1 hx with rfl
      show 1 = wys n f (2 ^ n - 1)
      rw [wys_all]
  · rw [q1]
    have b4 := HB3.out.alloc HB3.out.size (.cells #[.map (some (w.heap.size + 1))] 98)
    exact b4.alloc b4.size _
theorem wy0 (n : Nat) (f : Nat → Nat) : wyI n f 0 = wys n f 0 := by
  unfold wyI idB
  rw [if_pos]
  rw [List.all_eq_true]
  intro i hi
  have := (lst_mem.1 hi).2
  simp at this
theorem But.low {b B : Nat} {w X Y : World} (h : But b X Y) (k : Below B w X) (hB : w.heap.size = B) (hb : B ≤ b) : Below B w Y := h.below k hb (by omega)
set_option maxHeartbeats 8000000 in
theorem c_Count (A : Option Addr) (c : Nat) (xs : List LsV) (w : World) (h : LsAt w A c xs) : Calls Try.prog 28 #[.slice A xs.length c] w (HwTo w (rdN xs) (fun k => k = wyI xs.length (ordF xs) 0)) := by
  have H := Lib.hid h
  obtain ⟨R, hR⟩ : ∃ R, R = HwTo w (rdN xs) (fun k => k = wyI xs.length (ordF xs) 0) := ⟨_, rfl⟩
  rw [← hR]
  have HRR := Lib.hid hR
  clear hR h
  go_enter Try.func28, Try.ntmps28
  go_wp2_with (fail)
  go_at_call 48
  refine (c_read A c xs w H.out).mono ?_
  rintro e w1 ⟨⟨h0, rfl⟩ | ⟨h0, hl, hok, hno, g, rfl, hg, hblk⟩, b1⟩
  · have H0 := Lib.hid h0
    have K1 := Lib.hid b1
    have hne : (rdN xs != 0) = true := by simpa using h0
    have hd0 : (rdN xs == 0) = false := by simpa using h0
    clear h0 b1
    go_wp2_with (fail)
    rw [HRR.out]
    exact ⟨.inl ⟨H0.out, rfl⟩, K1.out⟩
  · have H0 := Lib.hid h0
    have K1 := Lib.hid b1
    have HC := Lib.hid (c_ways g xs.length (ordF xs) hl w1 hblk)
    have HF := Lib.hid (ordF_lt hl hok)
    have HL := Lib.hid hl
    clear h0 b1 hblk hok hno
    go_wp2_with (fail)
    go_at_call 62
    refine HC.out.mono ?_
    rintro e w2 ⟨a, rfl, ha, hM, hat, b2⟩
    have K2 := Lib.hid (below_join K1.out b2 K1.out.size)
    have HW := Lib.hid (c_ways1 a xs.length (ordF xs) HL.out HF.out _ 0 _ w2 (Nat.two_pow_pos _) rfl hat)
    have HM := Lib.hid (show w.heap.size ≤ a.M by have := K1.out.size; have := hM.1; omega)
    unfold WyA.fn
    clear hat b2 hM ha
    go_wp2_with (fail)
    go_at_call 81
    refine HW.out.mono ?_
    rintro e w3 ⟨he, new, -, -, hb⟩
    have K3 := Lib.hid (hb.low K2.out rfl HM.out)
    subst he
    clear hb
    go_wp2_with (fail)
    rw [HRR.out, H0.out]
    exact ⟨.inr ⟨rfl, _, rfl, (wy0 _ _).symm⟩, K3.out⟩
end Go.Proofs.Ytjheaeeeeggncaa
