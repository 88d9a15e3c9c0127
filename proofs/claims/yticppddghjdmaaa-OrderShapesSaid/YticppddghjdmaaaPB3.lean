/-
  DERIVED. Several texts in one.
-/
import Derived.Test.YticppddghjdmaaaPB2
import Derived.Lib.Tables
set_option linter.unusedVariables false
set_option linter.unusedSimpArgs false

namespace Go.Proofs.Yticppddghjdmaaa
open Go.RowKit Go.Shelf
attribute [local go_sem] Oper.semAt_some
set_option maxRecDepth 100000
set_option linter.unusedVariables false
set_option linter.unusedSimpArgs false

theorem row_new (W : World) (o : Obj) (b : Nat) (hb : b = W.heap.size) : (W.alloc o).heap[b]? = some o := by subst hb; exact heap_alloc_new W o
theorem boxed_put {X : World} {b l : Nat} {T : TypeId} {v : Value} {o o' : Obj} (h : Boxed X b T v) (hl : X.heap[l]? = some o) (ho : o.isCells = false) : Boxed (X.putObj l o') b T v := put_cells h hl ho
theorem Blk.on {w w' : World} {g n B : Nat} {f : Nat → Nat} (h : Blk w g n f) (hb : Below B w w') (hB : w.heap.size ≤ B) : Blk w' g n f := box_on h hb hB
/-- Whether a set is an ideal. -/
def idB (f : Nat → Nat) (s : Nat) : Bool := (lst 12 s).all fun i => decide (f i &&& s = f i)
/-- Those so far are well. -/
structure IsI (w : World) (g n : Nat) (f : Nat → Nat) (s : Nat) (pre : List Nat) (X : World) : Prop where
  bb : Boxed X w.heap.size 64 (.slice (some ⟨g, 0, none⟩) n n)
  bs : Boxed X (w.heap.size + 1) 72 (.int .u16 (s : Int))
  br : Boxed X (w.heap.size + 2) 4 (.bool false)
  bel : Below w.heap.size w X
  well : ∀ i ∈ pre, f i &&& s = f i
structure IsX (w : World) (r : Bool) (X : World) : Prop where
  br : Boxed X (w.heap.size + 2) 4 (.bool r)
  bel : Below w.heap.size w X
section
variable {w X Y : World} {g n s : Nat} {f : Nat → Nat} {pre : List Nat} {r : Bool} {S m : Nat}
theorem IsI.own (h : IsI w g n f s pre X) (hE : OwnIt S m X Y) (hS : w.heap.size + 3 ≤ S) : IsI w g n f s pre Y :=
  ⟨hE.same _ _ h.bb (.inl (by omega)), hE.same _ _ h.bs (.inl (by omega)), hE.same _ _ h.br (.inl (by omega)), below_own h.bel hE (by omega), h.well⟩
theorem IsX.own (h : IsX w r X) (hE : OwnIt S m X Y) (hS : w.heap.size + 3 ≤ S) : IsX w r Y := ⟨hE.same _ _ h.br (.inl (by omega)), below_own h.bel hE (by omega)⟩
theorem IsI.put {l : Nat} {o o' : Obj} (h : IsI w g n f s pre X) (hw : w.heap.size ≤ l) (hl : X.heap[l]? = some o) (ho : o.isCells = false) : IsI w g n f s pre (X.putObj l o') :=
  ⟨put_cells h.bb hl ho, put_cells h.bs hl ho, put_cells h.br hl ho, below_put h.bel hw, h.well⟩
theorem IsX.put {l : Nat} {o o' : Obj} (h : IsX w r X) (hw : w.heap.size ≤ l) (hl : X.heap[l]? = some o) (ho : o.isCells = false) : IsX w r (X.putObj l o') := ⟨put_cells h.br hl ho, below_put h.bel hw⟩
end
set_option maxHeartbeats 8000000 in
theorem c_isIdeal (g n : Nat) (f : Nat → Nat) (hn : n ≤ 12) (hf : ∀ j, f j < 2 ^ 12) (s : Nat) (hs : s < 2 ^ n) (w : World) (h : Blk w g n f) :
    Calls Try.prog 55 #[.slice (some ⟨g, 0, none⟩) n n, .int .u16 (s : Int)] w fun e w' => e = .returned (.bool (idB f s)) ∧ Below w.heap.size w w' := by
  have hs12 : s < 2 ^ 12 := Nat.lt_of_lt_of_le hs (Nat.pow_le_pow_right (by omega) hn)
  obtain ⟨r, hr⟩ : ∃ r, idB f s = r := ⟨_, rfl⟩
  have HR := Lib.hid hr
  rw [hr]
  clear hr
  obtain ⟨W, hW⟩ : ∃ W, W = ((w.alloc (.cells #[.slice (some ⟨g, 0, none⟩) n n] 64)).alloc (.cells #[.int .u16 (s : Int)] 72)).alloc (.cells #[.bool false] 4) := ⟨_, rfl⟩
  have HB := Lib.hid (show Below w.heap.size w W by subst hW; exact ((((Below.refl _ _).alloc (Nat.le_refl _) _).alloc (by simp) _).alloc (by simp; omega) _))
  have H0 := Lib.hid (show Boxed W w.heap.size 64 (.slice (some ⟨g, 0, none⟩) n n) by subst hW; exact old_heap _ (old_heap _ (heap_alloc_new _ _)))
  have H1 := Lib.hid (show Boxed W (w.heap.size + 1) 72 (.int .u16 (s : Int)) by subst hW; exact old_heap _ (row_new _ _ _ (by simp)))
  have H2 := Lib.hid (show Boxed W (w.heap.size + 2) 4 (.bool false) by subst hW; exact row_new _ _ _ (by simp))
  have x1 := H1.out.cell
  have hzW : W.heap.size = w.heap.size + 3 := by subst hW; simp
  have HSQ := Lib.hid (c_each 7 (by omega) (fun k => k < w.heap.size) s hs12 w)
  have HK := Lib.hid h
  have HF := Lib.hid hf
  have HBIT := Lib.hid (show ∀ i ∈ lst 12 s, i < n from fun i hi => by
    rcases Nat.lt_or_ge i n with h | h
    · exact h
    · have := (lst_mem.1 hi).2
      rw [Nat.testBit_lt_two_pow (Nat.lt_of_lt_of_le hs (Nat.pow_le_pow_right (by omega) h))] at this
      cases this)
  clear h hf hs
  refine (callsIn_wide (n := 8)).1 ?_
  refine callsIn_of_wp_marks Try.func55 rfl trivial ?_ rfl
  simp only [Try.ntmps55, List.size_toArray, List.length_cons, List.length_nil, Nat.reduceAdd, Nat.reduceSub, Array.replicate_succ, Array.replicate_zero, List.push_toArray, List.append_toArray, List.nil_append, List.cons_append]
  rw [wpIn_wide]
  go_wp2_with (fail)
  rw [← hW]
  clear hW
  refine (wpIn_wide (n := 8)).1 ?_
  refine wpIn_it (n := 8) (by omega) (gf := 77) (fb := #[.int .u16 (s : Int)]) (lb := #[]) rfl eg_each (m := 0) (Gd := fun k => k < w.heap.size) (ok := okE) (ts := lst 12 s) (w0 := w) HSQ.out (KpG.of_below HB.out (Nat.le_refl _)) (fun v t h => by rw [h]; rfl)
    (fun pre X => IsI w g n f s pre X) (fun c _ X => c = .ret ∧ IsX w r X)
    (fun pre X Y h hE => h.own hE (by omega)) (fun c pre X Y h hE => ⟨h.1, h.2.own hE (by omega)⟩)
    (fun pre X l o o' h hl ho hc => h.put (by omega) ho hc) (fun c pre X l o o' h hl ho hc => ⟨h.1, h.2.put (by omega) ho hc⟩)
    ⟨H0.out, H1.out, H2.out, HB.out, fun y hy => absurd hy List.not_mem_nil⟩ ?round ?done ?stop
  case round =>
    intro l pre v i X K hpre hok hK
    obtain rfl : v = #[.int .i64 (i : Int)] := hok
    gi_wp2_with (fail)
    refine hK _ _ (Below.refl _ _) ?_
    rintro Y ⟨o, o', ho, hoc, hYe⟩ hsz hI
    have him : i ∈ lst 12 s := hpre.subset (by simp)
    have hin := HBIT.out i him
    have hil : (i : Int) < (n : Int) := by omega
    have y0 := hI.bb.cell
    have y1 := hI.bs.cell
    have y2 := hI.br.cell
    have f2 := hI.br.frozen
    have y3 := (HK.out.on hI.bel (Nat.le_refl _)).at_ hin
    have hq := HF.out i
    have HI := Lib.hid hI
    have HIM := Lib.hid him
    have hfm : Try.prog.follows Departure.mixedOrders = true := by kernel_rfl
    clear hYe ho hoc o o' hK hI hpre him
    rcases hc : decide (f i &&& s = f i) with _ | _
    · obtain ⟨q, hq0⟩ : ∃ q, f i = q := ⟨_, rfl⟩
      have HRF := Lib.hid (show false = r by
        rw [← HR.out]
        cases e : idB f s
        · rfl
        · have := List.all_eq_true.1 e i HIM.out
          rw [this] at hc
          cases hc)
      rw [hq0] at y3 hq hc
      have HC := Lib.hid hc
      clear hc hq0
      gi_wp2_with (fail)
      gi_region_with_o (refine ⟨trivial, ?_⟩; gi_at_call 79; refine (CallsIn.inRound l (calls_wide (c_contains s q (by omega) (by omega) false HC.out _))).mono ?_; rintro e wa ⟨rfl, hwa⟩; rw [hwa]; clear hwa wa)
      all_goals gi_wp2_with (fail)
      all_goals
        have hk := kf_store (B := W.heap.size) (o := 0) (.bool false) HI.out.br
        exact ⟨⟨hk.size, hk.same⟩, rfl, by rw [← HRF.out]; exact HI.out.br.set _, (HI.out.bel.setCell (p := ⟨w.heap.size + 2, 0, none⟩) (by show w.heap.size ≤ w.heap.size + 2; omega) _).drew⟩
    · obtain ⟨q, hq0⟩ : ∃ q, f i = q := ⟨_, rfl⟩
      have HIN := Lib.hid (show IsI w g n f s (pre ++ [i]) Y from ⟨HI.out.bb, HI.out.bs, HI.out.br, HI.out.bel, fun j hj => by
        rcases List.mem_append.1 hj with hj | hj
        · exact HI.out.well j hj
        · rw [List.mem_singleton.1 hj]; exact of_decide_eq_true hc⟩)
      rw [hq0] at y3 hq hc
      have HC := Lib.hid hc
      clear hc hq0
      gi_wp2_with (fail)
      gi_region_with_o (refine ⟨trivial, ?_⟩; gi_at_call 79; refine (CallsIn.inRound l (calls_wide (c_contains s q (by omega) (by omega) true HC.out _))).mono ?_; rintro e wa ⟨rfl, hwa⟩; rw [hwa]; clear hwa wa)
      all_goals gi_wp2_with (fail)
      all_goals
        have hk := KeepsFrom.refl W.heap.size Y
        have hm := KpIt.refl (S := W.heap.size + 2) (m := 0) (Gd := fun k => k < w.heap.size) Y
        exact ⟨⟨hk.size, hk.same⟩, ⟨hm.size, hm.cells, hm.others⟩, HIN.out.bb, HIN.out.bs, HIN.out.br, HIN.out.bel.drew, HIN.out.well⟩
  case done =>
    rintro D X rfl hI hdef
    have HRX := Lib.hid (show true = r by
      rw [← HR.out]
      exact (List.all_eq_true.2 fun i hi => decide_eq_true (hI.well i hi)).symm)
    have y2 := hI.br.cell
    have f2 := hI.br.frozen
    have HDEF := Lib.hid hdef
    have HI := Lib.hid hI
    clear hI hdef
    go_wp2_with (fail)
    have hD2 : (X.setCell ⟨w.heap.size + 2, 0, none⟩ (.bool true)).heap[W.heap.size]? = some (.deferred (some [])) := by
      rw [Below.heap_setCell _ ⟨w.heap.size + 2, 0, none⟩ _ W.heap.size (by show W.heap.size ≠ w.heap.size + 2; omega)]
      exact HDEF.out
    have n1 := (boxed_put (o' := .deferred none) (HI.out.br.set (.bool true)) hD2 rfl).cell
    refine ⟨by simp, .inl ⟨_, _, rfl, run_takeDeferred hD2, ?_⟩⟩
    exact ⟨.bool true, by simp [results, Try.results55, go_sem, n1], by rw [HRX.out], below_put (HI.out.bel.setCell (p := ⟨w.heap.size + 2, 0, none⟩) (by show w.heap.size ≤ w.heap.size + 2; omega) _) (by omega)⟩
  case stop =>
    rintro D c pre X rfl hpre ⟨rfl, i1, i2⟩ hdef
    have n1 := (boxed_put (o' := .deferred none) i1 hdef rfl).cell
    have HDEF := Lib.hid hdef
    have H2 := Lib.hid i2
    clear i1 i2 hdef hpre
    gi_wp2_with (fail)
    refine ⟨by simp, .inl ⟨_, _, rfl, run_takeDeferred HDEF.out, ?_⟩⟩
    exact ⟨.bool r, by simp [results, Try.results55, go_sem, n1], rfl, below_put H2.out (by omega)⟩
end Go.Proofs.Yticppddghjdmaaa

namespace Go.Proofs.Yticppddghjdmaaa
open Go.RowKit Go.Shelf
attribute [local go_sem] Oper.semAt_some
set_option maxRecDepth 100000
set_option linter.unusedVariables false
set_option linter.unusedSimpArgs false

/-- One set is yielded. -/
def okS (v : Array Value) (x : Nat) : Prop := v = #[.int .u16 (x : Int)]
/-- The ideals that are less than a number. -/
def idL (f : Nat → Nat) (k : Nat) : List Nat := (List.range k).filter (idB f)
theorem idL_next (f : Nat → Nat) (k : Nat) : idL f (k + 1) = idL f k ++ if idB f k = true then [k] else [] := by
  unfold idL
  rw [List.range_succ, List.filter_append]
  by_cases h : idB f k = true <;> simp [h]
theorem idL_pre (f : Nat → Nat) (k : Nat) : ∀ j, idL f k <+: idL f (k + j)
  | 0 => List.prefix_refl _
  | j + 1 => (idL_pre f k j).trans (by rw [show k + (j + 1) = (k + j) + 1 by omega, idL_next]; exact List.prefix_append _ _)
theorem idL_pre' {f : Nat → Nat} {k m : Nat} (h : k ≤ m) : idL f k <+: idL f m := by
  have := idL_pre f k (m - k)
  rwa [show k + (m - k) = m by omega] at this
/-- Between two rounds of ideals. -/
def DaI (Gd : Nat → Prop) (w : World) (S : Nat) (f : Nat → Nat) (N : Nat) (J : List Nat → World → Prop) (i : Value) (wr : World) : Prop :=
  ∃ (k : Nat) (pre : List Nat), i = .int .u16 (k : Int) ∧ k ≤ N ∧ Hid (pre = idL f k) ∧ Hid (KpG Gd w wr) ∧ S ≤ wr.heap.size ∧ J pre wr
set_option maxHeartbeats 4000000 in
theorem c_ideals (d : Nat) (hd : 1 ≤ d) (Gd : Nat → Prop) (g n : Nat) (f : Nat → Nat) (hn : n ≤ 12) (hf : ∀ j, f j < 2 ^ 12) (w : World) (h : Blk w g n f) (hg : Gd g) :
    SeqIt d Try.prog 58 #[.slice (some ⟨g, 0, none⟩) n n] #[] 0 Gd okS (idL f (2 ^ n)) w := by
  intro lp J Jx W hKW hlp hJE _ hY h0
  have h1 : (2 : Nat) ^ n ≤ 4096 := Nat.le_trans (Nat.pow_le_pow_right (by omega) hn) (by decide)
  have h00 : 1 ≤ (2 : Nat) ^ n := Nat.one_le_two_pow
  obtain ⟨N, hN⟩ : ∃ N : Nat, 2 ^ n = N := ⟨_, rfl⟩
  have hall := c_all (some ⟨g, 0, none⟩) n n hn W
  have HC := Lib.hid (fun (k : Nat) (hk : k < N) (X : World) (hX : KpG Gd w X) => c_isIdeal g n f hn hf k (by rw [hN]; exact hk) X (hX.same _ _ _ _ hg h))
  rw [hN] at h1 h00 hall hY ⊢
  have hinit : DaI Gd w W.heap.size f N J (.int .u16 0) W := ⟨0, [], rfl, by omega, Lib.hid rfl, Lib.hid hKW, Nat.le_refl _, h0⟩
  have hw1 : IntKind.u16.wrap (((N - 1 : Nat) : Int) + 1) = (N : Int) := by
    rw [show (((N - 1 : Nat) : Int) + 1) = ((N : Nat) : Int) by omega]
    exact wrap16 _ (by omega)
  have HAL := Lib.hid hall
  have HY := Lib.hid hY
  have HJ := Lib.hid hJE
  have HI := Lib.hid hinit
  clear hinit hY hJE h0 hKW hN hall h hf
  refine callsIn_of_wp Try.func58 rfl trivial ?_ rfl
  simp only [Try.ntmps58, List.size_toArray, List.length_cons, List.length_nil, Nat.reduceAdd, Nat.reduceSub, Array.replicate_succ, Array.replicate_zero, List.push_toArray, List.append_toArray, List.nil_append, List.cons_append]
  gi_wp2_with (fail)
  refine ⟨trivial, ?_⟩
  gi_at_call 78
  refine (calls_wide HAL.out).mono ?_
  rintro e w1 ⟨rfl, hw⟩
  rw [hw]
  clear hw w1
  gi_wp2_with (fail)
  gi_loopw [8] (fun i wr => DaI Gd w W.heap.size f N J i wr) (fun i wr => N - (intOf i).toNat)
  case atStart => exact HI.out
  case round =>
    obtain ⟨k, pre, rfl, hk, hpre, hK, hsz, hj⟩ := hrel
    have HJr := Lib.hid hj
    have hki : ((k : Nat) : Int).toNat = k := by omega
    by_cases hlt : k < N
    · have hkl : (k : Int) < (N : Int) := by omega
      have hwk : IntKind.u16.wrap ((k : Int) + 1) = ((k + 1 : Nat) : Int) := by
        rw [show ((k : Int) + 1) = ((k + 1 : Nat) : Int) by omega]
        exact wrap16 _ (by omega)
      have HCK := Lib.hid (HC.out k hlt wr hK.out)
      rcases hb : idB f k with _ | _
      · have HPR := Lib.hid (show pre = idL f (k + 1) by rw [idL_next, hb, hpre.out]; simp)
        rw [hb] at HCK
        clear hb hj
        gi_wp2_with (fail)
        refine ⟨trivial, ?_⟩
        gi_at_call 55
        refine (calls_wide HCK.out).mono ?_
        rintro e w1 ⟨rfl, b1⟩
        have HK1 := Lib.hid (hK.out.trans (KpG.of_below b1 (Nat.le_refl _)))
        have hz1 := Nat.le_trans hsz b1.size
        have HJ1 := Lib.hid (HJ.out _ _ _ HJr.out (OwnIt.of_below b1 (Nat.le_refl _)))
        clear b1
        gi_wp2_with (fail)
        refine ⟨fun f hf => (by cases hf), ?_⟩
        gi_wp2_with (fail)
        refine ⟨⟨k + 1, pre, by simp, by omega, HPR, HK1, hz1, HJ1.out⟩, ?_⟩
        simp only [intOf]; omega
      · have HPR := Lib.hid (show pre ++ [k] = idL f (k + 1) by rw [idL_next, hb, hpre.out]; simp)
        have HPF := Lib.hid (show pre ++ [k] <+: idL f N by rw [HPR.out]; exact idL_pre' (by omega))
        rw [hb] at HCK
        clear hb hj
        gi_wp2_with (fail)
        refine ⟨trivial, ?_⟩
        gi_at_call 55
        refine (calls_wide HCK.out).mono ?_
        rintro e w1 ⟨rfl, b1⟩
        have HK1 := Lib.hid (hK.out.trans (KpG.of_below b1 (Nat.le_refl _)))
        have hz1 := Nat.le_trans hsz b1.size
        have HJ1 := Lib.hid (HJ.out _ _ _ HJr.out (OwnIt.of_below b1 (Nat.le_refl _)))
        clear b1
        obtain ⟨fn, tmps, assign, body, hy, hR⟩ := HY.out pre #[.int .u16 k] k w1 HJ1.out hz1 rfl HPF.out
        gi_wp2_with (fail)
        refine hR.mono ?_
        rintro e W3 (⟨rfl, hJ3, hk3⟩ | ⟨rfl, hJx3, -⟩)
        · have HJ3 := Lib.hid hJ3
          have HK3 := Lib.hid (HK1.out.trans hk3.good)
          have hz3 := Nat.le_trans hz1 hk3.size
          clear hJ3 hy hk3
          gi_wp2_with (fail)
          refine ⟨⟨k + 1, pre ++ [k], by simp, by omega, HPR, HK3, hz3, HJ3.out⟩, ?_⟩
          simp only [intOf]; omega
        · have Hx := Lib.hid hJx3
          clear hJx3 hy
          gi_wp2_with (fail)
          refine bodyPost_ret (results_none rfl _ _ _) rfl ?_
          exact ⟨⟨_, rfl⟩, .inr ⟨_, HPF.out, Hx.out⟩⟩
    · obtain rfl : k = N := by omega
      have HTE := Lib.hid hpre.out
      clear hj
      gi_wp2_with (fail)
      refine bodyPost_end (results_none rfl _ _ _) rfl ?_
      exact ⟨⟨_, rfl⟩, .inl (by rw [← HTE.out]; exact HJr.out)⟩
theorem eg_ideals : ∀ args w, (callFunc 58 args).run Try.prog w = .ok (.enter 58 args) w := enters_of Try.func58 (by kernel_rfl) rfl
end Go.Proofs.Yticppddghjdmaaa

namespace Go.Proofs.Yticppddghjdmaaa
open Go.RowKit Go.Shelf
attribute [local go_sem] Oper.semAt_some
set_option maxRecDepth 100000
set_option linter.unusedVariables false
set_option linter.unusedSimpArgs false

theorem one_cell {W : World} {b : Nat} {x0 : Value} {T : TypeId} (h : W.heap[b]? = some (.cells #[x0] T (0, 0))) : W.cell? ⟨b, 0, none⟩ = some x0 := by simp [World.cell?, h]
theorem one_at {W : World} {b : Nat} {x : Value} {T : TypeId} (hb : W.heap[b]? = some (.cells #[x] T (0, 0))) (j : Nat) (u : Value) (hj : [x][j]? = some u) : W.cell? ((⟨b, 0, none⟩ : Addr).add j) = some u := by
  have e : (⟨b, 0, none⟩ : Addr).add j = ⟨b, j, none⟩ := by unfold Addr.add; split <;> simp_all
  rw [e]
  match j, hj with
  | 0, hj => simp at hj; subst hj; exact one_cell hb
/-- What a walk over an iterator has collected in a box. -/
structure ColI (w0 : World) (bc S : Nat) (xs : List Nat) (X : World) : Prop where
  row : ∃ v, Boxed X bc 33 v ∧ X.ownsRow w0.heap.size 3 1 v xs.length (elV xs) ∧ ∀ g, v.ownBlock = some g → S ≤ g
  bel : Below w0.heap.size w0 X
section
variable {w0 X Y : World} {bc S m : Nat} {xs : List Nat}
theorem ColI.own (h : ColI w0 bc (S + m) xs X) (hE : OwnIt S m X Y) (hb : bc < S) (hS : w0.heap.size ≤ S) : ColI w0 bc (S + m) xs Y := by
  obtain ⟨⟨v, k1, k2, k3⟩, k4⟩ := h
  exact ⟨⟨v, hE.same _ _ k1 (.inl hb), own_row_kept k2 (fun g cur hg hc => hE.same _ _ hc (.inr ⟨rfl, k3 g hg⟩)), k3⟩, below_own k4 hE hS⟩
theorem ColI.put {l : Nat} {o o' : Obj} (h : ColI w0 bc S xs X) (hw : w0.heap.size ≤ l) (hl : X.heap[l]? = some o) (ho : o.isCells = false) : ColI w0 bc S xs (X.putObj l o') := by
  obtain ⟨⟨v, k1, k2, k3⟩, k4⟩ := h
  exact ⟨⟨v, put_cells k1 hl ho, own_row_kept k2 (fun g cur hg hc => put_cells hc hl ho), k3⟩, below_put k4 hw⟩
end
/-- A number is appended in a round and its slice stored into the box. -/
theorem col_step {w0 Y Z : World} {bc S0 m : Nat} {Gd : Nat → Prop} {pre : List Nat} {x : Nat} {v : Value} {g2 cap2 q : Nat} (hq : pre.length = q) (hb : bc < S0) (hw : w0.heap.size ≤ bc) (hG : ∀ k, Gd k → k < S0 ∧ k ≠ bc) (hsz : S0 + m ≤ Y.heap.size)
    (k1 : Boxed Y bc 33 v) (k2 : Y.ownsRow w0.heap.size 3 1 v pre.length (elV pre)) (k3 : ∀ g, v.ownBlock = some g → S0 + m ≤ g) (k4 : Below w0.heap.size w0 Y) {tmp : Obj}
    (hown : Z.ownsRow w0.heap.size 3 1 (.slice (some ⟨g2, 0, none⟩) (q + 1) cap2) (q + 1) (elV pre ++ [.int .i64 (x : Int)])) (hgrow : (Y.alloc tmp).grownBy Z v.ownBlock) (hat : v.ownBlock = some g2 ∨ g2 = Y.heap.size + 1) :
    Boxed Z bc 33 v ∧ ColI w0 bc (S0 + m) (pre ++ [x]) (Z.setCell ⟨bc, 0, none⟩ (.slice (some ⟨g2, 0, none⟩) (q + 1) cap2)) ∧ KpIt S0 m Gd Y (Z.setCell ⟨bc, 0, none⟩ (.slice (some ⟨g2, 0, none⟩) (q + 1) cap2)) ∧ (∀ B, KeepsFrom B Y (Z.setCell ⟨bc, 0, none⟩ (.slice (some ⟨g2, 0, none⟩) (q + 1) cap2))) := by
  subst hq
  obtain ⟨hv1, hv2, hr2, hk2, hb2⟩ := k1.appended (by decide) k2 k4.size hw hown hgrow
  refine ⟨hv1, ⟨⟨_, hv2, by rw [List.length_append, elV_snoc]; exact hr2, fun g hg => ?_⟩, k4.trans hb2⟩, ⟨hb2.size, fun k cs t fr hk hc => ?_, fun k o _ hc ho => hk2.same k o hc ho⟩, fun B => hk2.from B⟩
  · obtain rfl : g2 = g := by simpa [Value.ownBlock] using hg
    rcases hat with h | h
    · exact k3 _ h
    · omega
  · have hkl := at_lt hc
    have hlt : k < S0 + m := by rcases hk with h | h; have := hG k h; omega; omega
    have hne : k ≠ bc := by rcases hk with h | h; exact (hG k h).2; omega
    rw [Below.heap_setCell Z ⟨bc, 0, none⟩ _ k hne, hgrow.block k (by simp; omega) (fun e => by have := k3 k e.symm; omega), Below.heap_alloc _ _ _ hkl]
    exact hc
set_option maxHeartbeats 4000000 in
theorem c_list (s : Nat) (hs : s < 2 ^ 12) (w : World) :
    Calls Try.prog 60 #[.int .u16 (s : Int)] w fun e w' => ∃ v, e = .returned v ∧ w'.ownsRow w.heap.size 3 1 v (lst 12 s).length (elV (lst 12 s)) ∧ Below w.heap.size w w' := by
  obtain ⟨W, hW⟩ : ∃ W, W = w.alloc (.cells #[.slice none 0 0] 33) := ⟨_, rfl⟩
  have HB := Lib.hid (show Below w.heap.size w W by subst hW; exact (Below.refl _ _).alloc (Nat.le_refl _) _)
  have HX := Lib.hid (show Boxed W w.heap.size 33 (.slice none 0 0) by subst hW; exact Boxed.new _ _ _)
  have hzW : W.heap.size = w.heap.size + 1 := by subst hW; simp
  have HSQ := Lib.hid (c_each 7 (by omega) (fun k => k < w.heap.size) s hs w)
  have HLN := Lib.hid (lst_len 12 s)
  refine (callsIn_wide (n := 8)).1 ?_
  refine callsIn_of_wp_marks Try.func60 rfl trivial ?_ rfl
  simp only [Try.ntmps60, List.size_toArray, List.length_cons, List.length_nil, Nat.reduceAdd, Nat.reduceSub, Array.replicate_succ, Array.replicate_zero, List.push_toArray, List.append_toArray, List.nil_append, List.cons_append]
  rw [wpIn_wide]
  go_wp2_with (fail)
  rw [← hW]
  clear hW
  obtain ⟨i0, hi0, hzz0, hzz1, hzz2⟩ := info_parts int_info
  refine (wpIn_wide (n := 8)).1 ?_
  refine wpIn_it (n := 8) (by omega) (gf := 77) (fb := #[.int .u16 (s : Int)]) (lb := #[]) rfl eg_each (m := 0) (Gd := fun k => k < w.heap.size) (ok := okE) (ts := lst 12 s) (w0 := w) HSQ.out (KpG.of_below HB.out (Nat.le_refl _)) (fun v t h => by rw [h]; rfl)
    (fun pre X => ColI w w.heap.size (W.heap.size + 2 + 0) pre X) (fun _ _ _ => False)
    (fun pre X Y h hE => h.own hE (by omega) (by omega)) (fun _ _ _ _ h _ => h.elim)
    (fun pre X l o o' h hl ho hc => h.put (by omega) ho hc) (fun _ _ _ _ _ _ h _ _ _ => h.elim)
    ⟨⟨_, HX.out, World.ownsRow_nil _ _ _ _, fun g hg => by cases hg⟩, HB.out⟩ ?round ?done (fun _ _ _ _ _ _ h _ => h.elim)
  case round =>
    intro l pre v x X K hpre hok hK
    obtain rfl : v = #[.int .i64 (x : Int)] := hok
    gi_wp2_with (fail)
    refine hK _ _ (Below.refl _ _) ?_
    rintro Y ⟨o, o', ho, hoc, hYe⟩ hsz ⟨⟨v, k1, k2, k3⟩, k4⟩
    have hlen : pre.length + 1 ≤ (lst 12 s).length := by have := hpre.length_le; simpa using this
    have hl12 : pre.length + 1 ≤ 12 := Nat.le_trans hlen HLN.out
    have hcell := k1.cell
    have HK1 := Lib.hid k1
    have HK2 := Lib.hid k2
    have HK3 := Lib.hid k3
    have HK4 := Lib.hid k4
    have hbs := k4.size
    clear hYe ho hoc o o' hK k1 k2 k3 k4 hpre hlen
    gi_wp2_with (gi_at_builtin; refine wpListIn_append_lies _ rfl _ _ 33 rfl w.heap.size 3 i0 (.int .i64 0) 1 8 Try.underlying33 hi0 hzz0 hzz1 hzz2 rfl (by decide) _ _ _ rfl (HK2.out.alloc _) ⟨Y.heap.size, 0, none⟩ 1 1 [.int .i64 (x : Int)] rfl rfl (one_at (heap_alloc_new _ _)) (by simp [Value.oneCell']) (by decide) (by unfold maxLen; omega) (by omega) (by simp; omega) (Y.heap.size + 1) (by simp) ?_)
    intro g2 cap2 Z hown hgrow hat
    obtain ⟨hv1, hc2, hkp, hkf⟩ := col_step (S0 := W.heap.size + 2) (m := 0) (Gd := fun k => k < w.heap.size) rfl (by omega) (Nat.le_refl _) (fun k hk => by omega) hsz HK1.out HK2.out HK3.out HK4.out hown hgrow hat
    have hc1 := hv1.cell
    have hf1 := hv1.frozen
    have HC := Lib.hid hc2
    have HKP := Lib.hid hkp
    have HKF := Lib.hid hkf
    clear hv1 hc2 hkp hkf hown hgrow hat
    gi_wp2_with (fail)
    exact ⟨HKF.out _, HKP.out, HC.out⟩
  case done =>
    rintro D X rfl ⟨⟨v, k1, k2, k3⟩, k4⟩ hdef
    have hcell := k1.cell
    have HDEF := Lib.hid hdef
    have HR := Lib.hid (show (X.putObj W.heap.size (.deferred none)).ownsRow w.heap.size 3 1 v (lst 12 s).length (elV (lst 12 s)) from own_row_kept k2 (fun g cur _ hc => put_cells hc hdef rfl))
    have HB4 := Lib.hid (below_put (o' := .deferred none) k4 (by omega : w.heap.size ≤ W.heap.size))
    clear k1 k2 k3 k4 hdef
    go_wp2_with (fail)
    refine ⟨by simp, .inl ⟨_, _, rfl, run_takeDeferred HDEF.out, ?_⟩⟩
    exact ⟨v, by simp [results, Try.results60, go_sem], _, rfl, HR.out, HB4.out⟩
end Go.Proofs.Yticppddghjdmaaa

namespace Go.Proofs.Yticppddghjdmaaa
open Go.RowKit
attribute [local go_sem] Oper.semAt_some
set_option maxRecDepth 100000
set_option linter.unusedVariables false
set_option linter.unusedSimpArgs false

/-- A set without another one. -/
def dif (a b : Nat) : Nat := a ^^^ (a &&& b)
theorem dif_tb (a b k : Nat) : (dif a b).testBit k = (a.testBit k && !b.testBit k) := by
  unfold dif
  rw [Nat.testBit_xor, Nat.testBit_and]
  cases a.testBit k <;> cases b.testBit k <;> rfl
theorem dif_lt {a b m : Nat} (h : a < 2 ^ m) : dif a b < 2 ^ m := Nat.xor_lt_two_pow h (Nat.lt_of_le_of_lt Nat.and_le_left h)
/-- A set without those of some others. -/
def redF (f : Nat → Nat) (s : Nat) (l : List Nat) : Nat := l.foldl (fun d i => dif d (f i)) s
theorem redF_snoc (f : Nat → Nat) (s : Nat) (l : List Nat) (i : Nat) : redF f s (l ++ [i]) = dif (redF f s l) (f i) := by simp [redF]
theorem redF_lt {f : Nat → Nat} {m : Nat} : ∀ (l : List Nat) {s : Nat}, s < 2 ^ m → redF f s l < 2 ^ m
  | [], _, h => h
  | i :: l, s, h => redF_lt (f := f) l (dif_lt h)
theorem bits_dif16 (a b : Nat) (ha : a < 65536) (hb : b < 65536) : bits BinOp.andNot IntKind.u16 (a : Int) (b : Int) = ((dif a b : Nat) : Int) := by
  have h1 : (BitVec.ofInt 16 (a : Int)) = BitVec.ofNat 16 a := BitVec.ofInt_natCast _ _
  have h2 : (BitVec.ofInt 16 (b : Int)) = BitVec.ofNat 16 b := BitVec.ofInt_natCast _ _
  have h3 : bits BinOp.andNot IntKind.u16 (a : Int) (b : Int) = ((BitVec.ofNat 16 a &&& ~~~BitVec.ofNat 16 b).toNat : Int) := by
    show IntKind.u16.wrap ((BitVec.ofInt 16 (a : Int) &&& ~~~BitVec.ofInt 16 (b : Int)).toNat : Int) = _
    rw [h1, h2]
    exact wrap16 _ (BitVec.ofNat 16 a &&& ~~~BitVec.ofNat 16 b).isLt
  rw [h3]
  have hd : dif a b < 2 ^ 16 := dif_lt (by omega)
  have e : BitVec.ofNat 16 a &&& ~~~BitVec.ofNat 16 b = BitVec.ofNat 16 (dif a b) := BitVec.eq_of_getLsbD_eq fun i hi => by
    rw [BitVec.getLsbD_and, BitVec.getLsbD_not, BitVec.getLsbD_ofNat, BitVec.getLsbD_ofNat, BitVec.getLsbD_ofNat, dif_tb]
    simp [hi]
  rw [e, BitVec.toNat_ofNat, Nat.mod_eq_of_lt hd]
theorem nat64 (k : Nat) (h : k < 9223372036854775808) : IntKind.i64.wrap (k : Int) = (k : Int) := by
  simp [IntKind.wrap, IntKind.bits, IntKind.signed]
  omega
theorem bits_dif64 (a b : Nat) (ha : a < 65536) (hb : b < 65536) : bits BinOp.andNot IntKind.i64 (a : Int) (b : Int) = ((dif a b : Nat) : Int) := by
  have h1 : (BitVec.ofInt 64 (a : Int)) = BitVec.ofNat 64 a := BitVec.ofInt_natCast _ _
  have h2 : (BitVec.ofInt 64 (b : Int)) = BitVec.ofNat 64 b := BitVec.ofInt_natCast _ _
  have hd : dif a b < 2 ^ 16 := dif_lt (by omega)
  have e : BitVec.ofNat 64 a &&& ~~~BitVec.ofNat 64 b = BitVec.ofNat 64 (dif a b) := BitVec.eq_of_getLsbD_eq fun i hi => by
    rw [BitVec.getLsbD_and, BitVec.getLsbD_not, BitVec.getLsbD_ofNat, BitVec.getLsbD_ofNat, BitVec.getLsbD_ofNat, dif_tb]
    simp [hi]
  show IntKind.i64.wrap ((BitVec.ofInt 64 (a : Int) &&& ~~~BitVec.ofInt 64 (b : Int)).toNat : Int) = _
  rw [h1, h2, e, BitVec.toNat_ofNat, Nat.mod_eq_of_lt (Nat.lt_of_lt_of_le hd (by decide))]
  exact nat64 _ (by omega)
/-- Sets in memory. -/
def unV (x : Nat) (_ : Nat) : Value := .int .u16 (x : Int)
theorem unV_at {w : World} {b o c : Nat} {l : List Nat} (h : Rv 1 unV w (some ⟨b, o, none⟩) c l) {j : Nat} {x : Nat} (hj : l[j]? = some x) : w.cell? ⟨b, o + j, none⟩ = some (.int .u16 (x : Int)) := by
  obtain ⟨b', o', e, -, h0⟩ := h.at_ hj
  injection e with e
  injection e with e1 e2
  subst e1 e2
  have := h0 0 (by omega)
  simpa [unV] using this
def fL (n : Nat) (f : Nat → Nat) : List Nat := (List.range n).map f
theorem fL_len (n : Nat) (f : Nat → Nat) : (fL n f).length = n := by simp [fL]
theorem Blk.rv {w : World} {g n : Nat} {f : Nat → Nat} (h : Blk w g n f) (hn : n ≤ 12) : Rv 1 unV w (some ⟨g, 0, none⟩) n (fL n f) := by
  refine ⟨by rw [fL_len]; exact Nat.le_refl _, by unfold maxLen; omega, (by intro h; cases h), fun _ => ⟨g, 0, rfl, at_lt h, fun j x hj i hi => ?_⟩⟩
  obtain rfl : i = 0 := by omega
  have hj' : j < n := by have := (List.getElem?_eq_some_iff.1 hj).1; rwa [fL_len] at this
  have hx : f j = x := by simp [fL, hj'] at hj; exact hj
  have := h.at_ hj'
  rw [hx] at this
  rw [show 0 + j * 1 + 0 = j by omega]
  exact this
/-- Sets as lists. -/
def listsU (l : List Nat) : List (List Int) := l.map fun s => intsN (lst 12 s)
theorem listsU_fL (n : Nat) (f : Nat → Nat) : listsU (fL n f) = setsL f n := by simp [listsU, fL, setsL]
set_option maxHeartbeats 16000000 in
theorem c_listsOf (A : Option Addr) (c : Nat) (l : List Nat) (hl : l.length ≤ 12) (h12 : ∀ x ∈ l, x < 2 ^ 12) (w : World) (h : Rv 1 unV w A c l) :
    Calls Try.prog 49 #[.slice A l.length c] w fun e w' => ∃ v ys, e = .returned v ∧ OutL w.heap.size w' v ys ∧ ys.map (·.l) = listsU l ∧ Below w.heap.size w w' := by
  have H := Lib.hid h
  have k1 := h.1; have k2 := h.2.1
  unfold maxLen at k2
  have HL := Lib.hid h12
  clear h h12
  obtain ⟨i1, hi1, hz1, hz2, hz3⟩ := info_parts li_info
  go_enter Try.func49, Try.ntmps49
  go_wp2_with (fail)
  go_loopw [3, 8] (fun v i wr => ∃ k : Nat, k ≤ l.length ∧ i = .int .i64 (k : Int) ∧ Hid (Below w.heap.size w wr) ∧ ∃ ys : List LsV, ys.length = k ∧ Hid (OutL w.heap.size wr v ys) ∧ Hid (ys.map (·.l) = listsU (l.take k))) (fun _ i _ => l.length - (intOf i).toNat)
  case atStart => exact ⟨0, Nat.zero_le _, rfl, Lib.hid (Below.refl _ _), [], rfl, Lib.hid ⟨World.ownsRow_nil _ _ _ _, fun y hy => by cases hy⟩, Lib.hid (by simp [listsU])⟩
  case round =>
    obtain ⟨k, hk, rfl, hK, ys, hyl, ho, hm⟩ := hrel
    have hki : ((k : Nat) : Int).toNat = k := by omega
    by_cases hlt : k < l.length
    · have hkl : (k : Int) < ((l.length : Nat) : Int) := by omega
      obtain ⟨s, hs⟩ : ∃ s, l[k]? = some s := ⟨_, List.getElem?_eq_getElem hlt⟩
      have HK := H.out.on hK.out (Nat.le_refl _)
      obtain ⟨pb, o, rfl, -, -⟩ := HK.at_ hs
      have b0 := unV_at HK hs
      have hs12 := HL.out s (List.mem_of_getElem? hs)
      have HNX := Lib.hid (show listsU (l.take (k + 1)) = listsU (l.take k) ++ [intsN (lst 12 s)] by rw [take_snoc hs]; simp [listsU])
      obtain ⟨As, cs, rfl⟩ := own_shape ho.out.1
      have hln : ys.length ≤ 12 := by omega
      have HYL := Lib.hid hyl
      clear hs HK hyl
      go_wp2_with (fail)
      go_at_call 60
      refine (c_list s hs12 wr).mono ?_
      rintro e w3 ⟨v3, rfl, o3, b3⟩
      obtain ⟨A3, c3, rfl⟩ := own_shape o3
      have K3 := Lib.hid (below_join hK.out b3 hK.out.size)
      have O3 := Lib.hid (ho.out.on b3 (Nat.le_refl _))
      have Y3 := Lib.hid (show w3.ownsRow w.heap.size 3 1 (.slice A3 (intsN (lst 12 s)).length c3) (intsN (lst 12 s)).length (cellsV 1 inV (intsN (lst 12 s))) by
        rw [intsN_len, ← elV_ints]; exact own_mono o3 hK.out.size)
      have hz4 := K3.out.size
      obtain ⟨l', hl'⟩ : ∃ l', intsN (lst 12 s) = l' := ⟨_, rfl⟩
      have hll : (lst 12 s).length = l'.length := by rw [← hl', intsN_len]
      rw [hll]
      rw [hl'] at Y3 HNX
      clear b3 o3 b0 hl' hll
      go_wp2_with (at_builtin; refine wpList_append_lies _ rfl _ _ 22 rfl w.heap.size 33 i1 (.slice none 0 0) 1 24 Try.underlying22 hi1 hz1 hz2 hz3 rfl (by decide) (.slice As ys.length cs) ys.length _ rfl (O3.out.1.alloc _) ⟨w3.heap.size, 0, none⟩ 1 1 [.slice A3 l'.length c3] rfl rfl (World.news_of_block (heap_alloc_new _ _)) (by simp [Value.oneCell']) (by decide) (by unfold maxLen; omega) (by omega) (by simp; omega) (w3.heap.size + 1) (by simp) ?_; intro g4 cap4 Z hown hgrow _ _; have HBZ := Lib.hid ((K3.out.alloc K3.out.size _).grown hgrow (by have := K3.out.size; simp; omega) (fun k hk => (ownsRow_lt O3.out.1 hk).1)); have HOZ := Lib.hid (O3.out.push ⟨A3, c3, l'⟩ Y3.out hown hgrow); clear hown hgrow)
      go_roundw
      case rel => exact ⟨k + 1, by omega, by go_num, HBZ, _, by simp [HYL.out], HOZ, Lib.hid (by rw [List.map_append, hm.out, HNX.out]; rfl)⟩
      case measure => simp only [intOf]; omega
    · obtain rfl : k = l.length := by omega
      have HM := Lib.hid (show ys.map (·.l) = listsU l by rw [hm.out, List.take_of_length_le (Nat.le_refl _)])
      go_wp2_with (fail)
      go_ret
      exact ⟨_, ys, rfl, ho.out, HM.out, hK.out⟩
set_option maxHeartbeats 8000000 in
theorem c_Closure (A : Option Addr) (c : Nat) (xs : List LsV) (w : World) (h : LsAt w A c xs) : Calls Try.prog 13 #[.slice A xs.length c] w (LsTo w (rdN xs) (setsL (ordF xs) xs.length)) := by
  have H := Lib.hid h
  obtain ⟨R, hR⟩ : ∃ R, R = LsTo w (rdN xs) (setsL (ordF xs) xs.length) := ⟨_, rfl⟩
  rw [← hR]
  have HRR := Lib.hid hR
  clear hR h
  go_enter Try.func13, Try.ntmps13
  go_wp2_with (fail)
  go_at_call 48
  refine (c_read A c xs w H.out).mono ?_
  rintro e w1 ⟨⟨h0, rfl⟩ | ⟨h0, hl, hok, -, g, rfl, hg, hblk⟩, b1⟩
  · have H0 := Lib.hid h0
    have K1 := Lib.hid b1
    have hne : (rdN xs != 0) = true := by simpa using h0
    have hd0 : (rdN xs == 0) = false := by simpa using h0
    clear h0 b1
    go_wp2_with (fail)
    rw [HRR.out]
    exact ⟨.inl ⟨H0.out, rfl⟩, K1.out⟩
  · have H0 := Lib.hid h0
    have K1 := Lib.hid b1
    have HC := Lib.hid (c_listsOf (some ⟨g, 0, none⟩) xs.length (fL xs.length (ordF xs)) (by rw [fL_len]; exact hl) (fun x hx => by
      obtain ⟨j, -, rfl⟩ := List.mem_map.1 hx
      exact ordF_lt hl hok j) w1 (hblk.rv hl))
    rw [fL_len, listsU_fL] at HC
    clear h0 b1 hblk
    go_wp2_with (fail)
    go_at_call 49
    refine HC.out.mono ?_
    rintro e w2 ⟨v, ys, rfl, ho, hm, b2⟩
    have K2 := Lib.hid (below_join K1.out b2 K1.out.size)
    have HO := Lib.hid ho
    have HM := Lib.hid hm
    have hs1 := K1.out.size
    clear b2 ho hm
    go_wp2_with (fail)
    rw [HRR.out, H0.out]
    exact ⟨.inr ⟨rfl, _, ys, rfl, ⟨own_mono HO.out.1 hs1, fun y hy => own_mono (HO.out.2 y hy) hs1⟩, HM.out⟩, K2.out⟩
end Go.Proofs.Yticppddghjdmaaa

namespace Go.Proofs.Yticppddghjdmaaa
open Go.RowKit Go.Shelf
attribute [local go_sem] Oper.semAt_some
set_option maxRecDepth 100000
set_option linter.unusedVariables false
set_option linter.unusedSimpArgs false

/-- All blocks but b stand. -/
structure But (b : Nat) (X Y : World) : Prop where
  os : Y.os = X.os
  tape : Y.tape = X.tape
  output : Y.output = X.output
  size : X.heap.size ≤ Y.heap.size
  same : ∀ (k : Nat) (o : Obj), k ≠ b → X.heap[k]? = some o → Y.heap[k]? = some o
section
variable {b S m : Nat} {X Y Z : World}
theorem But.refl (X : World) : But b X X := ⟨rfl, rfl, rfl, Nat.le_refl _, fun _ _ _ h => h⟩
theorem But.trans (h : But b X Y) (k : But b Y Z) : But b X Z := ⟨k.os.trans h.os, k.tape.trans h.tape, k.output.trans h.output, Nat.le_trans h.size k.size, fun i o ho hi => k.same i o ho (h.same i o ho hi)⟩
theorem But.of_below {B : Nat} (h : Below B X Y) (hB : X.heap.size ≤ B) : But b X Y := ⟨h.os, h.tape, h.output, h.size, fun k _ _ hk => (h.block k (Nat.lt_of_lt_of_le (at_lt hk) hB)).trans hk⟩
theorem But.store (x : Value) (o : Nat) : But b X (X.setCell ⟨b, o, none⟩ x) :=
  ⟨rfl, rfl, rfl, by simp [World.setCell], fun k u hne hk => by rw [Below.heap_setCell _ ⟨b, o, none⟩ x k hne]; exact hk⟩
theorem But.drew : But b X X.drew := ⟨rfl, rfl, rfl, Nat.le_refl _, fun _ _ _ h => h⟩
theorem But.below {w : World} {B : Nat} (h : But b X Y) (k : Below B w X) (hb : B ≤ b) (hB : B ≤ w.heap.size) : Below B w Y := by
  refine ⟨h.os.trans k.os, h.tape.trans k.tape, h.output.trans k.output, Nat.le_trans k.size h.size, fun i hi => ?_⟩
  have hlt : i < X.heap.size := Nat.lt_of_lt_of_le (Nat.lt_of_lt_of_le hi hB) k.size
  have h3 := Array.getElem?_eq_getElem hlt
  have := h.same i _ (by omega) h3
  rw [this, ← h3]
  exact k.block i hi
theorem But.own (h : But b X Y) (hE : OwnIt S m Y Z) (hS : X.heap.size ≤ S) : But b X Z :=
  ⟨hE.os.trans h.os, hE.tape.trans h.tape, hE.output.trans h.output, Nat.le_trans h.size hE.size, fun k o hne hk => hE.same k o (h.same k o hne hk) (.inl (by have := at_lt hk; omega))⟩
theorem But.put {l : Nat} (o' : Obj) (h : But b X Y) (hl : X.heap.size ≤ l) : But b X (Y.putObj l o') :=
  ⟨h.os, h.tape, h.output, by simpa using h.size, fun k o hne hk => put_else (h.same k o hne hk) (by have := at_lt hk; omega)⟩
end
/-- Marks of ranges that have ended. -/
def marks (bs : List Nat) : List Deferred := bs.map fun b => { target := .collected b, args := #[] }
structure Mks (B : Nat) (bs : List Nat) (W : World) : Prop where
  nodup : bs.Nodup
  at_ : ∀ b ∈ bs, B ≤ b ∧ W.heap[b]? = some (.deferred (some []))
structure Off (bs : List Nat) (X Y : World) : Prop where
  os : Y.os = X.os
  tape : Y.tape = X.tape
  output : Y.output = X.output
  size : X.heap.size ≤ Y.heap.size
  same : ∀ (k : Nat) (o : Obj), k ∉ bs → X.heap[k]? = some o → Y.heap[k]? = some o
theorem Mks.nil (B : Nat) (W : World) : Mks B [] W := ⟨List.nodup_nil, fun b hb => by cases hb⟩
theorem Mks.lt {B : Nat} {bs : List Nat} {W : World} (h : Mks B bs W) {b : Nat} (hb : b ∈ bs) : b < W.heap.size := at_lt (h.at_ b hb).2
theorem Mks.kept {B : Nat} {bs : List Nat} {X Y : World} (h : Mks B bs X) (hs : ∀ (k : Nat) (o : Obj), X.heap[k]? = some o → o.isCells = false → Y.heap[k]? = some o) : Mks B bs Y :=
  ⟨h.nodup, fun b hb => ⟨(h.at_ b hb).1, hs _ _ (h.at_ b hb).2 rfl⟩⟩
theorem Mks.on {B C : Nat} {bs : List Nat} {X Y : World} (h : Mks B bs X) (hb : Below C X Y) (hC : X.heap.size ≤ C) : Mks B bs Y := h.kept fun k o hk _ => (hb.block _ (Nat.lt_of_lt_of_le (at_lt hk) hC)).trans hk
theorem Mks.but {B c : Nat} {bs : List Nat} {X Y : World} {cs : Array Value} {T : TypeId} (h : Mks B bs X) (hb : But c X Y) (hc : X.heap[c]? = some (.cells cs T (0, 0))) : Mks B bs Y := h.kept fun k o hk ho => hb.same k o (fun e => by subst e; rw [hc] at hk; cases hk; cases ho) hk
theorem Mks.push {B D : Nat} {bs : List Nat} {X Y : World} (h : Mks B bs X) (k : Mks B bs Y) (hD : X.heap.size ≤ D) (hB : B ≤ D) (hd : Y.heap[D]? = some (.deferred (some []))) : Mks B (D :: bs) Y :=
  ⟨List.nodup_cons.2 ⟨fun hm => by have := h.lt hm; omega, h.nodup⟩, fun b hb => by
    rcases List.mem_cons.1 hb with rfl | hb
    · exact ⟨hB, hd⟩
    · exact k.at_ b hb⟩
theorem Off.below {B : Nat} {bs : List Nat} {w X Y : World} (h : Off bs X Y) (hb : ∀ b ∈ bs, B ≤ b) (k : Below B w X) (hB : B ≤ w.heap.size) : Below B w Y := by
  refine ⟨h.os.trans k.os, h.tape.trans k.tape, h.output.trans k.output, Nat.le_trans k.size h.size, fun i hi => ?_⟩
  have hlt : i < X.heap.size := Nat.lt_of_lt_of_le (Nat.lt_of_lt_of_le hi hB) k.size
  have h3 := Array.getElem?_eq_getElem hlt
  have := h.same i _ (fun hm => by have := hb i hm; omega) h3
  rw [this, ← h3]
  exact k.block i hi
theorem Off.cells {B : Nat} {bs : List Nat} {X Y : World} (h : Off bs X Y) (hm : Mks B bs X) {k : Nat} {cs : Array Value} {T : TypeId} {fr : Nat × Nat} (hk : X.heap[k]? = some (.cells cs T fr)) : Y.heap[k]? = some (.cells cs T fr) :=
  h.same k _ (fun hb => by have := (hm.at_ k hb).2; rw [hk] at this; cases this) hk
theorem Off.own {B : Nat} {bs : List Nat} {X Y : World} (h : Off bs X Y) (hm : Mks B bs X) {base : Nat} {e : TypeId} {size n : Nat} {v : Value} {xs : List Value} (ho : X.ownsRow base e size v n xs) : Y.ownsRow base e size v n xs :=
  own_row_kept ho fun g cur _ hc => h.cells hm hc
theorem own_cells {X : World} {base : Nat} {e : TypeId} {size n : Nat} {v : Value} {xs : List Value} (h : X.ownsRow base e size v n xs) {g : Nat} (hg : v.ownBlock = some g) : ∃ cs, X.heap[g]? = some (.cells cs e (0, 0)) := by
  obtain ⟨k1, ⟨rfl, -⟩ | ⟨g', cap, cur, rfl, k3, k4, k⟩⟩ := h
  · cases hg
  · have hg2 : some g' = some g := hg
    injection hg2 with hg2
    subst hg2
    exact ⟨_, k4⟩
/-- Marks stand when a row grows. -/
theorem Mks.grown {B : Nat} {bs : List Nat} {X Z : World} {base : Nat} {e : TypeId} {size n : Nat} {v : Value} {xs : List Value} {tmp : Obj} (h : Mks B bs X) (ho : X.ownsRow base e size v n xs) (hg : (X.alloc tmp).grownBy Z v.ownBlock) : Mks B bs Z :=
  h.kept fun k o hk hc => by
    have hl := at_lt hk
    rw [hg.block k (by simp; omega) (fun e => by obtain ⟨cs, h2⟩ := own_cells ho e.symm; rw [hk] at h2; cases h2; cases hc), Below.heap_alloc _ _ _ hl]
    exact hk
theorem leaves_marks {F : Fence} {n : Nat} {P : Program} {fn : Func} {tmps : Array Value} {R : Ending → World → Prop} {u : FrameMode} (hu : u ≠ .run) {B : Nat} : ∀ (bs : List Nat) (W : World), Mks B bs W →
    (∀ W', Off bs W W' → LeavesInM F n P fn tmps R [] u W') → LeavesInM F n P fn tmps R (marks bs) u W
  | [], W, _, h => h W ⟨rfl, rfl, rfl, Nat.le_refl _, fun _ _ _ hk => hk⟩
  | b :: bs, W, hm, h => by
    have hn := List.nodup_cons.1 hm.nodup
    refine ⟨hu, .inl ⟨b, _, rfl, run_takeDeferred (hm.at_ b (by simp)).2, leaves_marks (B := B) hu bs _ ⟨hn.2, fun c hc => ?_⟩ fun W' hW' => h W' ?_⟩⟩
    · have := hm.at_ c (by simp [hc])
      exact ⟨this.1, put_else this.2 (fun e => hn.1 (e ▸ hc))⟩
    · exact ⟨hW'.os, hW'.tape, hW'.output, Nat.le_trans (by simp) hW'.size, fun k o hk ho => hW'.same k o (fun h => hk (by simp [h])) (put_else ho (fun e => hk (by simp [e])))⟩
end Go.Proofs.Yticppddghjdmaaa

namespace Go.Proofs.Yticppddghjdmaaa
open Go.RowKit Go.Shelf
attribute [local go_sem] Oper.semAt_some
set_option maxRecDepth 100000
set_option linter.unusedVariables false
set_option linter.unusedSimpArgs false

/-- What comes directly before each element. -/
def dirS (f : Nat → Nat) (j : Nat) : Nat := redF f (f j) (lst 12 (f j))
set_option maxHeartbeats 16000000 in
theorem c_directly (g n : Nat) (f : Nat → Nat) (hn : n ≤ 12) (hf : ∀ j, f j < 2 ^ 12) (hlt : ∀ j k, j < n → (f j).testBit k = true → k < n) (w : World) (h : Blk w g n f) :
    Calls Try.prog 52 #[.slice (some ⟨g, 0, none⟩) n n] w fun e w' => ∃ v, e = .returned v ∧ w'.ownsRow w.heap.size 72 1 v n (cellsV 1 unV (fL n (dirS f))) ∧ Below w.heap.size w w' := by
  have H := Lib.hid h
  have HF := Lib.hid hf
  have HLT := Lib.hid hlt
  clear h hf hlt
  obtain ⟨W, hW⟩ : ∃ W, W = w.alloc (.cells #[.slice (some ⟨g, 0, none⟩) n n] 64) := ⟨_, rfl⟩
  have HB := Lib.hid (show Below w.heap.size w W by subst hW; exact (Below.refl _ _).alloc (Nat.le_refl _) _)
  have H0 := Lib.hid (show Boxed W w.heap.size 64 (.slice (some ⟨g, 0, none⟩) n n) by subst hW; exact heap_alloc_new _ _)
  have x0 := H0.out.cell
  have hzW : W.heap.size = w.heap.size + 1 := by subst hW; simp
  obtain ⟨i1, hi1, hz1, hz2, hz3⟩ := info_parts el_info
  refine (callsIn_wide (n := 8)).1 ?_
  refine callsIn_of_wp_marks Try.func52 rfl trivial ?_ rfl
  simp only [Try.ntmps52, List.size_toArray, List.length_cons, List.length_nil, Nat.reduceAdd, Nat.reduceSub, Array.replicate_succ, Array.replicate_zero, List.push_toArray, List.append_toArray, List.nil_append, List.cons_append]
  rw [wpIn_wide]
  go_wp2_with (fail)
  rw [← hW]
  clear hW
  refine wp_loop (fun a' wr => ∃ (u3 u5 u6 u7 u10 u11 u12 u13 u14 u15 u16 u17 u18 u19 u20 u21 u22 u23 u24 u25 u26 u27 u28 : Value) (ds : List Deferred), (∃ k : Nat, k ≤ n ∧ u10 = .int .i64 (k : Int) ∧ Hid (Below W.heap.size W wr) ∧ Hid (wr.ownsRow W.heap.size 72 1 u3 k (cellsV 1 unV (fL k (dirS f)))) ∧ ∃ bs, ds = marks bs ∧ Hid (Mks W.heap.size bs wr)) ∧ a' = { tmps := #[.slice (some ⟨g, 0, none⟩) n n, .pointer (some ⟨w.heap.size, 0, none⟩), .slice none 0 0, u3, undef, u5, u6, u7, .slice (some ⟨g, 0, none⟩) n n, .int .i64 (n : Int), u10, u11, u12, u13, u14, u15, u16, u17, u18, u19, u20, u21, u22, u23, u24, u25, u26, u27, u28, undef], defers := ds }) (fun a' _ => n - (intOf (a'.tmps.getD 10 undef)).toNat) ?atStart ?round
  case atStart =>
    (repeat apply Exists.intro)
    refine ⟨?rel0, rfl⟩
    exact ⟨0, Nat.zero_le _, rfl, Lib.hid (Below.refl _ _), Lib.hid (World.ownsRow_nil _ _ _ _), [], rfl, Lib.hid (Mks.nil _ _)⟩
  case round =>
    rintro _ wr ⟨u3, u5, u6, u7, u10, u11, u12, u13, u14, u15, u16, u17, u18, u19, u20, u21, u22, u23, u24, u25, u26, u27, u28, ds, ⟨k, hk, rfl, hK, ho, bs, rfl, hM⟩, rfl⟩
    have hki : ((k : Nat) : Int).toNat = k := by omega
    obtain ⟨As, cs, rfl⟩ := own_shape ho.out
    by_cases hlt : k < n
    · have hkl : (k : Int) < (n : Int) := by omega
      have HBW := Lib.hid ((HB.out.trans (hK.out.mono (by omega))))
      have HBK := Lib.hid (H.out.on HBW.out (Nat.le_refl _))
      have b0 := HBK.out.at_ hlt
      have hs12 := HF.out k
      obtain ⟨s, hs⟩ : ∃ s, f k = s := ⟨_, rfl⟩
      have HS := Lib.hid hs
      rw [hs] at b0 hs12
      have hgb : g < w.heap.size := at_lt H.out
      have hzr := hK.out.size
      obtain ⟨V, hV⟩ : ∃ V, V = wr.alloc (.cells #[.int .u16 (s : Int)] 72) := ⟨_, rfl⟩
      have HBV := Lib.hid (show Below wr.heap.size wr V by subst hV; exact (Below.refl _ _).alloc (Nat.le_refl _) _)
      have HX := Lib.hid (show Boxed V wr.heap.size 72 (.int .u16 (s : Int)) by subst hV; exact heap_alloc_new _ _)
      have hzV : V.heap.size = wr.heap.size + 1 := by subst hV; simp
      have HMV := Lib.hid (hM.out.on HBV.out (Nat.le_refl _))
      have HSQ := Lib.hid (c_each 7 (by omega) (fun _ => False) s hs12 V)
      have HLS := Lib.hid (show ∀ i ∈ lst 12 s, i < n from fun i hi => HLT.out k i hlt (by rw [HS.out]; exact (lst_mem.1 hi).2))
      have HKV := Lib.hid (below_join hK.out HBV.out hzr)
      have HOV := Lib.hid (own_on ho.out HBV.out (Nat.le_refl _))
      clear hs
      go_wp2_with (fail)
      rw [← hV]
      clear hV b0
      refine (wpIn_wide (n := 8)).1 ?_
      refine wpIn_it (n := 8) (by omega) (gf := 77) (fb := #[.int .u16 (s : Int)]) (lb := #[]) rfl eg_each (m := 0) (Gd := fun _ => False) (ok := okE) (ts := lst 12 s) (w0 := V) HSQ.out (KpG.refl _) (fun v t h => by rw [h]; rfl)
        (fun pre X => Boxed X wr.heap.size 72 (.int .u16 ((redF f s pre : Nat) : Int)) ∧ But wr.heap.size V X) (fun _ _ _ => False)
        (fun pre X Y h hE => ⟨hE.same _ _ h.1 (.inl (by omega)), h.2.own hE (by omega)⟩) (fun _ _ _ _ h _ => h.elim)
        (fun pre X l o o' h hl ho hc => ⟨boxed_put h.1 ho hc, h.2.put _ (by omega)⟩) (fun _ _ _ _ _ _ h _ _ _ => h.elim)
        ⟨HX.out, But.refl _⟩ ?iround ?idone (fun _ _ _ _ _ _ h _ => h.elim)
      case iround =>
        intro l pre v i X K hpre hok hKK
        obtain rfl : v = #[.int .i64 (i : Int)] := hok
        gi_wp2_with (fail)
        refine hKK _ _ (Below.refl _ _) ?_
        rintro Y ⟨o, o', ho', hoc, hYe⟩ hsz ⟨hI, hBt⟩
        have hin := HLS.out i (hpre.subset (by simp))
        have hil : (i : Int) < (n : Int) := by omega
        have y0 := hI.cell
        have f0 := hI.frozen
        have HWY := Lib.hid (hBt.below (w := W) HKV.out (by omega) (Nat.le_refl _))
        have y1 := (show Boxed Y w.heap.size 64 (.slice (some ⟨g, 0, none⟩) n n) from (HWY.out.block _ (by omega)).trans H0.out).cell
        have y2 := (H.out.on (HB.out.trans (HWY.out.mono (by omega))) (Nat.le_refl _)).at_ hin
        have hq := HF.out i
        have hrl := redF_lt (f := f) pre hs12
        have HI := Lib.hid hI
        have HBT := Lib.hid hBt
        have HNX := Lib.hid (redF_snoc f s pre i)
        have hfm : Try.prog.follows Departure.mixedOrders = true := by kernel_rfl
        obtain ⟨q, hq0⟩ : ∃ q, f i = q := ⟨_, rfl⟩
        obtain ⟨t, ht0⟩ : ∃ t, redF f s pre = t := ⟨_, rfl⟩
        rw [hq0] at y2 hq HNX
        rw [ht0] at y0 hrl HNX HI
        have hdf := bits_dif16 t q (by omega) (by omega)
        obtain ⟨t2, ht2⟩ : ∃ t2, dif t q = t2 := ⟨_, rfl⟩
        rw [ht2] at hdf HNX
        clear hYe ho' hoc o o' hKK hI hBt hpre hq0 ht0 ht2
        gi_wp2_with (fail)
        gi_region_o
        all_goals gi_wp2_with (fail)
        all_goals
          have hk := kf_store (B := V.heap.size + 2) (o := 0) (.int .u16 (t2 : Int)) HI.out
          have hk2 := kf_store (B := V.heap.size) (o := 0) (.int .u16 (t2 : Int)) HI.out
          have hb2 := HBT.out.trans (But.store (.int .u16 (t2 : Int)) 0)
          exact ⟨⟨hk2.size, hk2.same⟩, ⟨hk.size, fun k' _ _ _ hk' _ => by rcases hk' with h | h; exact h.elim; omega, hk.same⟩, by rw [HNX.out]; exact HI.out.set _, ⟨hb2.os, hb2.tape, hb2.output, hb2.size, hb2.same⟩⟩
      case idone =>
        rintro D X rfl ⟨hI, hBt⟩ hdef
        obtain ⟨r, hr⟩ : ∃ r, redF f s (lst 12 s) = r := ⟨_, rfl⟩
        rw [hr] at hI
        have y0 := hI.cell
        have HFN := Lib.hid (show cellsV 1 unV (fL (k + 1) (dirS f)) = cellsV 1 unV (fL k (dirS f)) ++ [.int .u16 (r : Int)] by
          have e : fL (k + 1) (dirS f) = fL k (dirS f) ++ [r] := by
            rw [← hr, ← HS.out]
            unfold fL
            rw [List.range_succ, List.map_append]
            rfl
          rw [e, cellsV_append]; rfl)
        have HOX := Lib.hid (show X.ownsRow W.heap.size 72 1 (.slice As k cs) k (cellsV 1 unV (fL k (dirS f))) from own_row_kept ho.out fun gg cur _ hc => hBt.same _ _ (by have := at_lt hc; omega) ((HBV.out.block _ (at_lt hc)).trans hc))
        have HMX := Lib.hid (show Mks W.heap.size ((wr.heap.size + 1) :: bs) X from by rw [← hzV]; exact Mks.push HMV.out (HMV.out.but hBt HX.out) (Nat.le_refl _) (by omega) hdef)
        have HKX := Lib.hid (show Below W.heap.size W X from hBt.below HKV.out (by omega) (Nat.le_refl _))
        have hzX := HKX.out.size
        clear hI hBt hdef hr
        go_wp2_with (at_builtin; refine wpList_append_lies _ rfl _ _ 63 rfl W.heap.size 72 i1 (.int .u16 0) 1 2 Try.underlying63 hi1 hz1 hz2 hz3 rfl (by decide) (.slice As k cs) k _ rfl (HOX.out.alloc _) ⟨X.heap.size, 0, none⟩ 1 1 [.int .u16 (r : Int)] rfl rfl (World.news_of_block (heap_alloc_new _ _)) (by simp [Value.oneCell']) (by decide) (by unfold maxLen; omega) (by omega) (by simp; omega) (X.heap.size + 1) (by simp) ?_; intro g4 cap4 Z hown hgrow _ _; have HBZ := Lib.hid ((HKX.out.alloc HKX.out.size _).grown hgrow (by have := HKX.out.size; simp; omega) (fun k hk => (ownsRow_lt HOX.out hk).1)); have HOZ := Lib.hid hown; have HMZ := Lib.hid (HMX.out.grown HOX.out hgrow); clear hown hgrow)
        refine ⟨⟨_, _, _, _, _, _, _, _, _, _, _, _, _, _, _, _, _, _, _, _, _, _, _, _, ⟨k + 1, by omega, by go_num, HBZ, Lib.hid (by rw [HFN.out]; exact HOZ.out), _, rfl, HMZ⟩, rfl⟩, ?_⟩
        simp [intOf]; omega
    · obtain rfl : k = n := by omega
      go_wp2_with (fail)
      refine leaves_marks (by simp) bs wr hM.out fun W' hW' => ?_
      exact ⟨.slice As k cs, by simp [results, Try.results52, go_sem], _, rfl, own_mono (hW'.own hM.out ho.out) (by omega), hW'.below (fun b hb => by have := (hM.out.at_ b hb).1; omega) (HB.out.trans (hK.out.mono (by omega))) (Nat.le_refl _)⟩
end Go.Proofs.Yticppddghjdmaaa

namespace Go.Proofs.Yticppddghjdmaaa
open Go.RowKit
attribute [local go_sem] Oper.semAt_some
set_option maxRecDepth 100000
set_option linter.unusedVariables false
set_option linter.unusedSimpArgs false

/-- An element stands in another one's list. -/
def EdF (xs : List LsV) (i k : Nat) : Prop := i < xs.length ∧ k ∈ lstF xs i
theorem ord_cb {xs : List LsV} (hok : NmOk xs) {i : Nat} (hi : i < xs.length) (k : Nat) : (ordF xs i).testBit k = true ↔ Cb (EdF xs) i k := by
  unfold ordF
  exact wAll_iff (E := EdF xs) (fun i k h => ⟨h.1, lstF_lt hok i k h.2⟩) (fun i hi k => by
    unfold dirA EdF
    rw [bitsL_tb]
    unfold lstF natsL
    rw [List.mem_map]
    exact ⟨fun h => ⟨hi, h⟩, fun h => h.2⟩) hi k
theorem ord_lt {xs : List LsV} (hok : NmOk xs) (j k : Nat) (hj : j < xs.length) (h : (ordF xs j).testBit k = true) : k < xs.length :=
  Cb.lt (fun i k h => lstF_lt hok i k h.2) ((ord_cb hok hj k).1 h)
theorem ord_po {xs : List LsV} (hok : NmOk xs) (hno : ¬ Loop xs) : Po xs.length (ordF xs) :=
  Po.of (E := EdF xs) (fun i k h => ⟨h.1, lstF_lt hok i k h.2⟩) (fun i hi k => ord_cb hok hi k) (fun i hi => by
    cases e : (ordF xs i).testBit i
    · rfl
    · exact absurd ⟨i, hi, e⟩ hno)
theorem dirS_lt {f : Nat → Nat} (hf : ∀ j, f j < 2 ^ 12) (j : Nat) : dirS f j < 2 ^ 12 := redF_lt _ (hf j)
set_option maxHeartbeats 8000000 in
theorem c_Reduce (A : Option Addr) (c : Nat) (xs : List LsV) (w : World) (h : LsAt w A c xs) : Calls Try.prog 15 #[.slice A xs.length c] w (LsTo w (rdN xs) (setsL (dirS (ordF xs)) xs.length)) := by
  have H := Lib.hid h
  obtain ⟨R, hR⟩ : ∃ R, R = LsTo w (rdN xs) (setsL (dirS (ordF xs)) xs.length) := ⟨_, rfl⟩
  rw [← hR]
  have HRR := Lib.hid hR
  clear hR h
  go_enter Try.func15, Try.ntmps15
  go_wp2_with (fail)
  go_at_call 48
  refine (c_read A c xs w H.out).mono ?_
  rintro e w1 ⟨⟨h0, rfl⟩ | ⟨h0, hl, hok, -, g, rfl, hg, hblk⟩, b1⟩
  · have H0 := Lib.hid h0
    have K1 := Lib.hid b1
    have hne : (rdN xs != 0) = true := by simpa using h0
    have hd0 : (rdN xs == 0) = false := by simpa using h0
    clear h0 b1
    go_wp2_with (fail)
    rw [HRR.out]
    exact ⟨.inl ⟨H0.out, rfl⟩, K1.out⟩
  · have H0 := Lib.hid h0
    have K1 := Lib.hid b1
    have HL := Lib.hid hl
    have HD := Lib.hid (c_directly g xs.length (ordF xs) hl (ordF_lt hl hok) (ord_lt hok) w1 hblk)
    have HDL := Lib.hid (dirS_lt (ordF_lt hl hok))
    clear h0 b1 hblk hl
    go_wp2_with (fail)
    go_at_call 52
    refine HD.out.mono ?_
    rintro e w2 ⟨v2, rfl, o2, b2⟩
    obtain ⟨A2, c2, rfl⟩ := own_shape o2
    have HV := Lib.hid (show Rv 1 unV w2 A2 c2 (fL xs.length (dirS (ordF xs))) by
      obtain ⟨A', c', e', hr'⟩ := own_rv (k := 1) (F := unV) (l := fL xs.length (dirS (ordF xs))) (by rw [fL_len]; exact o2)
      injection e' with e1 _ e2
      rw [e1, e2]; exact hr')
    have K2 := Lib.hid (below_join K1.out b2 K1.out.size)
    have HC := Lib.hid (c_listsOf A2 c2 (fL xs.length (dirS (ordF xs))) (by rw [fL_len]; exact HL.out) (fun x hx => by
      obtain ⟨j, -, rfl⟩ := List.mem_map.1 hx
      exact HDL.out j) w2 HV.out)
    rw [fL_len, listsU_fL] at HC
    clear b2 o2
    go_wp2_with (fail)
    go_at_call 49
    refine HC.out.mono ?_
    rintro e w3 ⟨v, ys, rfl, ho, hm, b3⟩
    have K3 := Lib.hid (below_join K2.out b3 K2.out.size)
    have HO := Lib.hid ho
    have HM := Lib.hid hm
    have hs1 := Lib.hid K2.out.size
    clear b3 ho hm
    go_wp2_with (fail)
    rw [HRR.out, H0.out]
    exact ⟨.inr ⟨rfl, _, ys, rfl, ⟨own_mono HO.out.1 hs1.out, fun y hy => own_mono (HO.out.2 y hy) hs1.out⟩, HM.out⟩, K3.out⟩
set_option maxHeartbeats 16000000 in
theorem c_rrReduce (A : Option Addr) (c : Nat) (xs : List LsV) (w : World) (h : LsAt w A c xs) : Calls Try.prog 16 #[.slice A xs.length c] w (LsTo w (rdN xs) (setsL (dirS (ordF xs)) xs.length)) := by
  have H := Lib.hid h
  have k1 := h.1.1; have k2 := h.1.2.1
  unfold maxLen at k2
  obtain ⟨N, hN⟩ : ∃ N, rdN xs = N := ⟨_, rfl⟩
  have HN := Lib.hid hN
  obtain ⟨R, hR⟩ : ∃ R, R = LsTo w (rdN xs) (setsL (dirS (ordF xs)) xs.length) := ⟨_, rfl⟩
  rw [← hR]
  have HRR := Lib.hid hR
  clear hR hN h
  obtain ⟨i1, hi1, hz1, hz2, hz3⟩ := info_parts li_info
  go_enter Try.func16, Try.ntmps16
  go_wp2_with (fail)
  go_at_call 19
  refine (c_rrValid A c xs w H.out).mono ?_
  rintro e w1 ⟨rfl, b1⟩
  have K1 := Lib.hid b1
  rw [HN.out]
  clear b1
  by_cases h0 : N = 0
  rotate_left
  · have hne : (N != 0) = true := by simpa using h0
    have hd0 : (N == 0) = false := by simpa using h0
    have H0 := Lib.hid h0
    clear h0
    go_wp2_with (fail)
    rw [HRR.out, HN.out]
    exact ⟨.inl ⟨H0.out, rfl⟩, K1.out⟩
  subst h0
  have HZ := Lib.hid (rd_zero HN.out)
  go_wp2_with (fail)
  go_at_call 50
  refine (c_before2 A c xs HZ.out.1 HZ.out.2 w1 (H.out.on K1.out (Nat.le_refl _))).mono ?_
  rintro e w2 ⟨g, rfl, hg, hblk, b2⟩
  have K2 := Lib.hid (below_join K1.out b2 K1.out.size)
  have HBK := Lib.hid hblk
  have hgg := at_lt hblk
  have hww := K2.out.size
  have HGW := Lib.hid (show w.heap.size ≤ g from Nat.le_trans K1.out.size hg)
  clear b2 hblk hg
  go_wp2_with (fail)
  have hG2 := Lib.hid hgg
  clear hgg hww
  go_loopw [6, 20] (fun v i wr => ∃ k : Nat, k ≤ xs.length ∧ i = .int .i64 (k : Int) ∧ Hid (Below w2.heap.size w2 wr) ∧ ∃ ys : List LsV, ys.length = k ∧ Hid (OutL w2.heap.size wr v ys) ∧ Hid (ys.map (·.l) = setsL (dirS (ordF xs)) k)) (fun _ i _ => xs.length - (intOf i).toNat)
  case atStart => exact ⟨0, Nat.zero_le _, rfl, Lib.hid (Below.refl _ _), [], rfl, Lib.hid ⟨World.ownsRow_nil _ _ _ _, fun y hy => by cases hy⟩, Lib.hid rfl⟩
  case round =>
    obtain ⟨k, hk, rfl, hK, ys, hyl, ho, hm⟩ := hrel
    have hki : ((k : Nat) : Int).toNat = k := by omega
    have hBK := box_on HBK.out hK.out (Nat.le_refl _)
    by_cases hlt : k < xs.length
    · have hkl : (k : Int) < ((xs.length : Nat) : Int) := by omega
      have b0 := Bki.at_ (show Bki wr g xs.length (ordF xs) from hBK) hlt
      have hs12 := ordF_lt HZ.out.1 HZ.out.2 k
      have HNX := Lib.hid (show setsL (dirS (ordF xs)) (k + 1) = setsL (dirS (ordF xs)) k ++ [intsN (lst 12 (dirS (ordF xs) k))] from setsL_next _ _)
      have HDS := Lib.hid (show dirS (ordF xs) k = redF (ordF xs) (ordF xs k) (lst 12 (ordF xs k)) from rfl)
      have HLT := Lib.hid (show ∀ i ∈ lst 12 (ordF xs k), i < xs.length from fun i hi => ord_lt HZ.out.2 k i hlt (lst_mem.1 hi).2)
      obtain ⟨s, hs⟩ : ∃ s, ordF xs k = s := ⟨_, rfl⟩
      rw [hs] at b0 hs12 HDS HLT
      obtain ⟨As, cs, rfl⟩ := own_shape ho.out.1
      have hxl := HZ.out.1
      have hln : ys.length ≤ 12 := by omega
      have HYL := Lib.hid hyl
      clear hs hBK hyl
      go_wp2_with (fail)
      go_at_call 51
      refine (c_rrList s hs12 wr).mono ?_
      rintro e w3 ⟨v3, rfl, o3, b3⟩
      have hkk := hK.out.size
      have HRV := Lib.hid (show ∃ A3 c3, v3 = .slice A3 (intsN (lst 12 s)).length c3 ∧ Rv 1 inV w3 A3 c3 (intsN (lst 12 s)) from own_rv (by rw [intsN_len, ← elV_ints]; exact o3))
      obtain ⟨A3, c3, rfl, hrv⟩ := HRV.out
      rw [intsN_len]
      have HRV3 := Lib.hid hrv
      have K3 := Lib.hid (below_join hK.out b3 hkk)
      have O3 := Lib.hid (ho.out.on b3 (Nat.le_refl _))
      obtain ⟨L, hL⟩ : ∃ L, lst 12 s = L := ⟨_, rfl⟩
      have hL12 : L.length ≤ 12 := by rw [← hL]; exact lst_len 12 s
      rw [hL] at HRV3 HDS HLT ⊢
      clear HRV hrv b3 o3 b0 hL
      go_wp2_with (fail)
      go_loopw [8, 33] (fun v i wr => ∃ t : Nat, t ≤ L.length ∧ i = .int .i64 (t : Int) ∧ wr = w3 ∧ v = .int .i64 ((redF (ordF xs) s (L.take t) : Nat) : Int)) (fun _ i _ => L.length - (intOf i).toNat)
      case atStart => exact ⟨0, Nat.zero_le _, rfl, rfl, rfl⟩
      case round =>
        obtain ⟨t, ht, rfl, rfl, rfl⟩ := hrel
        have hti : ((t : Nat) : Int).toNat = t := by omega
        by_cases hlt2 : t < L.length
        · obtain ⟨z, hz⟩ : ∃ z, L[t]? = some z := ⟨_, List.getElem?_eq_getElem hlt2⟩
          have htl : (t : Int) < ((L.length : Nat) : Int) := by omega
          have HZI : (intsN L)[t]? = some (z : Int) := by simp [intsN, hz]
          obtain ⟨pb, o, rfl, -, -⟩ := HRV3.out.at_ HZI
          have y0 := inV_at HRV3.out HZI
          have hzn := HLT.out z (List.mem_of_getElem? hz)
          have hzl : (z : Int) < ((xs.length : Nat) : Int) := by omega
          have y1 := Bki.at_ (show Bki wr g xs.length (ordF xs) from box_on HBK.out K3.out (Nat.le_refl _)) hzn
          have hq := ordF_lt HZ.out.1 HZ.out.2 z
          have hr0 := redF_lt (f := ordF xs) (L.take t) hs12
          have HNT := Lib.hid (show redF (ordF xs) s (L.take (t + 1)) = dif (redF (ordF xs) s (L.take t)) (ordF xs z) by rw [take_snoc hz, redF_snoc])
          obtain ⟨q, hq0⟩ : ∃ q, ordF xs z = q := ⟨_, rfl⟩
          obtain ⟨r, hr1⟩ : ∃ r, redF (ordF xs) s (L.take t) = r := ⟨_, rfl⟩
          rw [hq0] at y1 hq HNT
          rw [hr1] at hr0 HNT ⊢
          have hdf := bits_dif64 r q (by omega) (by omega)
          obtain ⟨r2, hr2⟩ : ∃ r2, dif r q = r2 := ⟨_, rfl⟩
          rw [hr2] at hdf HNT
          clear hz HZI hq0 hr1 hr2
          go_wp2_with (fail)
          go_roundw
          case rel => exact ⟨t + 1, by omega, by go_num, trivial, by rw [HNT.out]⟩
          case measure => simp only [intOf]; omega
        · obtain rfl : t = L.length := by omega
          obtain ⟨r, hr⟩ : ∃ r, redF (ordF xs) s L = r := ⟨_, rfl⟩
          have hr12 : r < 2 ^ 12 := by rw [← hr]; exact redF_lt _ hs12
          rw [List.take_of_length_le (Nat.le_refl _), hr]
          rw [hr] at HDS
          rw [HDS.out] at HNX
          clear hr
          go_wp2_with (fail)
          go_at_call 51
          refine (c_rrList r hr12 wr).mono ?_
          rintro e w4 ⟨v4, rfl, o4, b4⟩
          obtain ⟨A4, c4, rfl⟩ := own_shape o4
          have K4 := Lib.hid (below_join K3.out b4 K3.out.size)
          have O4 := Lib.hid (O3.out.on b4 (Nat.le_refl _))
          have Y4 := Lib.hid (show w4.ownsRow w2.heap.size 3 1 (.slice A4 (intsN (lst 12 r)).length c4) (intsN (lst 12 r)).length (cellsV 1 inV (intsN (lst 12 r))) by
            rw [intsN_len, ← elV_ints]; exact own_mono o4 K3.out.size)
          have hz4 := K4.out.size
          obtain ⟨l', hl'⟩ : ∃ l', intsN (lst 12 r) = l' := ⟨_, rfl⟩
          have hll : (lst 12 r).length = l'.length := by rw [← hl', intsN_len]
          rw [hll]
          rw [hl'] at Y4 HNX
          clear b4 o4 hl' hll
          go_wp2_with (at_builtin; refine wpList_append_lies _ rfl _ _ 22 rfl w2.heap.size 33 i1 (.slice none 0 0) 1 24 Try.underlying22 hi1 hz1 hz2 hz3 rfl (by decide) (.slice As ys.length cs) ys.length _ rfl (O4.out.1.alloc _) ⟨w4.heap.size, 0, none⟩ 1 1 [.slice A4 l'.length c4] rfl rfl (World.news_of_block (heap_alloc_new _ _)) (by simp [Value.oneCell']) (by decide) (by unfold maxLen; omega) (by omega) (by simp; omega) (w4.heap.size + 1) (by simp) ?_; intro g4 cap4 Z hown hgrow _ _; have HBZ := Lib.hid ((K4.out.alloc K4.out.size _).grown hgrow (by have := K4.out.size; simp; omega) (fun k hk => (ownsRow_lt O4.out.1 hk).1)); have HOZ := Lib.hid (O4.out.push ⟨A4, c4, l'⟩ Y4.out hown hgrow); clear hown hgrow)
          go_roundw
          case rel => exact ⟨k + 1, by omega, by go_num, HBZ, _, by simp [HYL.out], HOZ, Lib.hid (by rw [List.map_append, hm.out, HNX.out]; rfl)⟩
          case measure => simp only [intOf]; omega
    · obtain rfl : k = xs.length := by omega
      have HW2 := Lib.hid (show w.heap.size ≤ w2.heap.size from K2.out.size)
      go_wp2_with (fail)
      rw [HRR.out, HN.out]
      exact ⟨.inr ⟨rfl, _, ys, rfl, ⟨own_mono ho.out.1 HW2.out, fun y hy => own_mono (ho.out.2 y hy) HW2.out⟩, hm.out⟩, below_join K2.out hK.out HW2.out⟩
end Go.Proofs.Yticppddghjdmaaa

namespace Go.Proofs.Yticppddghjdmaaa
open Go.RowKit
attribute [local go_sem] Oper.semAt_some
set_option maxRecDepth 100000
set_option linter.unusedVariables false
set_option linter.unusedSimpArgs false

theorem idB_iff {f : Nat → Nat} {n s : Nat} (hn : n ≤ 12) (hs : s < 2 ^ n) : idB f s = true ↔ Idl n f s := by
  unfold idB Idl
  rw [List.all_eq_true]
  constructor
  · intro h i hi hsi k hk
    exact inside_iff.1 (of_decide_eq_true (h i (lst_mem.2 ⟨by omega, hsi⟩))) k hk
  · intro h i hi
    have hsi := (lst_mem.1 hi).2
    have hin : i < n := by
      rcases Nat.lt_or_ge i n with h | h
      · exact h
      · rw [Nat.testBit_lt_two_pow (Nat.lt_of_lt_of_le hs (Nat.pow_le_pow_right (by omega) h))] at hsi
        cases hsi
    exact decide_eq_true (inside_iff.2 (h i hin hsi))
theorem idB_direct {xs : List LsV} {s : Nat} (hn : xs.length ≤ 12) (hok : NmOk xs) (hs : s < 2 ^ xs.length) : idB (ordF xs) s = true ↔ ∀ i, i < xs.length → ∀ k ∈ lstF xs i, s.testBit i = true → s.testBit k = true := by
  rw [idB_iff hn hs]
  exact (idl_direct (E := EdF xs) (fun i k => Iff.rfl) (fun i k h => lstF_lt hok i k h.2) (fun i hi k => ord_cb hok hi k)).symm
theorem off_bit64 (s k : Nat) (hs : s < 65536) (hk : k ≤ 64) : (bits BinOp.and IntKind.i64 ((s : Int) / 2 ^ k) 1 == 0) = !s.testBit k := by
  have e1 : ((s : Int) / 2 ^ k) = ((s / 2 ^ k : Nat) : Int) := by simp
  have hlt : s / 2 ^ k < 65536 := Nat.lt_of_le_of_lt (Nat.div_le_self _ _) hs
  rw [e1, show (1 : Int) = ((1 : Nat) : Int) from rfl, bits_and64 _ 1 hlt (by decide), show (0 : Int) = ((0 : Nat) : Int) from rfl]
  have h1 := bit_one s k
  rw [Nat.and_one_is_mod] at h1 ⊢
  cases e : s.testBit k
  · rw [e] at h1
    have : s / 2 ^ k % 2 = 0 := by
      rcases Nat.mod_two_eq_zero_or_one (s / 2 ^ k) with h | h
      · exact h
      · exact absurd (h1.1 h) (by simp)
    rw [this]; rfl
  · rw [e] at h1
    rw [h1.2 rfl]; rfl
set_option maxHeartbeats 16000000 in
theorem c_rrIdeal (A : Option Addr) (c : Nat) (xs : List LsV) (hn : xs.length ≤ 12) (hok : NmOk xs) (s : Nat) (hs : s < 2 ^ xs.length) (w : World) (h : LsAt w A c xs) :
    Calls Try.prog 57 #[.slice A xs.length c, .int .i64 (s : Int)] w fun e w' => e = .returned (.bool (idB (ordF xs) s)) ∧ w' = w := by
  have H := Lib.hid h
  have HO := Lib.hid hok
  have HD := Lib.hid (idB_direct hn hok hs)
  have hs12 : s < 2 ^ 12 := Nat.lt_of_lt_of_le hs (Nat.pow_le_pow_right (by omega) hn)
  obtain ⟨r, hr⟩ : ∃ r, idB (ordF xs) s = r := ⟨_, rfl⟩
  rw [hr] at HD ⊢
  have k1 := h.1.1; have k2 := h.1.2.1
  unfold maxLen at k2
  clear h hok hs hr
  go_enter Try.func57, Try.ntmps57
  go_wp2_with (fail)
  go_loopw [11] (fun i wr => ∃ k : Nat, k ≤ xs.length ∧ i = .int .i64 (k : Int) ∧ w = wr ∧ Hid (∀ j, j < k → ∀ z ∈ lstF xs j, s.testBit j = true → s.testBit z = true)) (fun i _ => xs.length - (intOf i).toNat)
  case atStart => exact ⟨0, Nat.zero_le _, rfl, rfl, Lib.hid (fun j hj => absurd hj (by omega))⟩
  case round =>
    obtain ⟨k, hk, rfl, rfl, hP⟩ := hrel
    have hki : ((k : Nat) : Int).toNat = k := by omega
    by_cases hlt : k < xs.length
    · have hkl : (k : Int) < ((xs.length : Nat) : Int) := by omega
      obtain ⟨x, hx⟩ : ∃ x, xs[k]? = some x := ⟨_, List.getElem?_eq_getElem hlt⟩
      have HX := Lib.hid hx
      obtain ⟨pb, o, rfl, -, -⟩ := H.out.1.at_ hx
      have b0 := ls_at H.out.1 hx
      have HXL := Lib.hid (H.out.2 x (List.mem_of_getElem? hx))
      have HLF := Lib.hid (show lstF xs k = natsL x.l by unfold lstF lAt; rw [hx]; rfl)
      have HZX := Lib.hid (HO.out k x hx)
      have hxc := HXL.out.1; have hxc2 := HXL.out.2.1
      unfold maxLen at hxc2
      have hbit := has_bit64 s k (by omega) (by omega)
      rcases hb : s.testBit k with _ | _
      · have HB := Lib.hid hb
        rw [hb] at hbit
        have HPN := Lib.hid (show ∀ j, j < k + 1 → ∀ z ∈ lstF xs j, s.testBit j = true → s.testBit z = true from fun j hj z hz hj2 => by
          rcases Nat.lt_or_ge j k with h | h
          · exact hP.out j h z hz hj2
          · obtain rfl : j = k := by omega
            rw [hb] at hj2; cases hj2)
        clear hx hb
        go_wp2_with (fail)
        go_loopw [18] (fun i wr => ∃ t : Nat, t ≤ x.l.length ∧ i = .int .i64 (t : Int) ∧ w = wr) (fun i _ => x.l.length - (intOf i).toNat)
        case atStart => exact ⟨0, Nat.zero_le _, rfl, rfl⟩
        case round =>
          obtain ⟨t, ht, rfl, rfl⟩ := hrel
          have hti : ((t : Nat) : Int).toNat = t := by omega
          by_cases hlt2 : t < x.l.length
          · obtain ⟨z, hz⟩ : ∃ z, x.l[t]? = some z := ⟨_, List.getElem?_eq_getElem hlt2⟩
            have htl : (t : Int) < ((x.l.length : Nat) : Int) := by omega
            have HXA := HXL.out
            obtain ⟨pb2, o2, e2, -, -⟩ := HXA.at_ hz
            rw [e2] at HXA
            have y0 := inV_at HXA hz
            have hzb := HZX.out z (List.mem_of_getElem? hz)
            obtain ⟨u, rfl⟩ : ∃ u : Nat, z = u := ⟨z.toNat, by omega⟩
            rw [e2]
            clear hz HXA
            go_wp2_with (fail)
            go_roundw
            case rel => exact ⟨t + 1, by omega, by go_num, trivial⟩
            case measure => simp only [intOf]; omega
          · obtain rfl : t = x.l.length := by omega
            go_wp2_with (fail)
            go_roundw
            case rel => exact ⟨k + 1, by omega, by go_num, trivial, HPN⟩
            case measure => simp only [intOf]; omega
      · have HB := Lib.hid hb
        rw [hb] at hbit
        clear hx hb
        go_wp2_with (fail)
        go_loopw [18] (fun i wr => ∃ t : Nat, t ≤ x.l.length ∧ i = .int .i64 (t : Int) ∧ w = wr ∧ Hid (∀ q, q < t → ∀ z, x.l[q]? = some z → s.testBit z.toNat = true)) (fun i _ => x.l.length - (intOf i).toNat)
        case atStart => exact ⟨0, Nat.zero_le _, rfl, rfl, Lib.hid (fun q hq => absurd hq (by omega))⟩
        case round =>
          obtain ⟨t, ht, rfl, rfl, hQ⟩ := hrel
          have hti : ((t : Nat) : Int).toNat = t := by omega
          by_cases hlt2 : t < x.l.length
          · obtain ⟨z, hz⟩ : ∃ z, x.l[t]? = some z := ⟨_, List.getElem?_eq_getElem hlt2⟩
            have htl : (t : Int) < ((x.l.length : Nat) : Int) := by omega
            have HXA := HXL.out
            obtain ⟨pb2, o2, e2, -, -⟩ := HXA.at_ hz
            rw [e2] at HXA
            have y0 := inV_at HXA hz
            have hzb := HZX.out z (List.mem_of_getElem? hz)
            have HZ := Lib.hid hz
            obtain ⟨u, rfl⟩ : ∃ u : Nat, z = u := ⟨z.toNat, by omega⟩
            have hoff := off_bit64 s u (by omega) (by omega)
            rw [e2]
            rcases hb2 : s.testBit u with _ | _
            · have HRF := Lib.hid (show false = r by
                cases r
                · rfl
                · have := HD.out.1 rfl k hlt u (by rw [HLF.out]; unfold natsL; exact List.mem_map.2 ⟨_, List.mem_of_getElem? HZ.out, by simp⟩) HB.out
                  rw [hb2] at this; cases this)
              rw [hb2] at hoff
              clear hz HXA hb2
              go_wp2_with (fail)
              go_ret
              exact ⟨by rw [HRF.out]; rfl, rfl⟩
            · have HQN := Lib.hid (show ∀ q, q < t + 1 → ∀ z, x.l[q]? = some z → s.testBit z.toNat = true from fun q hq z hz2 => by
                rcases Nat.lt_or_ge q t with h | h
                · exact hQ.out q h z hz2
                · obtain rfl : q = t := by omega
                  rw [HZ.out] at hz2
                  injection hz2 with hz2
                  rw [← hz2]; simpa using hb2)
              rw [hb2] at hoff
              clear hz HXA hb2
              go_wp2_with (fail)
              go_roundw
              case rel => exact ⟨t + 1, by omega, by go_num, trivial, HQN⟩
              case measure => simp only [intOf]; omega
          · obtain rfl : t = x.l.length := by omega
            have HPN := Lib.hid (show ∀ j, j < k + 1 → ∀ z ∈ lstF xs j, s.testBit j = true → s.testBit z = true from fun j hj z hz hj2 => by
              rcases Nat.lt_or_ge j k with h | h
              · exact hP.out j h z hz hj2
              · obtain rfl : j = k := by omega
                rw [HLF.out] at hz
                unfold natsL at hz
                obtain ⟨y, hy, rfl⟩ := List.mem_map.1 hz
                obtain ⟨q, hq⟩ := List.getElem?_of_mem hy
                exact hQ.out q (List.getElem?_eq_some_iff.1 hq).1 y hq)
            go_wp2_with (fail)
            go_roundw
            case rel => exact ⟨k + 1, by omega, by go_num, trivial, HPN⟩
            case measure => simp only [intOf]; omega
    · obtain rfl : k = xs.length := by omega
      have HRT := Lib.hid (show true = r from (HD.out.2 hP.out).symm)
      go_wp2_with (fail)
      go_ret
      exact ⟨by rw [HRT.out]; rfl, rfl⟩
end Go.Proofs.Yticppddghjdmaaa

namespace Go.Proofs.Yticppddghjdmaaa
open Go.RowKit
attribute [local go_sem] Oper.semAt_some
set_option maxRecDepth 100000
set_option linter.unusedVariables false
set_option linter.unusedSimpArgs false

theorem enL_next (b : Nat → Nat) (s k : Nat) : enL (k + 1) b s = enL k b s ++ if enB b s k = true then [k] else [] := by
  unfold enL
  rw [List.range_succ, List.filter_append]
  by_cases h : enB b s k = true <;> simp [h]
theorem enL_len (b : Nat → Nat) (s k : Nat) : (enL k b s).length ≤ k := by
  unfold enL
  exact Nat.le_trans (List.length_filter_le _ _) (by simp)
theorem enB_put {xs : List LsV} (hn : xs.length ≤ 12) (hok : NmOk xs) (hno : ¬ Loop xs) {s i : Nat} (hs : s < 2 ^ xs.length) (hi : i < xs.length) (hid : idB (ordF xs) s = true) (h0 : s.testBit i = false) : enB (ordF xs) s i = idB (ordF xs) (s ||| 1 <<< i) := by
  rw [Bool.eq_iff_iff, enB_idl (ord_po hok hno) ((idB_iff hn hs).1 hid) hi, idB_iff hn (put_lt hs hi)]
  simp [h0]
set_option maxHeartbeats 16000000 in
theorem c_rrEnabled (A : Option Addr) (c : Nat) (xs : List LsV) (hn : xs.length ≤ 12) (hok : NmOk xs) (hno : ¬ Loop xs) (s : Nat) (hs : s < 2 ^ xs.length) (hid : idB (ordF xs) s = true) (w : World) (h : LsAt w A c xs) :
    Calls Try.prog 61 #[.slice A xs.length c, .int .i64 (s : Int)] w fun e w' => ∃ v, e = .returned v ∧ w'.ownsRow w.heap.size 3 1 v (enL xs.length (ordF xs) s).length (elV (enL xs.length (ordF xs) s)) ∧ Below w.heap.size w w' := by
  have H := Lib.hid h
  have HOK := Lib.hid hok
  have HPT := Lib.hid (fun (i : Nat) (hi : i < xs.length) (h0 : s.testBit i = false) => enB_put hn hok hno hs hi hid h0)
  have HPL := Lib.hid (fun (i : Nat) (hi : i < xs.length) => put_lt hs hi)
  have hs12 : s < 2 ^ 12 := Nat.lt_of_lt_of_le hs (Nat.pow_le_pow_right (by omega) hn)
  have k1 := h.1.1; have k2 := h.1.2.1
  unfold maxLen at k2
  clear h hok hs hid hno
  obtain ⟨i1, hi1, hz1, hz2, hz3⟩ := info_parts int_info
  go_enter Try.func61, Try.ntmps61
  go_wp2_with (fail)
  go_loopw [5, 9] (fun v i wr => ∃ k : Nat, k ≤ xs.length ∧ i = .int .i64 (k : Int) ∧ Hid (Below w.heap.size w wr) ∧ Hid (wr.ownsRow w.heap.size 3 1 v (enL k (ordF xs) s).length (elV (enL k (ordF xs) s)))) (fun _ i _ => xs.length - (intOf i).toNat)
  case atStart => exact ⟨0, Nat.zero_le _, rfl, Lib.hid (Below.refl _ _), Lib.hid (World.ownsRow_nil _ _ _ _)⟩
  case round =>
    obtain ⟨k, hk, rfl, hK, ho⟩ := hrel
    have hki : ((k : Nat) : Int).toNat = k := by omega
    by_cases hlt : k < xs.length
    · have hkl : (k : Int) < ((xs.length : Nat) : Int) := by omega
      obtain ⟨nn, hnn⟩ : ∃ m, m = (enL k (ordF xs) s).length := ⟨_, rfl⟩
      have hln : nn ≤ 12 := by rw [hnn]; exact Nat.le_trans (enL_len _ s k) (by omega)
      rw [← hnn] at ho
      have HNN := Lib.hid hnn
      obtain ⟨As, cs, rfl⟩ := own_shape ho.out
      have hz4 := hK.out.size
      have hoff := off_bit64 s k (by omega) (by omega)
      clear hnn
      rcases hb : s.testBit k with _ | _
      · have hor := bits_or64 s (1 <<< k) (by omega) (by rw [Nat.one_shiftLeft]; exact Nat.lt_of_lt_of_le (Nat.pow_lt_pow_right (by omega) (show k < 12 by omega)) (by decide))
        have hsh := shl64 (show k < 12 by omega)
        have HPK := Lib.hid (HPT.out k hlt hb)
        have HC := Lib.hid (c_rrIdeal A c xs hn HOK.out (s ||| 1 <<< k) (HPL.out k hlt) wr (H.out.on hK.out (Nat.le_refl _)))
        obtain ⟨b1, hb1⟩ : ∃ b1, 1 <<< k = b1 := ⟨_, rfl⟩
        rw [hb1] at hor hsh HPK HC
        obtain ⟨t, ht⟩ : ∃ t, s ||| b1 = t := ⟨_, rfl⟩
        rw [ht] at hor HPK HC
        rw [hb] at hoff
        obtain ⟨r, hr⟩ : ∃ r, idB (ordF xs) t = r := ⟨_, rfl⟩
        rw [hr] at HPK HC
        have HNX := Lib.hid (show enL (k + 1) (ordF xs) s = enL k (ordF xs) s ++ if r = true then [k] else [] by rw [enL_next, HPK.out])
        clear hb hb1 ht hr
        go_wp2_with (fail)
        go_at_call 57
        refine HC.out.mono ?_
        rintro e w1 ⟨rfl, hw1⟩
        rw [hw1]
        clear hw1 w1
        cases r
        · have HO := Lib.hid (show wr.ownsRow w.heap.size 3 1 (.slice As nn cs) (enL (k + 1) (ordF xs) s).length (elV (enL (k + 1) (ordF xs) s)) by
            rw [HNX.out]
            simp only [Bool.false_eq_true, if_false, List.append_nil]
            rw [← HNN.out]; exact ho.out)
          go_wp2_with (fail)
          go_roundw
          case rel => exact ⟨k + 1, by omega, by go_num, hK, HO⟩
          case measure => simp only [intOf]; omega
        · go_wp2_with (at_builtin; refine wpList_append_lies _ rfl _ _ 33 rfl w.heap.size 3 i1 (.int .i64 0) 1 8 Try.underlying33 hi1 hz1 hz2 hz3 rfl (by decide) (.slice As nn cs) nn _ rfl (ho.out.alloc _) ⟨wr.heap.size, 0, none⟩ 1 1 [.int .i64 (k : Int)] rfl rfl (World.news_of_block (heap_alloc_new _ _)) (by simp [Value.oneCell']) (by decide) (by unfold maxLen; omega) (by omega) (by simp; omega) (wr.heap.size + 1) (by simp) ?_; intro g4 cap4 Z hown hgrow _ _; have HBZ := Lib.hid ((hK.out.alloc hK.out.size _).grown hgrow (by have := hK.out.size; simp; omega) (fun k hk => (ownsRow_lt ho.out hk).1)); have HOZ := Lib.hid hown; clear hown hgrow)
          have HO := Lib.hid (show Z.ownsRow w.heap.size 3 1 (.slice (some ⟨g4, 0, none⟩) (nn + 1) cap4) (enL (k + 1) (ordF xs) s).length (elV (enL (k + 1) (ordF xs) s)) by
            rw [HNX.out]
            simp only [if_true]
            rw [List.length_append, List.length_singleton, ← HNN.out, elV_snoc]
            exact HOZ.out)
          go_roundw
          case rel => exact ⟨k + 1, by omega, by go_num, HBZ, HO⟩
          case measure => simp only [intOf]; omega
      · have HO := Lib.hid (show wr.ownsRow w.heap.size 3 1 (.slice As nn cs) (enL (k + 1) (ordF xs) s).length (elV (enL (k + 1) (ordF xs) s)) by
          rw [enL_next, if_neg (by unfold enB; rw [hb]; simp), List.append_nil, ← HNN.out]; exact ho.out)
        rw [hb] at hoff
        clear hb
        go_wp2_with (fail)
        go_roundw
        case rel => exact ⟨k + 1, by omega, by go_num, hK, HO⟩
        case measure => simp only [intOf]; omega
    · obtain rfl : k = xs.length := by omega
      go_wp2_with (fail)
      go_ret
      exact ⟨_, rfl, ho.out, hK.out⟩
end Go.Proofs.Yticppddghjdmaaa

namespace Go.Proofs.Yticppddghjdmaaa
open Go.RowKit
attribute [local go_sem] Oper.semAt_some
set_option maxRecDepth 100000
set_option linter.unusedVariables false
set_option linter.unusedSimpArgs false

theorem lst_cut {n s : Nat} (hs : s < 2 ^ n) : ∀ j, lst (n + j) s = lst n s
  | 0 => rfl
  | j + 1 => by
    rw [show n + (j + 1) = (n + j) + 1 by omega, lst_next, lst_cut hs j, Nat.testBit_lt_two_pow (Nat.lt_of_lt_of_le hs (Nat.pow_le_pow_right (by omega) (by omega)))]
    simp
theorem lst_en {b : Nat → Nat} {n s : Nat} (hn : n ≤ 12) : lst 12 (setB (enB b s) n) = enL n b s := by
  have := lst_cut (setB_lt (enB b s) n) (12 - n)
  rw [show n + (12 - n) = 12 by omega] at this
  rw [this, lst_setB]; rfl
/-- Whether a number is an ideal, for IsIdeal. -/
noncomputable def isA (xs : List LsV) (x : Int) : Bool := if askN xs x = 0 then idB (ordF xs) x.toNat else false
/-- The error of Enabled. -/
noncomputable def enN (xs : List LsV) (x : Int) : Int := if askN xs x = 0 then (if idB (ordF xs) x.toNat = true then 0 else 13) else askN xs x
/-- What Ideals, Enabled and Nth answer. -/
def NmTo (w : World) (n : Int) (L : List Nat) (e : Ending) (w' : World) : Prop :=
  ((n ≠ 0 ∧ e = .returned (.tuple #[.slice none 0 0, .int .i64 n])) ∨ (n = 0 ∧ ∃ v, e = .returned (.tuple #[v, .int .i64 0]) ∧ w'.ownsRow w.heap.size 3 1 v L.length (elV L))) ∧ Below w.heap.size w w'
theorem ask_rd {xs : List LsV} {x : Int} (h : rdN xs ≠ 0) : askN xs x = rdN xs := by unfold askN; rw [if_pos h]
theorem ask_in {xs : List LsV} {x : Int} (h : rdN xs = 0) (h2 : 0 ≤ x ∧ x < ((2 ^ xs.length : Nat) : Int)) : askN xs x = 0 := by unfold askN; rw [if_neg (by simp [h]), if_pos h2]
theorem ask_out {xs : List LsV} {x : Int} (h : rdN xs = 0) (h2 : ¬ (0 ≤ x ∧ x < ((2 ^ xs.length : Nat) : Int))) : askN xs x = 2 := by unfold askN; rw [if_neg (by simp [h]), if_neg h2]
theorem ask_zero {xs : List LsV} {x : Int} (h : askN xs x = 0) : rdN xs = 0 ∧ 0 ≤ x ∧ x < ((2 ^ xs.length : Nat) : Int) := by
  unfold askN at h
  split at h
  · rename_i h0; exact absurd h h0
  · rename_i h0
    split at h
    · rename_i h1; exact ⟨Classical.not_not.1 h0, h1⟩
    · cases h
open Classical in
theorem rd_loop {xs : List LsV} (h : rdN xs = 0) : ¬ Loop xs := by
  intro hl
  unfold rdN at h
  split at h
  · cases h
  · split at h
    · cases h
    · exact absurd h (by decide)
set_option maxHeartbeats 8000000 in
theorem c_IsIdeal (A : Option Addr) (c : Nat) (xs : List LsV) (x : Int) (w : World) (h : LsAt w A c xs) : Calls Try.prog 21 #[.slice A xs.length c, .int .i64 x] w fun e w' => e = .returned (.tuple #[.bool (isA xs x), .int .i64 (askN xs x)]) ∧ Below w.heap.size w w' := by
  have H := Lib.hid h
  obtain ⟨N, hN⟩ : ∃ N, askN xs x = N := ⟨_, rfl⟩
  obtain ⟨r, hr⟩ : ∃ r, isA xs x = r := ⟨_, rfl⟩
  have HN := Lib.hid hN
  have HR := Lib.hid hr
  rw [hN, hr]
  clear hN hr h
  go_enter Try.func21, Try.ntmps21
  go_wp2_with (fail)
  go_at_call 48
  refine (c_read A c xs w H.out).mono ?_
  rintro e w1 ⟨⟨h0, rfl⟩ | ⟨h0, hl, hok, -, g, rfl, hg, hblk⟩, b1⟩
  · have K1 := Lib.hid b1
    have HNN := Lib.hid (show N = rdN xs by rw [← HN.out]; exact ask_rd h0)
    have HRR := Lib.hid (show r = false by rw [← HR.out]; unfold isA; rw [if_neg (by rw [ask_rd h0]; exact h0)])
    have hne : (rdN xs != 0) = true := by simpa using h0
    have hd0 : (rdN xs == 0) = false := by simpa using h0
    clear h0 b1
    go_wp2_with (fail)
    go_ret2
    exact ⟨by rw [HNN.out, HRR.out]; rfl, K1.out⟩
  · have H0 := Lib.hid h0
    have K1 := Lib.hid b1
    have HL := Lib.hid hl
    have HOK := Lib.hid hok
    have HBK := Lib.hid hblk
    obtain ⟨q, hq⟩ : ∃ q : Bool, q = true ↔ 0 ≤ x ∧ x < 2 ^ xs.length := ⟨decide (0 ≤ x ∧ x < 2 ^ xs.length), by simp⟩
    obtain ⟨y, hy⟩ : ∃ y, y = if q = true then x else 0 := ⟨_, rfl⟩
    have HC := Lib.hid (c_setOf (some ⟨g, 0, none⟩) xs.length xs.length hl x y q hq hy w1)
    have hp : (2 : Int) ^ xs.length = ((2 ^ xs.length : Nat) : Int) := by simp
    rw [hp] at hq
    have HQ := Lib.hid hq
    have HY := Lib.hid hy
    clear h0 b1 hl hok hblk hq hy hp
    go_wp2_with (fail)
    go_at_call 54
    refine HC.out.mono ?_
    rintro e w2 ⟨rfl, hw2⟩
    rw [hw2]
    clear hw2 w2
    cases q
    · have HNN := Lib.hid (show N = 2 by rw [← HN.out]; exact ask_out H0.out (fun h => by have := HQ.out.2 h; cases this))
      have HRR := Lib.hid (show r = false by rw [← HR.out]; unfold isA; rw [if_neg (by rw [HN.out, HNN.out]; decide)])
      go_wp2_with (fail)
      go_ret2
      exact ⟨by rw [HNN.out, HRR.out]; rfl, K1.out⟩
    · have hin := HQ.out.1 rfl
      obtain ⟨s, rfl⟩ : ∃ s : Nat, x = s := ⟨x.toNat, by omega⟩
      obtain rfl : y = s := by rw [HY.out]; rfl
      have HNN := Lib.hid (show N = 0 by rw [← HN.out]; exact ask_in H0.out hin)
      have HRR := Lib.hid (show r = idB (ordF xs) s by rw [← HR.out]; unfold isA; rw [if_pos (by rw [HN.out, HNN.out])]; simp)
      have HCI := Lib.hid (c_isIdeal g xs.length (ordF xs) HL.out (ordF_lt HL.out HOK.out) s (by omega) w1 HBK.out)
      clear hin
      go_wp2_with (fail)
      go_at_call 55
      refine HCI.out.mono ?_
      rintro e w3 ⟨rfl, b3⟩
      have K3 := Lib.hid (below_join K1.out b3 K1.out.size)
      clear b3
      go_wp2_with (fail)
      go_ret2
      exact ⟨by rw [HNN.out, HRR.out]; rfl, K3.out⟩
set_option maxHeartbeats 8000000 in
theorem c_rrIsIdeal (A : Option Addr) (c : Nat) (xs : List LsV) (x : Int) (w : World) (h : LsAt w A c xs) : Calls Try.prog 22 #[.slice A xs.length c, .int .i64 x] w fun e w' => e = .returned (.tuple #[.bool (isA xs x), .int .i64 (askN xs x)]) ∧ Below w.heap.size w w' := by
  have H := Lib.hid h
  obtain ⟨N, hN⟩ : ∃ N, askN xs x = N := ⟨_, rfl⟩
  obtain ⟨r, hr⟩ : ∃ r, isA xs x = r := ⟨_, rfl⟩
  have HN := Lib.hid hN
  have HR := Lib.hid hr
  have HA := Lib.hid (c_asked A c xs x w h)
  rw [hN] at HA ⊢
  rw [hr]
  clear hN hr h
  go_enter Try.func22, Try.ntmps22
  go_wp2_with (fail)
  go_at_call 56
  refine HA.out.mono ?_
  rintro e w1 ⟨rfl, b1⟩
  have K1 := Lib.hid b1
  clear b1
  by_cases h0 : N = 0
  rotate_left
  · have hne : (N != 0) = true := by simpa using h0
    have hd0 : (N == 0) = false := by simpa using h0
    have HRR := Lib.hid (show r = false by rw [← HR.out]; unfold isA; rw [if_neg (by rw [HN.out]; exact h0)])
    clear h0
    go_wp2_with (fail)
    go_ret2
    exact ⟨by rw [HRR.out]; rfl, K1.out⟩
  · subst h0
    obtain ⟨hr0, hx0, hx1⟩ := ask_zero HN.out
    have HZ := Lib.hid (rd_zero hr0)
    obtain ⟨s, rfl⟩ : ∃ s : Nat, x = s := ⟨x.toNat, by omega⟩
    have HRR := Lib.hid (show r = idB (ordF xs) s by rw [← HR.out]; unfold isA; rw [if_pos HN.out]; simp)
    have HC := Lib.hid (c_rrIdeal A c xs HZ.out.1 HZ.out.2 s (by omega) w1 (H.out.on K1.out (Nat.le_refl _)))
    clear hr0 hx0 hx1
    go_wp2_with (fail)
    go_at_call 57
    refine HC.out.mono ?_
    rintro e w3 ⟨rfl, hw3⟩
    rw [hw3]
    clear hw3 w3
    go_wp2_with (fail)
    go_ret2
    exact ⟨by rw [HRR.out]; rfl, K1.out⟩
set_option maxHeartbeats 8000000 in
theorem c_Enabled (A : Option Addr) (c : Nat) (xs : List LsV) (x : Int) (w : World) (h : LsAt w A c xs) : Calls Try.prog 26 #[.slice A xs.length c, .int .i64 x] w (NmTo w (enN xs x) (enL xs.length (ordF xs) x.toNat)) := by
  have H := Lib.hid h
  obtain ⟨N, hN⟩ : ∃ N, enN xs x = N := ⟨_, rfl⟩
  have HN := Lib.hid hN
  rw [hN]
  obtain ⟨R, hR⟩ : ∃ R, R = NmTo w N (enL xs.length (ordF xs) x.toNat) := ⟨_, rfl⟩
  rw [← hR]
  have HRR := Lib.hid hR
  clear hN h hR
  have HE := Lib.hid (show ∀ (X : World) (n : Int), N = n → n ≠ 0 → Below w.heap.size w X → R (.returned (.tuple #[.slice none 0 0, .int .i64 n])) X from fun X n h h2 hb => by rw [HRR.out, h]; exact ⟨.inl ⟨h2, rfl⟩, hb⟩)
  go_enter Try.func26, Try.ntmps26
  go_wp2_with (fail)
  go_at_call 48
  refine (c_read A c xs w H.out).mono ?_
  rintro e w1 ⟨⟨h0, rfl⟩ | ⟨h0, hl, hok, -, g, rfl, hg, hblk⟩, b1⟩
  · have K1 := Lib.hid b1
    have H0 := Lib.hid h0
    have HNN := Lib.hid (show N = rdN xs by rw [← HN.out]; unfold enN; rw [if_neg (by rw [ask_rd h0]; exact h0)]; exact ask_rd h0)
    have hne : (rdN xs != 0) = true := by simpa using h0
    have hd0 : (rdN xs == 0) = false := by simpa using h0
    clear h0 b1
    go_wp2_with (fail)
    exact HE.out _ _ HNN.out H0.out K1.out
  · have H0 := Lib.hid h0
    have K1 := Lib.hid b1
    have HL := Lib.hid hl
    have HOK := Lib.hid hok
    have HBK := Lib.hid hblk
    obtain ⟨q, hq⟩ : ∃ q : Bool, q = true ↔ 0 ≤ x ∧ x < 2 ^ xs.length := ⟨decide (0 ≤ x ∧ x < 2 ^ xs.length), by simp⟩
    obtain ⟨y, hy⟩ : ∃ y, y = if q = true then x else 0 := ⟨_, rfl⟩
    have HC := Lib.hid (c_setOf (some ⟨g, 0, none⟩) xs.length xs.length hl x y q hq hy w1)
    have hp : (2 : Int) ^ xs.length = ((2 ^ xs.length : Nat) : Int) := by simp
    rw [hp] at hq
    have HQ := Lib.hid hq
    have HY := Lib.hid hy
    clear h0 b1 hl hok hblk hq hy hp
    go_wp2_with (fail)
    go_at_call 54
    refine HC.out.mono ?_
    rintro e w2 ⟨rfl, hw2⟩
    rw [hw2]
    clear hw2 w2
    cases q
    · have HNN := Lib.hid (show N = 2 by
        have h2 := ask_out H0.out (fun h => by have := HQ.out.2 h; cases this)
        rw [← HN.out]; unfold enN; rw [if_neg (by rw [h2]; decide), h2])
      go_wp2_with (fail)
      exact HE.out _ _ HNN.out (by decide) K1.out
    · have hin := HQ.out.1 rfl
      obtain ⟨s, rfl⟩ : ∃ s : Nat, x = s := ⟨x.toNat, by omega⟩
      obtain rfl : y = s := by rw [HY.out]; rfl
      have hs12 : s < 2 ^ 12 := Nat.lt_of_lt_of_le (show s < 2 ^ xs.length by omega) (Nat.pow_le_pow_right (by omega) HL.out)
      have HA0 := Lib.hid (ask_in H0.out hin)
      have HCI := Lib.hid (c_isIdeal g xs.length (ordF xs) HL.out (ordF_lt HL.out HOK.out) s (by omega) w1 HBK.out)
      obtain ⟨r, hr⟩ : ∃ r, idB (ordF xs) s = r := ⟨_, rfl⟩
      have HR := Lib.hid hr
      rw [hr] at HCI
      clear hin hr
      go_wp2_with (fail)
      go_at_call 55
      refine HCI.out.mono ?_
      rintro e w3 ⟨rfl, b3⟩
      have K3 := Lib.hid (below_join K1.out b3 K1.out.size)
      have HB3 := Lib.hid (HBK.out.on b3 (Nat.le_refl _))
      clear b3
      cases r
      · have HNN := Lib.hid (show N = 13 by rw [← HN.out]; unfold enN; rw [if_pos HA0.out, if_neg (by simp [HR.out])])
        go_wp2_with (fail)
        exact HE.out _ _ HNN.out (by decide) K3.out
      · have HNN := Lib.hid (show N = 0 by rw [← HN.out]; unfold enN; rw [if_pos HA0.out, if_pos (by simp [HR.out])])
        have HCE := Lib.hid (c_enabled g xs.length (ordF xs) HL.out (ordF_lt HL.out HOK.out) s hs12 w3 HB3.out)
        have HLE := Lib.hid (lst_en (b := ordF xs) (s := s) HL.out)
        have hsb : setB (enB (ordF xs) s) xs.length < 2 ^ 12 := Nat.lt_of_lt_of_le (setB_lt _ _) (Nat.pow_le_pow_right (by omega) HL.out)
        obtain ⟨t, ht⟩ : ∃ t, setB (enB (ordF xs) s) xs.length = t := ⟨_, rfl⟩
        rw [ht] at HCE HLE hsb
        clear ht
        go_wp2_with (fail)
        go_at_call 59
        refine HCE.out.mono ?_
        rintro e w4 ⟨rfl, hw4⟩
        rw [hw4]
        clear hw4 w4
        go_wp2_with (fail)
        go_at_call 60
        refine (c_list t hsb w3).mono ?_
        rintro e w5 ⟨v, rfl, o5, b5⟩
        have K5 := Lib.hid (below_join K3.out b5 K3.out.size)
        have O5 := Lib.hid (show w5.ownsRow w.heap.size 3 1 v (enL xs.length (ordF xs) s).length (elV (enL xs.length (ordF xs) s)) by rw [← HLE.out]; exact own_mono o5 K3.out.size)
        clear b5 o5
        go_wp2_with (fail)
        rw [HRR.out, HNN.out]
        exact ⟨.inr ⟨rfl, v, rfl, O5.out⟩, K5.out⟩
set_option maxHeartbeats 8000000 in
theorem c_rrEnabledOf (A : Option Addr) (c : Nat) (xs : List LsV) (x : Int) (w : World) (h : LsAt w A c xs) : Calls Try.prog 27 #[.slice A xs.length c, .int .i64 x] w (NmTo w (enN xs x) (enL xs.length (ordF xs) x.toNat)) := by
  have H := Lib.hid h
  obtain ⟨N, hN⟩ : ∃ N, enN xs x = N := ⟨_, rfl⟩
  have HN := Lib.hid hN
  rw [hN]
  obtain ⟨R, hR⟩ : ∃ R, R = NmTo w N (enL xs.length (ordF xs) x.toNat) := ⟨_, rfl⟩
  rw [← hR]
  have HRR := Lib.hid hR
  have HA := Lib.hid (c_asked A c xs x w h)
  obtain ⟨M, hM⟩ : ∃ M, askN xs x = M := ⟨_, rfl⟩
  have HM := Lib.hid hM
  rw [hM] at HA
  clear hN h hR hM
  have HE := Lib.hid (show ∀ (X : World) (n : Int), N = n → n ≠ 0 → Below w.heap.size w X → R (.returned (.tuple #[.slice none 0 0, .int .i64 n])) X from fun X n h h2 hb => by rw [HRR.out, h]; exact ⟨.inl ⟨h2, rfl⟩, hb⟩)
  go_enter Try.func27, Try.ntmps27
  go_wp2_with (fail)
  go_at_call 56
  refine HA.out.mono ?_
  rintro e w1 ⟨rfl, b1⟩
  have K1 := Lib.hid b1
  clear b1
  by_cases h0 : M = 0
  rotate_left
  · have hne : (M != 0) = true := by simpa using h0
    have hd0 : (M == 0) = false := by simpa using h0
    have H0 := Lib.hid h0
    have HNN := Lib.hid (show N = M by rw [← HN.out, ← HM.out]; unfold enN; rw [if_neg (by rw [HM.out]; exact h0)])
    clear h0
    go_wp2_with (fail)
    exact HE.out _ _ HNN.out H0.out K1.out
  · subst h0
    obtain ⟨hr0, hx0, hx1⟩ := ask_zero HM.out
    have HZ := Lib.hid (rd_zero hr0)
    have HLP := Lib.hid (rd_loop hr0)
    obtain ⟨s, rfl⟩ : ∃ s : Nat, x = s := ⟨x.toNat, by omega⟩
    have HSL := Lib.hid (show s < 2 ^ xs.length by omega)
    have HC := Lib.hid (c_rrIdeal A c xs HZ.out.1 HZ.out.2 s (by omega) w1 (H.out.on K1.out (Nat.le_refl _)))
    obtain ⟨r, hr⟩ : ∃ r, idB (ordF xs) s = r := ⟨_, rfl⟩
    have HR := Lib.hid hr
    rw [hr] at HC
    clear hr0 hx0 hx1 hr
    go_wp2_with (fail)
    go_at_call 57
    refine HC.out.mono ?_
    rintro e w3 ⟨rfl, hw3⟩
    rw [hw3]
    clear hw3 w3
    cases r
    · have HNN := Lib.hid (show N = 13 by rw [← HN.out]; unfold enN; rw [if_pos HM.out, if_neg (by simp [HR.out])])
      go_wp2_with (fail)
      exact HE.out _ _ HNN.out (by decide) K1.out
    · have HNN := Lib.hid (show N = 0 by rw [← HN.out]; unfold enN; rw [if_pos HM.out, if_pos (by simp [HR.out])])
      have HCE := Lib.hid (c_rrEnabled A c xs HZ.out.1 HZ.out.2 HLP.out s HSL.out HR.out w1 (H.out.on K1.out (Nat.le_refl _)))
      go_wp2_with (fail)
      go_at_call 61
      refine HCE.out.mono ?_
      rintro e w5 ⟨v, rfl, o5, b5⟩
      have K5 := Lib.hid (below_join K1.out b5 K1.out.size)
      have O5 := Lib.hid (own_mono o5 K1.out.size)
      clear b5 o5
      go_wp2_with (fail)
      rw [HRR.out, HNN.out]
      exact ⟨.inr ⟨rfl, v, rfl, O5.out⟩, K5.out⟩
end Go.Proofs.Yticppddghjdmaaa

namespace Go.Proofs.Yticppddghjdmaaa
open Go.RowKit Go.Shelf
attribute [local go_sem] Oper.semAt_some
set_option maxRecDepth 100000
set_option linter.unusedVariables false
set_option linter.unusedSimpArgs false

theorem idL_len (f : Nat → Nat) (k : Nat) : (idL f k).length ≤ k := by
  unfold idL
  exact Nat.le_trans (List.length_filter_le _ _) (by simp)
theorem pow12 {n : Nat} (hn : n ≤ 12) : 2 ^ n ≤ 4096 := Nat.le_trans (Nat.pow_le_pow_right (by omega) hn) (by decide)
theorem shl_len {n : Nat} (hn : n ≤ 12) : wrap64 (2 ^ min n 64) = ((2 ^ n : Nat) : Int) := by
  rw [Nat.min_eq_left (by omega)]
  have h1 := pow12 hn
  rw [show ((2 : Int) ^ n) = ((2 ^ n : Nat) : Int) by simp]
  generalize (2 : Nat) ^ n = v at h1
  unfold wrap64
  (try simp only [])
  (try split)
  all_goals omega
theorem idL_lt {f : Nat → Nat} {k x : Nat} (h : x ∈ idL f k) : x < k := by
  unfold idL at h
  exact List.mem_range.1 (List.mem_filter.1 h).1
set_option maxHeartbeats 8000000 in
theorem c_Ideals (A : Option Addr) (c : Nat) (xs : List LsV) (w : World) (h : LsAt w A c xs) : Calls Try.prog 23 #[.slice A xs.length c] w (NmTo w (rdN xs) (idL (ordF xs) (2 ^ xs.length))) := by
  have H := Lib.hid h
  obtain ⟨N, hN⟩ : ∃ N, rdN xs = N := ⟨_, rfl⟩
  have HN := Lib.hid hN
  rw [hN]
  obtain ⟨R, hR⟩ : ∃ R, R = NmTo w N (idL (ordF xs) (2 ^ xs.length)) := ⟨_, rfl⟩
  rw [← hR]
  have HRR := Lib.hid hR
  clear hN h hR
  refine (callsIn_wide (n := 8)).1 ?_
  refine callsIn_of_wp_marks Try.func23 rfl trivial ?_ rfl
  simp only [Try.ntmps23, List.size_toArray, List.length_cons, List.length_nil, Nat.reduceAdd, Nat.reduceSub, Array.replicate_succ, Array.replicate_zero, List.push_toArray, List.append_toArray, List.nil_append, List.cons_append]
  rw [wpIn_wide]
  go_wp2_with (fail)
  go_at_call 48
  refine (c_read A c xs w H.out).mono ?_
  rintro e w1 ⟨⟨h0, rfl⟩ | ⟨h0, hl, hok, -, g, rfl, hg, hblk⟩, b1⟩
  · have K1 := Lib.hid b1
    have H0 := Lib.hid h0
    have hne : (rdN xs != 0) = true := by simpa using h0
    have hd0 : (rdN xs == 0) = false := by simpa using h0
    clear h0 b1
    go_wp2_with (fail)
    exact ⟨.tuple #[.slice none 0 0, .int .i64 (rdN xs)], by simp [results, Try.results23, go_sem], by rw [HRR.out, ← HN.out]; exact ⟨.inl ⟨H0.out, rfl⟩, K1.out⟩⟩
  · have H0 := Lib.hid h0
    have K1 := Lib.hid b1
    have hgl := at_lt hblk
    have hp12 := pow12 hl
    have HLN := Lib.hid (idL_len (ordF xs) (2 ^ xs.length))
    have HSQ := Lib.hid (c_ideals 7 (by omega) (fun k => k < w1.heap.size) g xs.length (ordF xs) hl (ordF_lt hl hok) w1 hblk hgl)
    have HML := Lib.hid (show ∀ x ∈ idL (ordF xs) (2 ^ xs.length), x < 4096 from fun x hx => Nat.lt_of_lt_of_le (idL_lt hx) hp12)
    obtain ⟨L, hL⟩ : ∃ L, idL (ordF xs) (2 ^ xs.length) = L := ⟨_, rfl⟩
    rw [hL] at HSQ HLN HRR HML
    have hLN : L.length ≤ 4096 := Nat.le_trans HLN.out hp12
    obtain ⟨W, hW⟩ : ∃ W, W = w1.alloc (.cells #[.slice none 0 0] 33) := ⟨_, rfl⟩
    have HB := Lib.hid (show Below w1.heap.size w1 W by subst hW; exact (Below.refl _ _).alloc (Nat.le_refl _) _)
    have HX := Lib.hid (show Boxed W w1.heap.size 33 (.slice none 0 0) by subst hW; exact Boxed.new _ _ _)
    have hzW : W.heap.size = w1.heap.size + 1 := by subst hW; simp
    clear h0 b1 hl hok hblk hL hp12 HLN
    go_wp2_with (fail)
    rw [← hW]
    clear hW
    obtain ⟨i0, hi0, hzz0, hzz1, hzz2⟩ := info_parts int_info
    refine (wpIn_wide (n := 8)).1 ?_
    refine wpIn_it (n := 8) (by omega) (gf := 58) (fb := #[.slice (some ⟨g, 0, none⟩) xs.length xs.length]) (lb := #[]) rfl eg_ideals (m := 0) (Gd := fun k => k < w1.heap.size) (ok := okS) (ts := L) (w0 := w1) HSQ.out (KpG.of_below HB.out (Nat.le_refl _)) (fun v t h => by rw [h]; rfl)
      (fun pre X => ColI w1 w1.heap.size (W.heap.size + 2 + 0) pre X) (fun _ _ _ => False)
      (fun pre X Y h hE => h.own hE (by omega) (by omega)) (fun _ _ _ _ h _ => h.elim)
      (fun pre X l o o' h hl ho hc => h.put (by omega) ho hc) (fun _ _ _ _ _ _ h _ _ _ => h.elim)
      ⟨⟨_, HX.out, World.ownsRow_nil _ _ _ _, fun g hg => by cases hg⟩, HB.out⟩ ?round ?done (fun _ _ _ _ _ _ h _ => h.elim)
    case round =>
      intro l pre v x X K hpre hok hK
      obtain rfl : v = #[.int .u16 (x : Int)] := hok
      gi_wp2_with (fail)
      refine hK _ _ (Below.refl _ _) ?_
      rintro Y ⟨o, o', ho, hoc, hYe⟩ hsz ⟨⟨v, k1, k2, k3⟩, k4⟩
      have hlen : pre.length + 1 ≤ L.length := by have := hpre.length_le; simpa using this
      have hl12 : pre.length + 1 ≤ 4096 := Nat.le_trans hlen hLN
      have hcell := k1.cell
      have HK1 := Lib.hid k1
      have HK2 := Lib.hid k2
      have HK3 := Lib.hid k3
      have HK4 := Lib.hid k4
      have hbs := k4.size
      have hcv : IntKind.i64.wrap (x : Int) = (x : Int) := nat64 _ (by have := HML.out x (hpre.subset (by simp)); omega)
      clear hYe ho hoc o o' hK k1 k2 k3 k4 hpre hlen
      gi_wp2_with (gi_at_builtin; refine wpListIn_append_lies _ rfl _ _ 33 rfl w1.heap.size 3 i0 (.int .i64 0) 1 8 Try.underlying33 hi0 hzz0 hzz1 hzz2 rfl (by decide) _ _ _ rfl (HK2.out.alloc _) ⟨Y.heap.size, 0, none⟩ 1 1 [.int .i64 (x : Int)] rfl rfl (one_at (heap_alloc_new _ _)) (by simp [Value.oneCell']) (by decide) (by unfold maxLen; omega) (by omega) (by simp; omega) (Y.heap.size + 1) (by simp) ?_)
      intro g2 cap2 Z hown hgrow hat
      obtain ⟨hv1, hc2, hkp, hkf⟩ := col_step (S0 := W.heap.size + 2) (m := 0) (Gd := fun k => k < w1.heap.size) rfl (by omega) (Nat.le_refl _) (fun k hk => by omega) hsz HK1.out HK2.out HK3.out HK4.out hown hgrow hat
      have hc1 := hv1.cell
      have hf1 := hv1.frozen
      have HC := Lib.hid hc2
      have HKP := Lib.hid hkp
      have HKF := Lib.hid hkf
      clear hv1 hc2 hkp hkf hown hgrow hat
      gi_wp2_with (fail)
      exact ⟨HKF.out _, HKP.out, HC.out⟩
    case done =>
      rintro D X rfl ⟨⟨v, k1, k2, k3⟩, k4⟩ hdef
      have hcell := k1.cell
      have HDEF := Lib.hid hdef
      have HRW := Lib.hid (show (X.putObj W.heap.size (.deferred none)).ownsRow w.heap.size 3 1 v L.length (elV L) from own_mono (own_row_kept k2 (fun g cur _ hc => put_cells hc hdef rfl)) K1.out.size)
      have HB4 := Lib.hid (below_join K1.out (below_put (o' := .deferred none) k4 (by omega : w1.heap.size ≤ W.heap.size)) K1.out.size)
      clear k1 k2 k3 k4 hdef
      go_wp2_with (fail)
      refine ⟨by simp, .inl ⟨_, _, rfl, run_takeDeferred HDEF.out, ?_⟩⟩
      exact ⟨.tuple #[v, .int .i64 0], by simp [results, Try.results23, go_sem], by rw [HRR.out, ← HN.out, H0.out]; exact ⟨.inr ⟨rfl, v, rfl, HRW.out⟩, HB4.out⟩⟩
set_option maxHeartbeats 16000000 in
theorem c_rrIdeals (A : Option Addr) (c : Nat) (xs : List LsV) (w : World) (h : LsAt w A c xs) : Calls Try.prog 24 #[.slice A xs.length c] w (NmTo w (rdN xs) (idL (ordF xs) (2 ^ xs.length))) := by
  have H := Lib.hid h
  have k1 := h.1.1; have k2 := h.1.2.1
  unfold maxLen at k2
  obtain ⟨N, hN⟩ : ∃ N, rdN xs = N := ⟨_, rfl⟩
  have HN := Lib.hid hN
  obtain ⟨R, hR⟩ : ∃ R, R = NmTo w (rdN xs) (idL (ordF xs) (2 ^ xs.length)) := ⟨_, rfl⟩
  rw [← hR]
  have HRR := Lib.hid hR
  clear hR hN h
  obtain ⟨i1, hi1, hz1, hz2, hz3⟩ := info_parts int_info
  go_enter Try.func24, Try.ntmps24
  go_wp2_with (fail)
  go_at_call 19
  refine (c_rrValid A c xs w H.out).mono ?_
  rintro e w1 ⟨rfl, b1⟩
  have K1 := Lib.hid b1
  rw [HN.out]
  clear b1
  by_cases h0 : N = 0
  rotate_left
  · have hne : (N != 0) = true := by simpa using h0
    have hd0 : (N == 0) = false := by simpa using h0
    have H0 := Lib.hid h0
    clear h0
    go_wp2_with (fail)
    rw [HRR.out, HN.out]
    exact ⟨.inl ⟨H0.out, rfl⟩, K1.out⟩
  subst h0
  have HZ := Lib.hid (rd_zero HN.out)
  have hp12 := pow12 HZ.out.1
  have hsh := shl_len HZ.out.1
  have HID := Lib.hid (fun (s : Nat) (hs : s < 2 ^ xs.length) (X : World) (hX : LsAt X A c xs) => c_rrIdeal A c xs HZ.out.1 HZ.out.2 s hs X hX)
  obtain ⟨M, hM⟩ : ∃ M, 2 ^ xs.length = M := ⟨_, rfl⟩
  rw [hM] at hp12 hsh HRR HID
  clear hM
  go_wp2_with (fail)
  go_loopw [5, 6] (fun v i wr => ∃ k : Nat, k ≤ M ∧ i = .int .i64 (k : Int) ∧ Hid (Below w1.heap.size w1 wr) ∧ Hid (wr.ownsRow w1.heap.size 3 1 v (idL (ordF xs) k).length (elV (idL (ordF xs) k)))) (fun _ i _ => M - (intOf i).toNat)
  case atStart => exact ⟨0, Nat.zero_le _, rfl, Lib.hid (Below.refl _ _), Lib.hid (World.ownsRow_nil _ _ _ _)⟩
  case round =>
    obtain ⟨k, hk, rfl, hK, ho⟩ := hrel
    have hki : ((k : Nat) : Int).toNat = k := by omega
    by_cases hlt : k < M
    · have hkl : (k : Int) < (M : Int) := by omega
      obtain ⟨nn, hnn⟩ : ∃ m, m = (idL (ordF xs) k).length := ⟨_, rfl⟩
      have hln : nn ≤ 4096 := by rw [hnn]; exact Nat.le_trans (idL_len _ k) (by omega)
      rw [← hnn] at ho
      have HNN := Lib.hid hnn
      obtain ⟨As, cs, rfl⟩ := own_shape ho.out
      have hz4 := hK.out.size
      have HC := Lib.hid (HID.out k hlt wr ((H.out.on K1.out (Nat.le_refl _)).on hK.out (Nat.le_refl _)))
      obtain ⟨r, hr⟩ : ∃ r, idB (ordF xs) k = r := ⟨_, rfl⟩
      have HNX := Lib.hid (show idL (ordF xs) (k + 1) = idL (ordF xs) k ++ if r = true then [k] else [] by rw [idL_next, hr])
      rw [hr] at HC
      clear hnn hr
      go_wp2_with (fail)
      go_at_call 57
      refine HC.out.mono ?_
      rintro e w2 ⟨rfl, hw2⟩
      rw [hw2]
      clear hw2 w2
      cases r
      · have HO := Lib.hid (show wr.ownsRow w1.heap.size 3 1 (.slice As nn cs) (idL (ordF xs) (k + 1)).length (elV (idL (ordF xs) (k + 1))) by
          rw [HNX.out]
          simp only [Bool.false_eq_true, if_false, List.append_nil]
          rw [← HNN.out]; exact ho.out)
        go_wp2_with (fail)
        go_roundw
        case rel => exact ⟨k + 1, by omega, by go_num, hK, HO⟩
        case measure => simp only [intOf]; omega
      · go_wp2_with (at_builtin; refine wpList_append_lies _ rfl _ _ 33 rfl w1.heap.size 3 i1 (.int .i64 0) 1 8 Try.underlying33 hi1 hz1 hz2 hz3 rfl (by decide) (.slice As nn cs) nn _ rfl (ho.out.alloc _) ⟨wr.heap.size, 0, none⟩ 1 1 [.int .i64 (k : Int)] rfl rfl (World.news_of_block (heap_alloc_new _ _)) (by simp [Value.oneCell']) (by decide) (by unfold maxLen; omega) (by omega) (by simp; omega) (wr.heap.size + 1) (by simp) ?_; intro g4 cap4 Z hown hgrow _ _; have HBZ := Lib.hid ((hK.out.alloc hK.out.size _).grown hgrow (by have := hK.out.size; simp; omega) (fun k hk => (ownsRow_lt ho.out hk).1)); have HOZ := Lib.hid hown; clear hown hgrow)
        have HO := Lib.hid (show Z.ownsRow w1.heap.size 3 1 (.slice (some ⟨g4, 0, none⟩) (nn + 1) cap4) (idL (ordF xs) (k + 1)).length (elV (idL (ordF xs) (k + 1))) by
          rw [HNX.out]
          simp only [if_true]
          rw [List.length_append, List.length_singleton, ← HNN.out, elV_snoc]
          exact HOZ.out)
        go_roundw
        case rel => exact ⟨k + 1, by omega, by go_num, HBZ, HO⟩
        case measure => simp only [intOf]; omega
    · obtain rfl : k = M := by omega
      go_wp2_with (fail)
      rw [HRR.out, HN.out]
      exact ⟨.inr ⟨rfl, _, rfl, own_mono ho.out K1.out.size⟩, below_join K1.out hK.out K1.out.size⟩
end Go.Proofs.Yticppddghjdmaaa

namespace Go.Proofs.Yticppddghjdmaaa
open Go.RowKit
attribute [local go_sem] Oper.semAt_some
set_option maxRecDepth 100000
set_option linter.unusedVariables false
set_option linter.unusedSimpArgs false

theorem fold_ones : ({ data := (([0, 1, 1, 2, 1, 2, 2, 3, 1, 2, 2, 3, 2, 3, 3, 4, 1, 2, 2, 3, 2, 3, 3, 4, 2, 3, 3, 4, 3, 4, 4, 5, 1, 2, 2, 3, 2, 3, 3, 4, 2, 3, 3, 4, 3, 4, 4, 5, 2, 3, 3, 4, 3, 4, 4, 5, 3, 4, 4, 5, 4, 5, 5, 6].append [1, 2, 2, 3, 2, 3, 3, 4, 2, 3, 3, 4, 3, 4, 4, 5, 2, 3, 3, 4, 3, 4, 4, 5, 3, 4, 4, 5, 4, 5, 5, 6, 2, 3, 3, 4, 3, 4, 4, 5, 3, 4, 4, 5, 4, 5, 5, 6, 3, 4, 4, 5, 4, 5, 5, 6, 4, 5, 5, 6, 5, 6, 6, 7]).append ([1, 2, 2, 3, 2, 3, 3, 4, 2, 3, 3, 4, 3, 4, 4, 5, 2, 3, 3, 4, 3, 4, 4, 5, 3, 4, 4, 5, 4, 5, 5, 6, 2, 3, 3, 4, 3, 4, 4, 5, 3, 4, 4, 5, 4, 5, 5, 6, 3, 4, 4, 5, 4, 5, 5, 6, 4, 5, 5, 6, 5, 6, 6, 7].append [2, 3, 3, 4, 3, 4, 4, 5, 3, 4, 4, 5, 4, 5, 5, 6, 3, 4, 4, 5, 4, 5, 5, 6, 4, 5, 5, 6, 5, 6, 6, 7, 3, 4, 4, 5, 4, 5, 5, 6, 4, 5, 5, 6, 5, 6, 6, 7, 4, 5, 5, 6, 5, 6, 6, 7, 5, 6, 6, 7, 6, 7, 7, 8])).toArray } : ByteArray) = Lib.pop8tab := by rfl
theorem pop_lst : ∀ n : Fin 256, Lib.pop8 (n.val : Int) = ((lst 8 n.val).length : Int) := by decide +kernel
theorem lst_split (s : Nat) (hs : s < 2 ^ 12) : (lst 12 s).length = (lst 8 (s / 256)).length + (lst 8 (s % 256)).length := by
  have h1 : lst 8 (s / 256) = lst 4 (s / 256) := lst_cut (n := 4) (by omega) 4
  rw [h1]
  unfold lst
  rw [show List.range 12 = List.range 8 ++ (List.range 4).map (8 + ·) from by decide, List.filter_append, List.length_append, List.filter_map, List.length_map, Nat.add_comm]
  congr 2
  · refine List.filter_congr fun i _ => ?_
    show s.testBit (8 + i) = (s / 256).testBit i
    rw [show (256 : Nat) = 2 ^ 8 by decide, Nat.testBit_div_two_pow]
    rw [Nat.add_comm]
  · refine List.filter_congr fun i hi => ?_
    have := List.mem_range.1 hi
    rw [show (256 : Nat) = 2 ^ 8 by decide, Nat.testBit_mod_two_pow]
    simp [this]
attribute [local go_sem high] fold_ones
set_option maxHeartbeats 8000000 in
theorem c_ones (s : Nat) (hs : s < 2 ^ 12) (w : World) :
    Calls Try.prog 88 #[.int .u16 (s : Int)] w fun e w' => e = .returned (.int .i64 ((lst 12 s).length : Int)) ∧ w' = w.drew := by
  have hl := lst_split s hs
  have e1 : (s : Int) / 256 = ((s / 256 : Nat) : Int) := by omega
  have e2 : bits BinOp.and IntKind.u16 (s : Int) 255 = ((s % 256 : Nat) : Int) := by
    rw [show (255 : Int) = ((255 : Nat) : Int) from rfl, bits_and16 s 255 (by omega) (by decide), show (255 : Nat) = 2 ^ 8 - 1 by decide, Nat.and_two_pow_sub_one_eq_mod]
  have p1 := pop_lst ⟨s / 256, by omega⟩
  have p2 := pop_lst ⟨s % 256, by omega⟩
  have l1 : (lst 8 (s / 256)).length ≤ 8 := lst_len 8 _
  have l2 : (lst 8 (s % 256)).length ≤ 8 := lst_len 8 _
  have q1 : s / 256 < 256 := by omega
  have q2 : s % 256 < 256 := by omega
  simp only at p1 p2
  obtain ⟨a, ha⟩ : ∃ a, s / 256 = a := ⟨_, rfl⟩
  obtain ⟨b, hb⟩ : ∃ b, s % 256 = b := ⟨_, rfl⟩
  rw [ha] at e1 p1 hl l1 q1
  rw [hb] at e2 p2 hl l2 q2
  rw [hl]
  clear hl ha hb
  obtain ⟨m1, hm1⟩ : ∃ m, (lst 8 a).length = m := ⟨_, rfl⟩
  obtain ⟨m2, hm2⟩ : ∃ m, (lst 8 b).length = m := ⟨_, rfl⟩
  rw [hm1] at p1 l1 ⊢
  rw [hm2] at p2 l2 ⊢
  clear hm1 hm2
  have i1 : ∀ X : World, (Instr.index 9 (.string Lib.pop8tab) (.int .u16 (a : Int))).run Try.prog X = .ok (.int .u8 (m1 : Int)) X := fun X => by rw [Lib.run_index_pop8tab X 9 .u16 (a : Int) Try.underlying9 (by omega) (by omega), p1]
  have i2 : ∀ X : World, (Instr.index 9 (.string Lib.pop8tab) (.int .u16 (b : Int))).run Try.prog X = .ok (.int .u8 (m2 : Int)) X := fun X => by rw [Lib.run_index_pop8tab X 9 .u16 (b : Int) Try.underlying9 (by omega) (by omega), p2]
  clear p1 p2
  go_enter Try.func88, Try.ntmps88
  rw [fold_ones]
  go_wp2_with (fail)
  have HM := Lib.hid (show ((m1 + m2 : Nat) : Int) = (m1 : Int) + (m2 : Int) by omega)
  go_region
  go_wp2_with (fail)
  go_ret
  refine ⟨?_, rfl⟩
  show Ending.returned (.int .i64 _) = _
  congr 2
set_option maxHeartbeats 4000000 in
theorem c_size (s : Nat) (hs : s < 2 ^ 12) (w : World) :
    Calls Try.prog 82 #[.int .u16 (s : Int)] w fun e w' => e = .returned (.int .i64 ((lst 12 s).length : Int)) ∧ w' = w.drew := by
  have HC := Lib.hid (c_ones s hs w)
  obtain ⟨m, hm⟩ : ∃ m, (lst 12 s).length = m := ⟨_, rfl⟩
  rw [hm] at HC ⊢
  clear hm
  go_enter Try.func82, Try.ntmps82
  go_wp2_with (fail)
  go_at_call 88
  refine HC.out.mono ?_
  rintro e w1 ⟨rfl, rfl⟩
  go_wp2_with (fail)
  go_ret
  exact ⟨rfl, rfl⟩
end Go.Proofs.Yticppddghjdmaaa
