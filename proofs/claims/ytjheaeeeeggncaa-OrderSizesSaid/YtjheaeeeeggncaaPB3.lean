/-
  DERIVED. Several texts in one.
-/
import Derived.Test.YtjheaeeeeggncaaPB2
import Derived.Lib.Tables
set_option linter.unusedVariables false
set_option linter.unusedSimpArgs false

namespace Go.Proofs.Ytjheaeeeeggncaa
open Go.RowKit Go.Shelf
attribute [local go_sem] Oper.semAt_some
set_option maxRecDepth 100000
set_option linter.unusedVariables false
set_option linter.unusedSimpArgs false

/-- One element is yielded. -/
def okE (v : Array Value) (x : Nat) : Prop := v = #[.int .i64 (x : Int)]
theorem lst_pre (k s : Nat) : ∀ j, lst k s <+: lst (k + j) s
  | 0 => List.prefix_refl _
  | j + 1 => (lst_pre k s j).trans (by rw [show k + (j + 1) = (k + j) + 1 by omega, lst_next]; exact List.prefix_append _ _)
theorem lst_pre12 {k s : Nat} (h : k ≤ 12) : lst k s <+: lst 12 s := by
  have := lst_pre k s (12 - k)
  rwa [show k + (12 - k) = 12 by omega] at this
/-- Between two rounds of each. -/
def EaI (Gd : Nat → Prop) (w : World) (S s : Nat) (J : List Nat → World → Prop) (i : Value) (wr : World) : Prop :=
  ∃ (k : Nat) (pre : List Nat), i = .int .i64 (k : Int) ∧ k ≤ 12 ∧ Hid (pre = lst k s) ∧ Hid (KpG Gd w wr) ∧ S ≤ wr.heap.size ∧ J pre wr
set_option maxHeartbeats 4000000 in
theorem c_each (d : Nat) (hd : 1 ≤ d) (Gd : Nat → Prop) (s : Nat) (hs : s < 2 ^ 12) (w : World) :
    SeqIt d Try.prog 77 #[.int .u16 (s : Int)] #[] 0 Gd okE (lst 12 s) w := by
  intro lp J Jx W hKW hlp hJE _ hY h0
  have hinit : EaI Gd w W.heap.size s J (.int .i64 0) W := ⟨0, [], rfl, by omega, Lib.hid rfl, Lib.hid hKW, Nat.le_refl _, h0⟩
  have HY := Lib.hid hY
  have HJ := Lib.hid hJE
  have HI := Lib.hid hinit
  clear hinit hY hJE h0 hKW
  refine callsIn_of_wp Try.func77 rfl trivial ?_ rfl
  simp only [Try.ntmps77, List.size_toArray, List.length_cons, List.length_nil, Nat.reduceAdd, Nat.reduceSub, Array.replicate_succ, Array.replicate_zero, List.push_toArray, List.append_toArray, List.nil_append, List.cons_append]
  gi_wp2_with (fail)
  gi_loopw [5] (fun i wr => EaI Gd w W.heap.size s J i wr) (fun i wr => 12 - (intOf i).toNat)
  case atStart => exact HI.out
  case round =>
    obtain ⟨k, pre, rfl, hk, hpre, hK, hsz, hj⟩ := hrel
    have HJr := Lib.hid hj
    have hki : ((k : Nat) : Int).toNat = k := by omega
    by_cases hlt : k < 12
    · have hkl : (k : Int) < 12 := by omega
      rcases hb : s.testBit k with _ | _
      · have HB := Lib.hid (show (decide (0 ≤ (k : Int)) && s.testBit ((k : Nat) : Int).toNat) = false by rw [hki, hb]; simp)
        have HPR := Lib.hid (show pre = lst (k + 1) s by rw [lst_next, hb, hpre.out]; simp)
        clear hb hj
        gi_wp2_with (fail)
        refine ⟨trivial, ?_⟩
        gi_at_call 76
        refine (calls_wide (c_has s (by omega) (k : Int) false HB.out _)).mono ?_
        rintro e w1 ⟨rfl, hw1⟩
        rw [hw1]
        clear hw1 w1
        gi_wp2_with (fail)
        refine ⟨fun f hf => (by cases hf), ?_⟩
        gi_wp2_with (fail)
        refine ⟨⟨k + 1, pre, by go_num, by omega, HPR, hK, hsz, HJr.out⟩, ?_⟩
        simp only [intOf]; omega
      · have HB := Lib.hid (show (decide (0 ≤ (k : Int)) && s.testBit ((k : Nat) : Int).toNat) = true by rw [hki, hb]; simp)
        have HPR := Lib.hid (show pre ++ [k] = lst (k + 1) s by rw [lst_next, hb, hpre.out]; simp)
        have HPF := Lib.hid (show pre ++ [k] <+: lst 12 s by rw [HPR.out]; exact lst_pre12 (by omega))
        clear hb hj
        obtain ⟨fn, tmps, assign, body, hy, hR⟩ := HY.out pre #[.int .i64 k] k wr HJr.out hsz rfl HPF.out
        gi_wp2_with (fail)
        refine ⟨trivial, ?_⟩
        gi_at_call 76
        refine (calls_wide (c_has s (by omega) (k : Int) true HB.out _)).mono ?_
        rintro e w1 ⟨rfl, hw1⟩
        rw [hw1]
        clear hw1 w1
        gi_wp2_with (fail)
        refine hR.mono ?_
        rintro e W3 (⟨rfl, hJ3, hk3⟩ | ⟨rfl, hJx3, -⟩)
        · have HJ3 := Lib.hid hJ3
          have HK3 := Lib.hid (hK.out.trans hk3.good)
          have hz3 := Nat.le_trans hsz hk3.size
          clear hJ3 hy hk3
          gi_wp2_with (fail)
          refine ⟨⟨k + 1, pre ++ [k], by go_num, by omega, HPR, HK3, hz3, HJ3.out⟩, ?_⟩
          simp only [intOf]; omega
        · have Hx := Lib.hid hJx3
          clear hJx3 hy
          gi_wp2_with (fail)
          refine bodyPost_ret (results_none rfl _ _ _) rfl ?_
          exact ⟨⟨_, rfl⟩, .inr ⟨_, HPF.out, Hx.out⟩⟩
    · obtain rfl : k = 12 := by omega
      have HTE := Lib.hid hpre.out
      clear hj
      gi_wp2_with (fail)
      refine bodyPost_end (results_none rfl _ _ _) rfl ?_
      exact ⟨⟨_, rfl⟩, .inl (by rw [← HTE.out]; exact HJr.out)⟩
theorem eg_each : ∀ args w, (callFunc 77 args).run Try.prog w = .ok (.enter 77 args) w := enters_of Try.func77 (by kernel_rfl) rfl
end Go.Proofs.Ytjheaeeeeggncaa

namespace Go.Proofs.Ytjheaeeeeggncaa
open Go.RowKit Go.Shelf
attribute [local go_sem] Oper.semAt_some
set_option maxRecDepth 100000
set_option linter.unusedVariables false
set_option linter.unusedSimpArgs false

theorem row_new (W : World) (o : Obj) (b : Nat) (hb : b = W.heap.size) : (W.alloc o).heap[b]? = some o := by subst hb; exact heap_alloc_new W o
theorem boxed_put {X : World} {b l : Nat} {T : TypeId} {v : Value} {o o' : Obj} (h : Boxed X b T v) (hl : X.heap[l]? = some o) (ho : o.isCells = false) : Boxed (X.putObj l o') b T v := put_cells h hl ho
theorem Blk.on {w w' : World} {g n B : Nat} {f : Nat → Nat} (h : Blk w g n f) (hb : Below B w w') (hB : w.heap.size ≤ B) : Blk w' g n f := box_on h hb hB
/-- Whether a set is an ideal. -/
def idB (f : Nat → Nat) (s : Nat) : Bool := (lst 12 s).all fun i => decide (f i &&& s = f i)
/-- Those so far are well. -/
structure IsI (w : World) (g n : Nat) (f : Nat → Nat) (s : Nat) (pre : List Nat) (X : World) : Prop where
  bb : Boxed X w.heap.size 64 (.slice (some ⟨g, 0, none⟩) n n)
  bs : Boxed X (w.heap.size + 1) 72 (.int .u16 (s : Int))
  br : Boxed X (w.heap.size + 2) 4 (.bool false)
  bel : Below w.heap.size w X
  well : ∀ i ∈ pre, f i &&& s = f i
structure IsX (w : World) (r : Bool) (X : World) : Prop where
  br : Boxed X (w.heap.size + 2) 4 (.bool r)
  bel : Below w.heap.size w X
section
variable {w X Y : World} {g n s : Nat} {f : Nat → Nat} {pre : List Nat} {r : Bool} {S m : Nat}
theorem IsI.own (h : IsI w g n f s pre X) (hE : OwnIt S m X Y) (hS : w.heap.size + 3 ≤ S) : IsI w g n f s pre Y :=
  ⟨hE.same _ _ h.bb (.inl (by omega)), hE.same _ _ h.bs (.inl (by omega)), hE.same _ _ h.br (.inl (by omega)), below_own h.bel hE (by omega), h.well⟩
theorem IsX.own (h : IsX w r X) (hE : OwnIt S m X Y) (hS : w.heap.size + 3 ≤ S) : IsX w r Y := ⟨hE.same _ _ h.br (.inl (by omega)), below_own h.bel hE (by omega)⟩
theorem IsI.put {l : Nat} {o o' : Obj} (h : IsI w g n f s pre X) (hw : w.heap.size ≤ l) (hl : X.heap[l]? = some o) (ho : o.isCells = false) : IsI w g n f s pre (X.putObj l o') :=
  ⟨put_cells h.bb hl ho, put_cells h.bs hl ho, put_cells h.br hl ho, below_put h.bel hw, h.well⟩
theorem IsX.put {l : Nat} {o o' : Obj} (h : IsX w r X) (hw : w.heap.size ≤ l) (hl : X.heap[l]? = some o) (ho : o.isCells = false) : IsX w r (X.putObj l o') := ⟨put_cells h.br hl ho, below_put h.bel hw⟩
end
set_option maxHeartbeats 8000000 in
theorem c_isIdeal (g n : Nat) (f : Nat → Nat) (hn : n ≤ 12) (hf : ∀ j, f j < 2 ^ 12) (s : Nat) (hs : s < 2 ^ n) (w : World) (h : Blk w g n f) :
    Calls Try.prog 55 #[.slice (some ⟨g, 0, none⟩) n n, .int .u16 (s : Int)] w fun e w' => e = .returned (.bool (idB f s)) ∧ Below w.heap.size w w' := by
  have hs12 : s < 2 ^ 12 := Nat.lt_of_lt_of_le hs (Nat.pow_le_pow_right (by omega) hn)
  obtain ⟨r, hr⟩ : ∃ r, idB f s = r := ⟨_, rfl⟩
  have HR := Lib.hid hr
  rw [hr]
  clear hr
  obtain ⟨W, hW⟩ : ∃ W, W = ((w.alloc (.cells #[.slice (some ⟨g, 0, none⟩) n n] 64)).alloc (.cells #[.int .u16 (s : Int)] 72)).alloc (.cells #[.bool false] 4) := ⟨_, rfl⟩
  have HB := Lib.hid (show Below w.heap.size w W by subst hW; exact ((((Below.refl _ _).alloc (Nat.le_refl _) _).alloc (by simp) _).alloc (by simp; omega) _))
  have H0 := Lib.hid (show Boxed W w.heap.size 64 (.slice (some ⟨g, 0, none⟩) n n) by subst hW; exact old_heap _ (old_heap _ (heap_alloc_new _ _)))
  have H1 := Lib.hid (show Boxed W (w.heap.size + 1) 72 (.int .u16 (s : Int)) by subst hW; exact old_heap _ (row_new _ _ _ (by simp)))
  have H2 := Lib.hid (show Boxed W (w.heap.size + 2) 4 (.bool false) by subst hW; exact row_new _ _ _ (by simp))
  have x1 := H1.out.cell
  have hzW : W.heap.size = w.heap.size + 3 := by subst hW; simp
  have HSQ := Lib.hid (c_each 7 (by omega) (fun k => k < w.heap.size) s hs12 w)
  have HK := Lib.hid h
  have HF := Lib.hid hf
  have HBIT := Lib.hid (show ∀ i ∈ lst 12 s, i < n from fun i hi => by
    rcases Nat.lt_or_ge i n with h | h
    · exact h
    · have := (lst_mem.1 hi).2
      rw [Nat.testBit_lt_two_pow (Nat.lt_of_lt_of_le hs (Nat.pow_le_pow_right (by omega) h))] at this
      cases this)
  clear h hf hs
  refine (callsIn_wide (n := 8)).1 ?_
  refine callsIn_of_wp_marks Try.func55 rfl trivial ?_ rfl
  simp only [Try.ntmps55, List.size_toArray, List.length_cons, List.length_nil, Nat.reduceAdd, Nat.reduceSub, Array.replicate_succ, Array.replicate_zero, List.push_toArray, List.append_toArray, List.nil_append, List.cons_append]
  rw [wpIn_wide]
  go_wp2_with (fail)
  rw [← hW]
  clear hW
  refine (wpIn_wide (n := 8)).1 ?_
  refine wpIn_it (n := 8) (by omega) (gf := 77) (fb := #[.int .u16 (s : Int)]) (lb := #[]) rfl eg_each (m := 0) (Gd := fun k => k < w.heap.size) (ok := okE) (ts := lst 12 s) (w0 := w) HSQ.out (KpG.of_below HB.out (Nat.le_refl _)) (fun v t h => by rw [h]; rfl)
    (fun pre X => IsI w g n f s pre X) (fun c _ X => c = .ret ∧ IsX w r X)
    (fun pre X Y h hE => h.own hE (by omega)) (fun c pre X Y h hE => ⟨h.1, h.2.own hE (by omega)⟩)
    (fun pre X l o o' h hl ho hc => h.put (by omega) ho hc) (fun c pre X l o o' h hl ho hc => ⟨h.1, h.2.put (by omega) ho hc⟩)
    ⟨H0.out, H1.out, H2.out, HB.out, fun y hy => absurd hy List.not_mem_nil⟩ ?round ?done ?stop
  case round =>
    intro l pre v i X K hpre hok hK
    obtain rfl : v = #[.int .i64 (i : Int)] := hok
    gi_wp2_with (fail)
    refine hK _ _ (Below.refl _ _) ?_
    rintro Y ⟨o, o', ho, hoc, hYe⟩ hsz hI
    have him : i ∈ lst 12 s := hpre.subset (by simp)
    have hin := HBIT.out i him
    have hil : (i : Int) < (n : Int) := by omega
    have y0 := hI.bb.cell
    have y1 := hI.bs.cell
    have y2 := hI.br.cell
    have f2 := hI.br.frozen
    have y3 := (HK.out.on hI.bel (Nat.le_refl _)).at_ hin
    have hq := HF.out i
    have HI := Lib.hid hI
    have HIM := Lib.hid him
    have hfm : Try.prog.follows Departure.mixedOrders = true := by kernel_rfl
    clear hYe ho hoc o o' hK hI hpre him
    rcases hc : decide (f i &&& s = f i) with _ | _
    · obtain ⟨q, hq0⟩ : ∃ q, f i = q := ⟨_, rfl⟩
      have HRF := Lib.hid (show false = r by
        rw [← HR.out]
        cases e : idB f s
        · rfl
        · have := List.all_eq_true.1 e i HIM.out
          rw [this] at hc
          cases hc)
      rw [hq0] at y3 hq hc
      have HC := Lib.hid hc
      clear hc hq0
      gi_wp2_with (fail)
      gi_region_with_o (refine ⟨trivial, ?_⟩; gi_at_call 79; refine (CallsIn.inRound l (calls_wide (c_contains s q (by omega) (by omega) false HC.out _))).mono ?_; rintro e wa ⟨rfl, hwa⟩; rw [hwa]; clear hwa wa)
      all_goals gi_wp2_with (fail)
      all_goals
        have hk := kf_store (B := W.heap.size) (o := 0) (.bool false) HI.out.br
        exact ⟨⟨hk.size, hk.same⟩, rfl, by rw [← HRF.out]; exact HI.out.br.set _, (HI.out.bel.setCell (p := ⟨w.heap.size + 2, 0, none⟩) (by show w.heap.size ≤ w.heap.size + 2; omega) _).drew⟩
    · obtain ⟨q, hq0⟩ : ∃ q, f i = q := ⟨_, rfl⟩
      have HIN := Lib.hid (show IsI w g n f s (pre ++ [i]) Y from ⟨HI.out.bb, HI.out.bs, HI.out.br, HI.out.bel, fun j hj => by
        rcases List.mem_append.1 hj with hj | hj
        · exact HI.out.well j hj
        · rw [List.mem_singleton.1 hj]; exact of_decide_eq_true hc⟩)
      rw [hq0] at y3 hq hc
      have HC := Lib.hid hc
      clear hc hq0
      gi_wp2_with (fail)
      gi_region_with_o (refine ⟨trivial, ?_⟩; gi_at_call 79; refine (CallsIn.inRound l (calls_wide (c_contains s q (by omega) (by omega) true HC.out _))).mono ?_; rintro e wa ⟨rfl, hwa⟩; rw [hwa]; clear hwa wa)
      all_goals gi_wp2_with (fail)
      all_goals
        have hk := KeepsFrom.refl W.heap.size Y
        have hm := KpIt.refl (S := W.heap.size + 2) (m := 0) (Gd := fun k => k < w.heap.size) Y
        exact ⟨⟨hk.size, hk.same⟩, ⟨hm.size, hm.cells, hm.others⟩, HIN.out.bb, HIN.out.bs, HIN.out.br, HIN.out.bel.drew, HIN.out.well⟩
  case done =>
    rintro D X rfl hI hdef
    have HRX := Lib.hid (show true = r by
      rw [← HR.out]
      exact (List.all_eq_true.2 fun i hi => decide_eq_true (hI.well i hi)).symm)
    have y2 := hI.br.cell
    have f2 := hI.br.frozen
    have HDEF := Lib.hid hdef
    have HI := Lib.hid hI
    clear hI hdef
    go_wp2_with (fail)
    have hD2 : (X.setCell ⟨w.heap.size + 2, 0, none⟩ (.bool true)).heap[W.heap.size]? = some (.deferred (some [])) := by
      rw [Below.heap_setCell _ ⟨w.heap.size + 2, 0, none⟩ _ W.heap.size (by show W.heap.size ≠ w.heap.size + 2; omega)]
      exact HDEF.out
    have n1 := (boxed_put (o' := .deferred none) (HI.out.br.set (.bool true)) hD2 rfl).cell
    refine ⟨by simp, .inl ⟨_, _, rfl, run_takeDeferred hD2, ?_⟩⟩
    exact ⟨.bool true, by simp [results, Try.results55, go_sem, n1], by rw [HRX.out], below_put (HI.out.bel.setCell (p := ⟨w.heap.size + 2, 0, none⟩) (by show w.heap.size ≤ w.heap.size + 2; omega) _) (by omega)⟩
  case stop =>
    rintro D c pre X rfl hpre ⟨rfl, i1, i2⟩ hdef
    have n1 := (boxed_put (o' := .deferred none) i1 hdef rfl).cell
    have HDEF := Lib.hid hdef
    have H2 := Lib.hid i2
    clear i1 i2 hdef hpre
    gi_wp2_with (fail)
    refine ⟨by simp, .inl ⟨_, _, rfl, run_takeDeferred HDEF.out, ?_⟩⟩
    exact ⟨.bool r, by simp [results, Try.results55, go_sem, n1], rfl, below_put H2.out (by omega)⟩
end Go.Proofs.Ytjheaeeeeggncaa

namespace Go.Proofs.Ytjheaeeeeggncaa
open Go.RowKit Go.Shelf
attribute [local go_sem] Oper.semAt_some
set_option maxRecDepth 100000
set_option linter.unusedVariables false
set_option linter.unusedSimpArgs false

/-- One set is yielded. -/
def okS (v : Array Value) (x : Nat) : Prop := v = #[.int .u16 (x : Int)]
/-- The ideals that are less than a number. -/
def idL (f : Nat → Nat) (k : Nat) : List Nat := (List.range k).filter (idB f)
theorem idL_next (f : Nat → Nat) (k : Nat) : idL f (k + 1) = idL f k ++ if idB f k = true then [k] else [] := by
  unfold idL
  rw [List.range_succ, List.filter_append]
  by_cases h : idB f k = true <;> simp [h]
theorem idL_pre (f : Nat → Nat) (k : Nat) : ∀ j, idL f k <+: idL f (k + j)
  | 0 => List.prefix_refl _
  | j + 1 => (idL_pre f k j).trans (by rw [show k + (j + 1) = (k + j) + 1 by omega, idL_next]; exact List.prefix_append _ _)
theorem idL_pre' {f : Nat → Nat} {k m : Nat} (h : k ≤ m) : idL f k <+: idL f m := by
  have := idL_pre f k (m - k)
  rwa [show k + (m - k) = m by omega] at this
/-- Between two rounds of ideals. -/
def DaI (Gd : Nat → Prop) (w : World) (S : Nat) (f : Nat → Nat) (N : Nat) (J : List Nat → World → Prop) (i : Value) (wr : World) : Prop :=
  ∃ (k : Nat) (pre : List Nat), i = .int .u16 (k : Int) ∧ k ≤ N ∧ Hid (pre = idL f k) ∧ Hid (KpG Gd w wr) ∧ S ≤ wr.heap.size ∧ J pre wr
set_option maxHeartbeats 4000000 in
theorem c_ideals (d : Nat) (hd : 1 ≤ d) (Gd : Nat → Prop) (g n : Nat) (f : Nat → Nat) (hn : n ≤ 12) (hf : ∀ j, f j < 2 ^ 12) (w : World) (h : Blk w g n f) (hg : Gd g) :
    SeqIt d Try.prog 58 #[.slice (some ⟨g, 0, none⟩) n n] #[] 0 Gd okS (idL f (2 ^ n)) w := by
  intro lp J Jx W hKW hlp hJE _ hY h0
  have h1 : (2 : Nat) ^ n ≤ 4096 := Nat.le_trans (Nat.pow_le_pow_right (by omega) hn) (by decide)
  have h00 : 1 ≤ (2 : Nat) ^ n := Nat.one_le_two_pow
  obtain ⟨N, hN⟩ : ∃ N : Nat, 2 ^ n = N := ⟨_, rfl⟩
  have hall := c_all (some ⟨g, 0, none⟩) n n hn W
  have HC := Lib.hid (fun (k : Nat) (hk : k < N) (X : World) (hX : KpG Gd w X) => c_isIdeal g n f hn hf k (by rw [hN]; exact hk) X (hX.same _ _ _ _ hg h))
  rw [hN] at h1 h00 hall hY ⊢
  have hinit : DaI Gd w W.heap.size f N J (.int .u16 0) W := ⟨0, [], rfl, by omega, Lib.hid rfl, Lib.hid hKW, Nat.le_refl _, h0⟩
  have hw1 : IntKind.u16.wrap (((N - 1 : Nat) : Int) + 1) = (N : Int) := by
    rw [show (((N - 1 : Nat) : Int) + 1) = ((N : Nat) : Int) by omega]
    exact wrap16 _ (by omega)
  have HAL := Lib.hid hall
  have HY := Lib.hid hY
  have HJ := Lib.hid hJE
  have HI := Lib.hid hinit
  clear hinit hY hJE h0 hKW hN hall h hf
  refine callsIn_of_wp Try.func58 rfl trivial ?_ rfl
  simp only [Try.ntmps58, List.size_toArray, List.length_cons, List.length_nil, Nat.reduceAdd, Nat.reduceSub, Array.replicate_succ, Array.replicate_zero, List.push_toArray, List.append_toArray, List.nil_append, List.cons_append]
  gi_wp2_with (fail)
  refine ⟨trivial, ?_⟩
  gi_at_call 78
  refine (calls_wide HAL.out).mono ?_
  rintro e w1 ⟨rfl, hw⟩
  rw [hw]
  clear hw w1
  gi_wp2_with (fail)
  gi_loopw [8] (fun i wr => DaI Gd w W.heap.size f N J i wr) (fun i wr => N - (intOf i).toNat)
  case atStart => exact HI.out
  case round =>
    obtain ⟨k, pre, rfl, hk, hpre, hK, hsz, hj⟩ := hrel
    have HJr := Lib.hid hj
    have hki : ((k : Nat) : Int).toNat = k := by omega
    by_cases hlt : k < N
    · have hkl : (k : Int) < (N : Int) := by omega
      have hwk : IntKind.u16.wrap ((k : Int) + 1) = ((k + 1 : Nat) : Int) := by
        rw [show ((k : Int) + 1) = ((k + 1 : Nat) : Int) by omega]
        exact wrap16 _ (by omega)
      have HCK := Lib.hid (HC.out k hlt wr hK.out)
      rcases hb : idB f k with _ | _
      · have HPR := Lib.hid (show pre = idL f (k + 1) by rw [idL_next, hb, hpre.out]; simp)
        rw [hb] at HCK
        clear hb hj
        gi_wp2_with (fail)
        refine ⟨trivial, ?_⟩
        gi_at_call 55
        refine (calls_wide HCK.out).mono ?_
        rintro e w1 ⟨rfl, b1⟩
        have HK1 := Lib.hid (hK.out.trans (KpG.of_below b1 (Nat.le_refl _)))
        have hz1 := Nat.le_trans hsz b1.size
        have HJ1 := Lib.hid (HJ.out _ _ _ HJr.out (OwnIt.of_below b1 (Nat.le_refl _)))
        clear b1
        gi_wp2_with (fail)
        refine ⟨fun f hf => (by cases hf), ?_⟩
        gi_wp2_with (fail)
        refine ⟨⟨k + 1, pre, by simp, by omega, HPR, HK1, hz1, HJ1.out⟩, ?_⟩
        simp only [intOf]; omega
      · have HPR := Lib.hid (show pre ++ [k] = idL f (k + 1) by rw [idL_next, hb, hpre.out]; simp)
        have HPF := Lib.hid (show pre ++ [k] <+: idL f N by rw [HPR.out]; exact idL_pre' (by omega))
        rw [hb] at HCK
        clear hb hj
        gi_wp2_with (fail)
        refine ⟨trivial, ?_⟩
        gi_at_call 55
        refine (calls_wide HCK.out).mono ?_
        rintro e w1 ⟨rfl, b1⟩
        have HK1 := Lib.hid (hK.out.trans (KpG.of_below b1 (Nat.le_refl _)))
        have hz1 := Nat.le_trans hsz b1.size
        have HJ1 := Lib.hid (HJ.out _ _ _ HJr.out (OwnIt.of_below b1 (Nat.le_refl _)))
        clear b1
        obtain ⟨fn, tmps, assign, body, hy, hR⟩ := HY.out pre #[.int .u16 k] k w1 HJ1.out hz1 rfl HPF.out
        gi_wp2_with (fail)
        refine hR.mono ?_
        rintro e W3 (⟨rfl, hJ3, hk3⟩ | ⟨rfl, hJx3, -⟩)
        · have HJ3 := Lib.hid hJ3
          have HK3 := Lib.hid (HK1.out.trans hk3.good)
          have hz3 := Nat.le_trans hz1 hk3.size
          clear hJ3 hy hk3
          gi_wp2_with (fail)
          refine ⟨⟨k + 1, pre ++ [k], by simp, by omega, HPR, HK3, hz3, HJ3.out⟩, ?_⟩
          simp only [intOf]; omega
        · have Hx := Lib.hid hJx3
          clear hJx3 hy
          gi_wp2_with (fail)
          refine bodyPost_ret (results_none rfl _ _ _) rfl ?_
          exact ⟨⟨_, rfl⟩, .inr ⟨_, HPF.out, Hx.out⟩⟩
    · obtain rfl : k = N := by omega
      have HTE := Lib.hid hpre.out
      clear hj
      gi_wp2_with (fail)
      refine bodyPost_end (results_none rfl _ _ _) rfl ?_
      exact ⟨⟨_, rfl⟩, .inl (by rw [← HTE.out]; exact HJr.out)⟩
theorem eg_ideals : ∀ args w, (callFunc 58 args).run Try.prog w = .ok (.enter 58 args) w := enters_of Try.func58 (by kernel_rfl) rfl
end Go.Proofs.Ytjheaeeeeggncaa

namespace Go.Proofs.Ytjheaeeeeggncaa
open Go.RowKit Go.Shelf
attribute [local go_sem] Oper.semAt_some
set_option maxRecDepth 100000
set_option linter.unusedVariables false
set_option linter.unusedSimpArgs false

theorem one_cell {W : World} {b : Nat} {x0 : Value} {T : TypeId} (h : W.heap[b]? = some (.cells #[x0] T (0, 0))) : W.cell? ⟨b, 0, none⟩ = some x0 := by simp [World.cell?, h]
theorem one_at {W : World} {b : Nat} {x : Value} {T : TypeId} (hb : W.heap[b]? = some (.cells #[x] T (0, 0))) (j : Nat) (u : Value) (hj : [x][j]? = some u) : W.cell? ((⟨b, 0, none⟩ : Addr).add j) = some u := by
  have e : (⟨b, 0, none⟩ : Addr).add j = ⟨b, j, none⟩ := by unfold Addr.add; split <;> simp_all
  rw [e]
  match j, hj with
  | 0, hj => simp at hj; subst hj; exact one_cell hb
/-- What a walk over an iterator has collected in a box. -/
structure ColI (w0 : World) (bc S : Nat) (xs : List Nat) (X : World) : Prop where
  row : ∃ v, Boxed X bc 33 v ∧ X.ownsRow w0.heap.size 3 1 v xs.length (elV xs) ∧ ∀ g, v.ownBlock = some g → S ≤ g
  bel : Below w0.heap.size w0 X
section
variable {w0 X Y : World} {bc S m : Nat} {xs : List Nat}
theorem ColI.own (h : ColI w0 bc (S + m) xs X) (hE : OwnIt S m X Y) (hb : bc < S) (hS : w0.heap.size ≤ S) : ColI w0 bc (S + m) xs Y := by
  obtain ⟨⟨v, k1, k2, k3⟩, k4⟩ := h
  exact ⟨⟨v, hE.same _ _ k1 (.inl hb), own_row_kept k2 (fun g cur hg hc => hE.same _ _ hc (.inr ⟨rfl, k3 g hg⟩)), k3⟩, below_own k4 hE hS⟩
theorem ColI.put {l : Nat} {o o' : Obj} (h : ColI w0 bc S xs X) (hw : w0.heap.size ≤ l) (hl : X.heap[l]? = some o) (ho : o.isCells = false) : ColI w0 bc S xs (X.putObj l o') := by
  obtain ⟨⟨v, k1, k2, k3⟩, k4⟩ := h
  exact ⟨⟨v, put_cells k1 hl ho, own_row_kept k2 (fun g cur hg hc => put_cells hc hl ho), k3⟩, below_put k4 hw⟩
end
/-- A number is appended in a round and its slice stored into the box. -/
theorem col_step {w0 Y Z : World} {bc S0 m : Nat} {Gd : Nat → Prop} {pre : List Nat} {x : Nat} {v : Value} {g2 cap2 q : Nat} (hq : pre.length = q) (hb : bc < S0) (hw : w0.heap.size ≤ bc) (hG : ∀ k, Gd k → k < S0 ∧ k ≠ bc) (hsz : S0 + m ≤ Y.heap.size)
    (k1 : Boxed Y bc 33 v) (k2 : Y.ownsRow w0.heap.size 3 1 v pre.length (elV pre)) (k3 : ∀ g, v.ownBlock = some g → S0 + m ≤ g) (k4 : Below w0.heap.size w0 Y) {tmp : Obj}
    (hown : Z.ownsRow w0.heap.size 3 1 (.slice (some ⟨g2, 0, none⟩) (q + 1) cap2) (q + 1) (elV pre ++ [.int .i64 (x : Int)])) (hgrow : (Y.alloc tmp).grownBy Z v.ownBlock) (hat : v.ownBlock = some g2 ∨ g2 = Y.heap.size + 1) :
    Boxed Z bc 33 v ∧ ColI w0 bc (S0 + m) (pre ++ [x]) (Z.setCell ⟨bc, 0, none⟩ (.slice (some ⟨g2, 0, none⟩) (q + 1) cap2)) ∧ KpIt S0 m Gd Y (Z.setCell ⟨bc, 0, none⟩ (.slice (some ⟨g2, 0, none⟩) (q + 1) cap2)) ∧ (∀ B, KeepsFrom B Y (Z.setCell ⟨bc, 0, none⟩ (.slice (some ⟨g2, 0, none⟩) (q + 1) cap2))) := by
  subst hq
  obtain ⟨hv1, hv2, hr2, hk2, hb2⟩ := k1.appended (by decide) k2 k4.size hw hown hgrow
  refine ⟨hv1, ⟨⟨_, hv2, by rw [List.length_append, elV_snoc]; exact hr2, fun g hg => ?_⟩, k4.trans hb2⟩, ⟨hb2.size, fun k cs t fr hk hc => ?_, fun k o _ hc ho => hk2.same k o hc ho⟩, fun B => hk2.from B⟩
  · obtain rfl : g2 = g := by simpa [Value.ownBlock] using hg
    rcases hat with h | h
    · exact k3 _ h
    · omega
  · have hkl := at_lt hc
    have hlt : k < S0 + m := by rcases hk with h | h; have := hG k h; omega; omega
    have hne : k ≠ bc := by rcases hk with h | h; exact (hG k h).2; omega
    rw [Below.heap_setCell Z ⟨bc, 0, none⟩ _ k hne, hgrow.block k (by simp; omega) (fun e => by have := k3 k e.symm; omega), Below.heap_alloc _ _ _ hkl]
    exact hc
set_option maxHeartbeats 4000000 in
theorem c_list (s : Nat) (hs : s < 2 ^ 12) (w : World) :
    Calls Try.prog 60 #[.int .u16 (s : Int)] w fun e w' => ∃ v, e = .returned v ∧ w'.ownsRow w.heap.size 3 1 v (lst 12 s).length (elV (lst 12 s)) ∧ Below w.heap.size w w' := by
  obtain ⟨W, hW⟩ : ∃ W, W = w.alloc (.cells #[.slice none 0 0] 33) := ⟨_, rfl⟩
  have HB := Lib.hid (show Below w.heap.size w W by subst hW; exact (Below.refl _ _).alloc (Nat.le_refl _) _)
  have HX := Lib.hid (show Boxed W w.heap.size 33 (.slice none 0 0) by subst hW; exact Boxed.new _ _ _)
  have hzW : W.heap.size = w.heap.size + 1 := by subst hW; simp
  have HSQ := Lib.hid (c_each 7 (by omega) (fun k => k < w.heap.size) s hs w)
  have HLN := Lib.hid (lst_len 12 s)
  refine (callsIn_wide (n := 8)).1 ?_
  refine callsIn_of_wp_marks Try.func60 rfl trivial ?_ rfl
  simp only [Try.ntmps60, List.size_toArray, List.length_cons, List.length_nil, Nat.reduceAdd, Nat.reduceSub, Array.replicate_succ, Array.replicate_zero, List.push_toArray, List.append_toArray, List.nil_append, List.cons_append]
  rw [wpIn_wide]
  go_wp2_with (fail)
  rw [← hW]
  clear hW
  obtain ⟨i0, hi0, hzz0, hzz1, hzz2⟩ := info_parts int_info
  refine (wpIn_wide (n := 8)).1 ?_
  refine wpIn_it (n := 8) (by omega) (gf := 77) (fb := #[.int .u16 (s : Int)]) (lb := #[]) rfl eg_each (m := 0) (Gd := fun k => k < w.heap.size) (ok := okE) (ts := lst 12 s) (w0 := w) HSQ.out (KpG.of_below HB.out (Nat.le_refl _)) (fun v t h => by rw [h]; rfl)
    (fun pre X => ColI w w.heap.size (W.heap.size + 2 + 0) pre X) (fun _ _ _ => False)
    (fun pre X Y h hE => h.own hE (by omega) (by omega)) (fun _ _ _ _ h _ => h.elim)
    (fun pre X l o o' h hl ho hc => h.put (by omega) ho hc) (fun _ _ _ _ _ _ h _ _ _ => h.elim)
    ⟨⟨_, HX.out, World.ownsRow_nil _ _ _ _, fun g hg => by cases hg⟩, HB.out⟩ ?round ?done (fun _ _ _ _ _ _ h _ => h.elim)
  case round =>
    intro l pre v x X K hpre hok hK
    obtain rfl : v = #[.int .i64 (x : Int)] := hok
    gi_wp2_with (fail)
    refine hK _ _ (Below.refl _ _) ?_
    rintro Y ⟨o, o', ho, hoc, hYe⟩ hsz ⟨⟨v, k1, k2, k3⟩, k4⟩
    have hlen : pre.length + 1 ≤ (lst 12 s).length := by have := hpre.length_le; simpa using this
    have hl12 : pre.length + 1 ≤ 12 := Nat.le_trans hlen HLN.out
    have hcell := k1.cell
    have HK1 := Lib.hid k1
    have HK2 := Lib.hid k2
    have HK3 := Lib.hid k3
    have HK4 := Lib.hid k4
    have hbs := k4.size
    clear hYe ho hoc o o' hK k1 k2 k3 k4 hpre hlen
    gi_wp2_with (gi_at_builtin; refine wpListIn_append_lies _ rfl _ _ 33 rfl w.heap.size 3 i0 (.int .i64 0) 1 8 Try.underlying33 hi0 hzz0 hzz1 hzz2 rfl (by decide) _ _ _ rfl (HK2.out.alloc _) ⟨Y.heap.size, 0, none⟩ 1 1 [.int .i64 (x : Int)] rfl rfl (one_at (heap_alloc_new _ _)) (by simp [Value.oneCell']) (by decide) (by unfold maxLen; omega) (by omega) (by simp; omega) (Y.heap.size + 1) (by simp) ?_)
    intro g2 cap2 Z hown hgrow hat
    obtain ⟨hv1, hc2, hkp, hkf⟩ := col_step (S0 := W.heap.size + 2) (m := 0) (Gd := fun k => k < w.heap.size) rfl (by omega) (Nat.le_refl _) (fun k hk => by omega) hsz HK1.out HK2.out HK3.out HK4.out hown hgrow hat
    have hc1 := hv1.cell
    have hf1 := hv1.frozen
    have HC := Lib.hid hc2
    have HKP := Lib.hid hkp
    have HKF := Lib.hid hkf
    clear hv1 hc2 hkp hkf hown hgrow hat
    gi_wp2_with (fail)
    exact ⟨HKF.out _, HKP.out, HC.out⟩
  case done =>
    rintro D X rfl ⟨⟨v, k1, k2, k3⟩, k4⟩ hdef
    have hcell := k1.cell
    have HDEF := Lib.hid hdef
    have HR := Lib.hid (show (X.putObj W.heap.size (.deferred none)).ownsRow w.heap.size 3 1 v (lst 12 s).length (elV (lst 12 s)) from own_row_kept k2 (fun g cur _ hc => put_cells hc hdef rfl))
    have HB4 := Lib.hid (below_put (o' := .deferred none) k4 (by omega : w.heap.size ≤ W.heap.size))
    clear k1 k2 k3 k4 hdef
    go_wp2_with (fail)
    refine ⟨by simp, .inl ⟨_, _, rfl, run_takeDeferred HDEF.out, ?_⟩⟩
    exact ⟨v, by simp [results, Try.results60, go_sem], _, rfl, HR.out, HB4.out⟩
end Go.Proofs.Ytjheaeeeeggncaa

namespace Go.Proofs.Ytjheaeeeeggncaa
open Go.RowKit
attribute [local go_sem] Oper.semAt_some
set_option maxRecDepth 100000
set_option linter.unusedVariables false
set_option linter.unusedSimpArgs false

/-- A set without another one. -/
def dif (a b : Nat) : Nat := a ^^^ (a &&& b)
theorem dif_tb (a b k : Nat) : (dif a b).testBit k = (a.testBit k && !b.testBit k) := by
  unfold dif
  rw [Nat.testBit_xor, Nat.testBit_and]
  cases a.testBit k <;> cases b.testBit k <;> rfl
theorem dif_lt {a b m : Nat} (h : a < 2 ^ m) : dif a b < 2 ^ m := Nat.xor_lt_two_pow h (Nat.lt_of_le_of_lt Nat.and_le_left h)
/-- A set without those of some others. -/
def redF (f : Nat → Nat) (s : Nat) (l : List Nat) : Nat := l.foldl (fun d i => dif d (f i)) s
theorem redF_snoc (f : Nat → Nat) (s : Nat) (l : List Nat) (i : Nat) : redF f s (l ++ [i]) = dif (redF f s l) (f i) := by simp [redF]
theorem redF_lt {f : Nat → Nat} {m : Nat} : ∀ (l : List Nat) {s : Nat}, s < 2 ^ m → redF f s l < 2 ^ m
  | [], _, h => h
  | i :: l, s, h => redF_lt (f := f) l (dif_lt h)
theorem bits_dif16 (a b : Nat) (ha : a < 65536) (hb : b < 65536) : bits BinOp.andNot IntKind.u16 (a : Int) (b : Int) = ((dif a b : Nat) : Int) := by
  have h1 : (BitVec.ofInt 16 (a : Int)) = BitVec.ofNat 16 a := BitVec.ofInt_natCast _ _
  have h2 : (BitVec.ofInt 16 (b : Int)) = BitVec.ofNat 16 b := BitVec.ofInt_natCast _ _
  have h3 : bits BinOp.andNot IntKind.u16 (a : Int) (b : Int) = ((BitVec.ofNat 16 a &&& ~~~BitVec.ofNat 16 b).toNat : Int) := by
    show IntKind.u16.wrap ((BitVec.ofInt 16 (a : Int) &&& ~~~BitVec.ofInt 16 (b : Int)).toNat : Int) = _
    rw [h1, h2]
    exact wrap16 _ (BitVec.ofNat 16 a &&& ~~~BitVec.ofNat 16 b).isLt
  rw [h3]
  have hd : dif a b < 2 ^ 16 := dif_lt (by omega)
  have e : BitVec.ofNat 16 a &&& ~~~BitVec.ofNat 16 b = BitVec.ofNat 16 (dif a b) := BitVec.eq_of_getLsbD_eq fun i hi => by
    rw [BitVec.getLsbD_and, BitVec.getLsbD_not, BitVec.getLsbD_ofNat, BitVec.getLsbD_ofNat, BitVec.getLsbD_ofNat, dif_tb]
    simp [hi]
  rw [e, BitVec.toNat_ofNat, Nat.mod_eq_of_lt hd]
theorem nat64 (k : Nat) (h : k < 9223372036854775808) : IntKind.i64.wrap (k : Int) = (k : Int) := by
  simp [IntKind.wrap, IntKind.bits, IntKind.signed]
  omega
/-- Sets in memory. -/
def unV (x : Nat) (_ : Nat) : Value := .int .u16 (x : Int)
theorem unV_at {w : World} {b o c : Nat} {l : List Nat} (h : Rv 1 unV w (some ⟨b, o, none⟩) c l) {j : Nat} {x : Nat} (hj : l[j]? = some x) : w.cell? ⟨b, o + j, none⟩ = some (.int .u16 (x : Int)) := by
  obtain ⟨b', o', e, -, h0⟩ := h.at_ hj
  injection e with e
  injection e with e1 e2
  subst e1 e2
  have := h0 0 (by omega)
  simpa [unV] using this
def fL (n : Nat) (f : Nat → Nat) : List Nat := (List.range n).map f
theorem fL_len (n : Nat) (f : Nat → Nat) : (fL n f).length = n := by simp [fL]
theorem Blk.rv {w : World} {g n : Nat} {f : Nat → Nat} (h : Blk w g n f) (hn : n ≤ 12) : Rv 1 unV w (some ⟨g, 0, none⟩) n (fL n f) := by
  refine ⟨by rw [fL_len]; exact Nat.le_refl _, by unfold maxLen; omega, (by intro h; cases h), fun _ => ⟨g, 0, rfl, at_lt h, fun j x hj i hi => ?_⟩⟩
  obtain rfl : i = 0 := by omega
  have hj' : j < n := by have := (List.getElem?_eq_some_iff.1 hj).1; rwa [fL_len] at this
  have hx : f j = x := by simp [fL, hj'] at hj; exact hj
  have := h.at_ hj'
  rw [hx] at this
  rw [show 0 + j * 1 + 0 = j by omega]
  exact this
/-- Sets as lists. -/
def listsU (l : List Nat) : List (List Int) := l.map fun s => intsN (lst 12 s)
theorem listsU_fL (n : Nat) (f : Nat → Nat) : listsU (fL n f) = setsL f n := by simp [listsU, fL, setsL]
set_option maxHeartbeats 16000000 in
theorem c_listsOf (A : Option Addr) (c : Nat) (l : List Nat) (hl : l.length ≤ 12) (h12 : ∀ x ∈ l, x < 2 ^ 12) (w : World) (h : Rv 1 unV w A c l) :
    Calls Try.prog 49 #[.slice A l.length c] w fun e w' => ∃ v ys, e = .returned v ∧ OutL w.heap.size w' v ys ∧ ys.map (·.l) = listsU l ∧ Below w.heap.size w w' := by
  have H := Lib.hid h
  have k1 := h.1; have k2 := h.2.1
  unfold maxLen at k2
  have HL := Lib.hid h12
  clear h h12
  obtain ⟨i1, hi1, hz1, hz2, hz3⟩ := info_parts li_info
  go_enter Try.func49, Try.ntmps49
  go_wp2_with (fail)
  go_loopw [3, 8] (fun v i wr => ∃ k : Nat, k ≤ l.length ∧ i = .int .i64 (k : Int) ∧ Hid (Below w.heap.size w wr) ∧ ∃ ys : List LsV, ys.length = k ∧ Hid (OutL w.heap.size wr v ys) ∧ Hid (ys.map (·.l) = listsU (l.take k))) (fun _ i _ => l.length - (intOf i).toNat)
  case atStart => exact ⟨0, Nat.zero_le _, rfl, Lib.hid (Below.refl _ _), [], rfl, Lib.hid ⟨World.ownsRow_nil _ _ _ _, fun y hy => by cases hy⟩, Lib.hid (by simp [listsU])⟩
  case round =>
    obtain ⟨k, hk, rfl, hK, ys, hyl, ho, hm⟩ := hrel
    have hki : ((k : Nat) : Int).toNat = k := by omega
    by_cases hlt : k < l.length
    · have hkl : (k : Int) < ((l.length : Nat) : Int) := by omega
      obtain ⟨s, hs⟩ : ∃ s, l[k]? = some s := ⟨_, List.getElem?_eq_getElem hlt⟩
      have HK := H.out.on hK.out (Nat.le_refl _)
      obtain ⟨pb, o, rfl, -, -⟩ := HK.at_ hs
      have b0 := unV_at HK hs
      have hs12 := HL.out s (List.mem_of_getElem? hs)
      have HNX := Lib.hid (show listsU (l.take (k + 1)) = listsU (l.take k) ++ [intsN (lst 12 s)] by rw [take_snoc hs]; simp [listsU])
      obtain ⟨As, cs, rfl⟩ := own_shape ho.out.1
      have hln : ys.length ≤ 12 := by omega
      have HYL := Lib.hid hyl
      clear hs HK hyl
      go_wp2_with (fail)
      go_at_call 60
      refine (c_list s hs12 wr).mono ?_
      rintro e w3 ⟨v3, rfl, o3, b3⟩
      obtain ⟨A3, c3, rfl⟩ := own_shape o3
      have K3 := Lib.hid (below_join hK.out b3 hK.out.size)
      have O3 := Lib.hid (ho.out.on b3 (Nat.le_refl _))
      have Y3 := Lib.hid (show w3.ownsRow w.heap.size 3 1 (.slice A3 (intsN (lst 12 s)).length c3) (intsN (lst 12 s)).length (cellsV 1 inV (intsN (lst 12 s))) by
        rw [intsN_len, ← elV_ints]; exact own_mono o3 hK.out.size)
      have hz4 := K3.out.size
      obtain ⟨l', hl'⟩ : ∃ l', intsN (lst 12 s) = l' := ⟨_, rfl⟩
      have hll : (lst 12 s).length = l'.length := by rw [← hl', intsN_len]
      rw [hll]
      rw [hl'] at Y3 HNX
      clear b3 o3 b0 hl' hll
      go_wp2_with (at_builtin; refine wpList_append_lies _ rfl _ _ 22 rfl w.heap.size 33 i1 (.slice none 0 0) 1 24 Try.underlying22 hi1 hz1 hz2 hz3 rfl (by decide) (.slice As ys.length cs) ys.length _ rfl (O3.out.1.alloc _) ⟨w3.heap.size, 0, none⟩ 1 1 [.slice A3 l'.length c3] rfl rfl (World.news_of_block (heap_alloc_new _ _)) (by simp [Value.oneCell']) (by decide) (by unfold maxLen; omega) (by omega) (by simp; omega) (w3.heap.size + 1) (by simp) ?_; intro g4 cap4 Z hown hgrow _ _; have HBZ := Lib.hid ((K3.out.alloc K3.out.size _).grown hgrow (by have := K3.out.size; simp; omega) (fun k hk => (ownsRow_lt O3.out.1 hk).1)); have HOZ := Lib.hid (O3.out.push ⟨A3, c3, l'⟩ Y3.out hown hgrow); clear hown hgrow)
      go_roundw
      case rel => exact ⟨k + 1, by omega, by go_num, HBZ, _, by simp [HYL.out], HOZ, Lib.hid (by rw [List.map_append, hm.out, HNX.out]; rfl)⟩
      case measure => simp only [intOf]; omega
    · obtain rfl : k = l.length := by omega
      have HM := Lib.hid (show ys.map (·.l) = listsU l by rw [hm.out, List.take_of_length_le (Nat.le_refl _)])
      go_wp2_with (fail)
      go_ret
      exact ⟨_, ys, rfl, ho.out, HM.out, hK.out⟩
set_option maxHeartbeats 8000000 in
theorem c_Closure (A : Option Addr) (c : Nat) (xs : List LsV) (w : World) (h : LsAt w A c xs) : Calls Try.prog 13 #[.slice A xs.length c] w (LsTo w (rdN xs) (setsL (ordF xs) xs.length)) := by
  have H := Lib.hid h
  obtain ⟨R, hR⟩ : ∃ R, R = LsTo w (rdN xs) (setsL (ordF xs) xs.length) := ⟨_, rfl⟩
  rw [← hR]
  have HRR := Lib.hid hR
  clear hR h
  go_enter Try.func13, Try.ntmps13
  go_wp2_with (fail)
  go_at_call 48
  refine (c_read A c xs w H.out).mono ?_
  rintro e w1 ⟨⟨h0, rfl⟩ | ⟨h0, hl, hok, -, g, rfl, hg, hblk⟩, b1⟩
  · have H0 := Lib.hid h0
    have K1 := Lib.hid b1
    have hne : (rdN xs != 0) = true := by simpa using h0
    have hd0 : (rdN xs == 0) = false := by simpa using h0
    clear h0 b1
    go_wp2_with (fail)
    rw [HRR.out]
    exact ⟨.inl ⟨H0.out, rfl⟩, K1.out⟩
  · have H0 := Lib.hid h0
    have K1 := Lib.hid b1
    have HC := Lib.hid (c_listsOf (some ⟨g, 0, none⟩) xs.length (fL xs.length (ordF xs)) (by rw [fL_len]; exact hl) (fun x hx => by
      obtain ⟨j, -, rfl⟩ := List.mem_map.1 hx
      exact ordF_lt hl hok j) w1 (hblk.rv hl))
    rw [fL_len, listsU_fL] at HC
    clear h0 b1 hblk
    go_wp2_with (fail)
    go_at_call 49
    refine HC.out.mono ?_
    rintro e w2 ⟨v, ys, rfl, ho, hm, b2⟩
    have K2 := Lib.hid (below_join K1.out b2 K1.out.size)
    have HO := Lib.hid ho
    have HM := Lib.hid hm
    have hs1 := K1.out.size
    clear b2 ho hm
    go_wp2_with (fail)
    rw [HRR.out, H0.out]
    exact ⟨.inr ⟨rfl, _, ys, rfl, ⟨own_mono HO.out.1 hs1, fun y hy => own_mono (HO.out.2 y hy) hs1⟩, HM.out⟩, K2.out⟩
end Go.Proofs.Ytjheaeeeeggncaa

namespace Go.Proofs.Ytjheaeeeeggncaa
open Go.RowKit Go.Shelf
attribute [local go_sem] Oper.semAt_some
set_option maxRecDepth 100000
set_option linter.unusedVariables false
set_option linter.unusedSimpArgs false

/-- All blocks but b stand. -/
structure But (b : Nat) (X Y : World) : Prop where
  os : Y.os = X.os
  tape : Y.tape = X.tape
  output : Y.output = X.output
  size : X.heap.size ≤ Y.heap.size
  same : ∀ (k : Nat) (o : Obj), k ≠ b → X.heap[k]? = some o → Y.heap[k]? = some o
section
variable {b S m : Nat} {X Y Z : World}
theorem But.refl (X : World) : But b X X := ⟨rfl, rfl, rfl, Nat.le_refl _, fun _ _ _ h => h⟩
theorem But.trans (h : But b X Y) (k : But b Y Z) : But b X Z := ⟨k.os.trans h.os, k.tape.trans h.tape, k.output.trans h.output, Nat.le_trans h.size k.size, fun i o ho hi => k.same i o ho (h.same i o ho hi)⟩
theorem But.of_below {B : Nat} (h : Below B X Y) (hB : X.heap.size ≤ B) : But b X Y := ⟨h.os, h.tape, h.output, h.size, fun k _ _ hk => (h.block k (Nat.lt_of_lt_of_le (at_lt hk) hB)).trans hk⟩
theorem But.store (x : Value) (o : Nat) : But b X (X.setCell ⟨b, o, none⟩ x) :=
  ⟨rfl, rfl, rfl, by simp [World.setCell], fun k u hne hk => by rw [Below.heap_setCell _ ⟨b, o, none⟩ x k hne]; exact hk⟩
theorem But.drew : But b X X.drew := ⟨rfl, rfl, rfl, Nat.le_refl _, fun _ _ _ h => h⟩
theorem But.below {w : World} {B : Nat} (h : But b X Y) (k : Below B w X) (hb : B ≤ b) (hB : B ≤ w.heap.size) : Below B w Y := by
  refine ⟨h.os.trans k.os, h.tape.trans k.tape, h.output.trans k.output, Nat.le_trans k.size h.size, fun i hi => ?_⟩
  have hlt : i < X.heap.size := Nat.lt_of_lt_of_le (Nat.lt_of_lt_of_le hi hB) k.size
  have h3 := Array.getElem?_eq_getElem hlt
  have := h.same i _ (by omega) h3
  rw [this, ← h3]
  exact k.block i hi
theorem But.own (h : But b X Y) (hE : OwnIt S m Y Z) (hS : X.heap.size ≤ S) : But b X Z :=
  ⟨hE.os.trans h.os, hE.tape.trans h.tape, hE.output.trans h.output, Nat.le_trans h.size hE.size, fun k o hne hk => hE.same k o (h.same k o hne hk) (.inl (by have := at_lt hk; omega))⟩
theorem But.put {l : Nat} (o' : Obj) (h : But b X Y) (hl : X.heap.size ≤ l) : But b X (Y.putObj l o') :=
  ⟨h.os, h.tape, h.output, by simpa using h.size, fun k o hne hk => put_else (h.same k o hne hk) (by have := at_lt hk; omega)⟩
end
/-- Marks of ranges that have ended. -/
def marks (bs : List Nat) : List Deferred := bs.map fun b => { target := .collected b, args := #[] }
structure Mks (B : Nat) (bs : List Nat) (W : World) : Prop where
  nodup : bs.Nodup
  at_ : ∀ b ∈ bs, B ≤ b ∧ W.heap[b]? = some (.deferred (some []))
structure Off (bs : List Nat) (X Y : World) : Prop where
  os : Y.os = X.os
  tape : Y.tape = X.tape
  output : Y.output = X.output
  size : X.heap.size ≤ Y.heap.size
  same : ∀ (k : Nat) (o : Obj), k ∉ bs → X.heap[k]? = some o → Y.heap[k]? = some o
theorem Mks.nil (B : Nat) (W : World) : Mks B [] W := ⟨List.nodup_nil, fun b hb => by cases hb⟩
theorem Mks.lt {B : Nat} {bs : List Nat} {W : World} (h : Mks B bs W) {b : Nat} (hb : b ∈ bs) : b < W.heap.size := at_lt (h.at_ b hb).2
theorem Mks.kept {B : Nat} {bs : List Nat} {X Y : World} (h : Mks B bs X) (hs : ∀ (k : Nat) (o : Obj), X.heap[k]? = some o → o.isCells = false → Y.heap[k]? = some o) : Mks B bs Y :=
  ⟨h.nodup, fun b hb => ⟨(h.at_ b hb).1, hs _ _ (h.at_ b hb).2 rfl⟩⟩
theorem Mks.on {B C : Nat} {bs : List Nat} {X Y : World} (h : Mks B bs X) (hb : Below C X Y) (hC : X.heap.size ≤ C) : Mks B bs Y := h.kept fun k o hk _ => (hb.block _ (Nat.lt_of_lt_of_le (at_lt hk) hC)).trans hk
theorem Mks.but {B c : Nat} {bs : List Nat} {X Y : World} {cs : Array Value} {T : TypeId} (h : Mks B bs X) (hb : But c X Y) (hc : X.heap[c]? = some (.cells cs T (0, 0))) : Mks B bs Y := h.kept fun k o hk ho => hb.same k o (fun e => by subst e; rw [hc] at hk; cases hk; cases ho) hk
theorem Mks.push {B D : Nat} {bs : List Nat} {X Y : World} (h : Mks B bs X) (k : Mks B bs Y) (hD : X.heap.size ≤ D) (hB : B ≤ D) (hd : Y.heap[D]? = some (.deferred (some []))) : Mks B (D :: bs) Y :=
  ⟨List.nodup_cons.2 ⟨fun hm => by have := h.lt hm; omega, h.nodup⟩, fun b hb => by
    rcases List.mem_cons.1 hb with rfl | hb
    · exact ⟨hB, hd⟩
    · exact k.at_ b hb⟩
theorem Off.below {B : Nat} {bs : List Nat} {w X Y : World} (h : Off bs X Y) (hb : ∀ b ∈ bs, B ≤ b) (k : Below B w X) (hB : B ≤ w.heap.size) : Below B w Y := by
  refine ⟨h.os.trans k.os, h.tape.trans k.tape, h.output.trans k.output, Nat.le_trans k.size h.size, fun i hi => ?_⟩
  have hlt : i < X.heap.size := Nat.lt_of_lt_of_le (Nat.lt_of_lt_of_le hi hB) k.size
  have h3 := Array.getElem?_eq_getElem hlt
  have := h.same i _ (fun hm => by have := hb i hm; omega) h3
  rw [this, ← h3]
  exact k.block i hi
theorem Off.cells {B : Nat} {bs : List Nat} {X Y : World} (h : Off bs X Y) (hm : Mks B bs X) {k : Nat} {cs : Array Value} {T : TypeId} {fr : Nat × Nat} (hk : X.heap[k]? = some (.cells cs T fr)) : Y.heap[k]? = some (.cells cs T fr) :=
  h.same k _ (fun hb => by have := (hm.at_ k hb).2; rw [hk] at this; cases this) hk
theorem Off.own {B : Nat} {bs : List Nat} {X Y : World} (h : Off bs X Y) (hm : Mks B bs X) {base : Nat} {e : TypeId} {size n : Nat} {v : Value} {xs : List Value} (ho : X.ownsRow base e size v n xs) : Y.ownsRow base e size v n xs :=
  own_row_kept ho fun g cur _ hc => h.cells hm hc
theorem own_cells {X : World} {base : Nat} {e : TypeId} {size n : Nat} {v : Value} {xs : List Value} (h : X.ownsRow base e size v n xs) {g : Nat} (hg : v.ownBlock = some g) : ∃ cs, X.heap[g]? = some (.cells cs e (0, 0)) := by
  obtain ⟨k1, ⟨rfl, -⟩ | ⟨g', cap, cur, rfl, k3, k4, k⟩⟩ := h
  · cases hg
  · have hg2 : some g' = some g := hg
    injection hg2 with hg2
    subst hg2
    exact ⟨_, k4⟩
/-- Marks stand when a row grows. -/
theorem Mks.grown {B : Nat} {bs : List Nat} {X Z : World} {base : Nat} {e : TypeId} {size n : Nat} {v : Value} {xs : List Value} {tmp : Obj} (h : Mks B bs X) (ho : X.ownsRow base e size v n xs) (hg : (X.alloc tmp).grownBy Z v.ownBlock) : Mks B bs Z :=
  h.kept fun k o hk hc => by
    have hl := at_lt hk
    rw [hg.block k (by simp; omega) (fun e => by obtain ⟨cs, h2⟩ := own_cells ho e.symm; rw [hk] at h2; cases h2; cases hc), Below.heap_alloc _ _ _ hl]
    exact hk
theorem leaves_marks {F : Fence} {n : Nat} {P : Program} {fn : Func} {tmps : Array Value} {R : Ending → World → Prop} {u : FrameMode} (hu : u ≠ .run) {B : Nat} : ∀ (bs : List Nat) (W : World), Mks B bs W →
    (∀ W', Off bs W W' → LeavesInM F n P fn tmps R [] u W') → LeavesInM F n P fn tmps R (marks bs) u W
  | [], W, _, h => h W ⟨rfl, rfl, rfl, Nat.le_refl _, fun _ _ _ hk => hk⟩
  | b :: bs, W, hm, h => by
    have hn := List.nodup_cons.1 hm.nodup
    refine ⟨hu, .inl ⟨b, _, rfl, run_takeDeferred (hm.at_ b (by simp)).2, leaves_marks (B := B) hu bs _ ⟨hn.2, fun c hc => ?_⟩ fun W' hW' => h W' ?_⟩⟩
    · have := hm.at_ c (by simp [hc])
      exact ⟨this.1, put_else this.2 (fun e => hn.1 (e ▸ hc))⟩
    · exact ⟨hW'.os, hW'.tape, hW'.output, Nat.le_trans (by simp) hW'.size, fun k o hk ho => hW'.same k o (fun h => hk (by simp [h])) (put_else ho (fun e => hk (by simp [e])))⟩
end Go.Proofs.Ytjheaeeeeggncaa

namespace Go.Proofs.Ytjheaeeeeggncaa
open Go.RowKit Go.Shelf
attribute [local go_sem] Oper.semAt_some
set_option maxRecDepth 100000
set_option linter.unusedVariables false
set_option linter.unusedSimpArgs false

/-- What comes directly before each element. -/
def dirS (f : Nat → Nat) (j : Nat) : Nat := redF f (f j) (lst 12 (f j))
set_option maxHeartbeats 16000000 in
theorem c_directly (g n : Nat) (f : Nat → Nat) (hn : n ≤ 12) (hf : ∀ j, f j < 2 ^ 12) (hlt : ∀ j k, j < n → (f j).testBit k = true → k < n) (w : World) (h : Blk w g n f) :
    Calls Try.prog 52 #[.slice (some ⟨g, 0, none⟩) n n] w fun e w' => ∃ v, e = .returned v ∧ w'.ownsRow w.heap.size 72 1 v n (cellsV 1 unV (fL n (dirS f))) ∧ Below w.heap.size w w' := by
  have H := Lib.hid h
  have HF := Lib.hid hf
  have HLT := Lib.hid hlt
  clear h hf hlt
  obtain ⟨W, hW⟩ : ∃ W, W = w.alloc (.cells #[.slice (some ⟨g, 0, none⟩) n n] 64) := ⟨_, rfl⟩
  have HB := Lib.hid (show Below w.heap.size w W by subst hW; exact (Below.refl _ _).alloc (Nat.le_refl _) _)
  have H0 := Lib.hid (show Boxed W w.heap.size 64 (.slice (some ⟨g, 0, none⟩) n n) by subst hW; exact heap_alloc_new _ _)
  have x0 := H0.out.cell
  have hzW : W.heap.size = w.heap.size + 1 := by subst hW; simp
  obtain ⟨i1, hi1, hz1, hz2, hz3⟩ := info_parts el_info
  refine (callsIn_wide (n := 8)).1 ?_
  refine callsIn_of_wp_marks Try.func52 rfl trivial ?_ rfl
  simp only [Try.ntmps52, List.size_toArray, List.length_cons, List.length_nil, Nat.reduceAdd, Nat.reduceSub, Array.replicate_succ, Array.replicate_zero, List.push_toArray, List.append_toArray, List.nil_append, List.cons_append]
  rw [wpIn_wide]
  go_wp2_with (fail)
  rw [← hW]
  clear hW
  refine wp_loop (fun a' wr => ∃ (u3 u5 u6 u7 u10 u11 u12 u13 u14 u15 u16 u17 u18 u19 u20 u21 u22 u23 u24 u25 u26 u27 u28 : Value) (ds : List Deferred), (∃ k : Nat, k ≤ n ∧ u10 = .int .i64 (k : Int) ∧ Hid (Below W.heap.size W wr) ∧ Hid (wr.ownsRow W.heap.size 72 1 u3 k (cellsV 1 unV (fL k (dirS f)))) ∧ ∃ bs, ds = marks bs ∧ Hid (Mks W.heap.size bs wr)) ∧ a' = { tmps := #[.slice (some ⟨g, 0, none⟩) n n, .pointer (some ⟨w.heap.size, 0, none⟩), .slice none 0 0, u3, undef, u5, u6, u7, .slice (some ⟨g, 0, none⟩) n n, .int .i64 (n : Int), u10, u11, u12, u13, u14, u15, u16, u17, u18, u19, u20, u21, u22, u23, u24, u25, u26, u27, u28, undef], defers := ds }) (fun a' _ => n - (intOf (a'.tmps.getD 10 undef)).toNat) ?atStart ?round
  case atStart =>
    (repeat apply Exists.intro)
    refine ⟨?rel0, rfl⟩
    exact ⟨0, Nat.zero_le _, rfl, Lib.hid (Below.refl _ _), Lib.hid (World.ownsRow_nil _ _ _ _), [], rfl, Lib.hid (Mks.nil _ _)⟩
  case round =>
    rintro _ wr ⟨u3, u5, u6, u7, u10, u11, u12, u13, u14, u15, u16, u17, u18, u19, u20, u21, u22, u23, u24, u25, u26, u27, u28, ds, ⟨k, hk, rfl, hK, ho, bs, rfl, hM⟩, rfl⟩
    have hki : ((k : Nat) : Int).toNat = k := by omega
    obtain ⟨As, cs, rfl⟩ := own_shape ho.out
    by_cases hlt : k < n
    · have hkl : (k : Int) < (n : Int) := by omega
      have HBW := Lib.hid ((HB.out.trans (hK.out.mono (by omega))))
      have HBK := Lib.hid (H.out.on HBW.out (Nat.le_refl _))
      have b0 := HBK.out.at_ hlt
      have hs12 := HF.out k
      obtain ⟨s, hs⟩ : ∃ s, f k = s := ⟨_, rfl⟩
      have HS := Lib.hid hs
      rw [hs] at b0 hs12
      have hgb : g < w.heap.size := at_lt H.out
      have hzr := hK.out.size
      obtain ⟨V, hV⟩ : ∃ V, V = wr.alloc (.cells #[.int .u16 (s : Int)] 72) := ⟨_, rfl⟩
      have HBV := Lib.hid (show Below wr.heap.size wr V by subst hV; exact (Below.refl _ _).alloc (Nat.le_refl _) _)
      have HX := Lib.hid (show Boxed V wr.heap.size 72 (.int .u16 (s : Int)) by subst hV; exact heap_alloc_new _ _)
      have hzV : V.heap.size = wr.heap.size + 1 := by subst hV; simp
      have HMV := Lib.hid (hM.out.on HBV.out (Nat.le_refl _))
      have HSQ := Lib.hid (c_each 7 (by omega) (fun _ => False) s hs12 V)
      have HLS := Lib.hid (show ∀ i ∈ lst 12 s, i < n from fun i hi => HLT.out k i hlt (by rw [HS.out]; exact (lst_mem.1 hi).2))
      have HKV := Lib.hid (below_join hK.out HBV.out hzr)
      have HOV := Lib.hid (own_on ho.out HBV.out (Nat.le_refl _))
      clear hs
      go_wp2_with (fail)
      rw [← hV]
      clear hV b0
      refine (wpIn_wide (n := 8)).1 ?_
      refine wpIn_it (n := 8) (by omega) (gf := 77) (fb := #[.int .u16 (s : Int)]) (lb := #[]) rfl eg_each (m := 0) (Gd := fun _ => False) (ok := okE) (ts := lst 12 s) (w0 := V) HSQ.out (KpG.refl _) (fun v t h => by rw [h]; rfl)
        (fun pre X => Boxed X wr.heap.size 72 (.int .u16 ((redF f s pre : Nat) : Int)) ∧ But wr.heap.size V X) (fun _ _ _ => False)
        (fun pre X Y h hE => ⟨hE.same _ _ h.1 (.inl (by omega)), h.2.own hE (by omega)⟩) (fun _ _ _ _ h _ => h.elim)
        (fun pre X l o o' h hl ho hc => ⟨boxed_put h.1 ho hc, h.2.put _ (by omega)⟩) (fun _ _ _ _ _ _ h _ _ _ => h.elim)
        ⟨HX.out, But.refl _⟩ ?iround ?idone (fun _ _ _ _ _ _ h _ => h.elim)
      case iround =>
        intro l pre v i X K hpre hok hKK
        obtain rfl : v = #[.int .i64 (i : Int)] := hok
        gi_wp2_with (fail)
        refine hKK _ _ (Below.refl _ _) ?_
        rintro Y ⟨o, o', ho', hoc, hYe⟩ hsz ⟨hI, hBt⟩
        have hin := HLS.out i (hpre.subset (by simp))
        have hil : (i : Int) < (n : Int) := by omega
        have y0 := hI.cell
        have f0 := hI.frozen
        have HWY := Lib.hid (hBt.below (w := W) HKV.out (by omega) (Nat.le_refl _))
        have y1 := (show Boxed Y w.heap.size 64 (.slice (some ⟨g, 0, none⟩) n n) from (HWY.out.block _ (by omega)).trans H0.out).cell
        have y2 := (H.out.on (HB.out.trans (HWY.out.mono (by omega))) (Nat.le_refl _)).at_ hin
        have hq := HF.out i
        have hrl := redF_lt (f := f) pre hs12
        have HI := Lib.hid hI
        have HBT := Lib.hid hBt
        have HNX := Lib.hid (redF_snoc f s pre i)
        have hfm : Try.prog.follows Departure.mixedOrders = true := by kernel_rfl
        obtain ⟨q, hq0⟩ : ∃ q, f i = q := ⟨_, rfl⟩
        obtain ⟨t, ht0⟩ : ∃ t, redF f s pre = t := ⟨_, rfl⟩
        rw [hq0] at y2 hq HNX
        rw [ht0] at y0 hrl HNX HI
        have hdf := bits_dif16 t q (by omega) (by omega)
        obtain ⟨t2, ht2⟩ : ∃ t2, dif t q = t2 := ⟨_, rfl⟩
        rw [ht2] at hdf HNX
        clear hYe ho' hoc o o' hKK hI hBt hpre hq0 ht0 ht2
        gi_wp2_with (fail)
        gi_region_o
        all_goals gi_wp2_with (fail)
        all_goals
          have hk := kf_store (B := V.heap.size + 2) (o := 0) (.int .u16 (t2 : Int)) HI.out
          have hk2 := kf_store (B := V.heap.size) (o := 0) (.int .u16 (t2 : Int)) HI.out
          have hb2 := HBT.out.trans (But.store (.int .u16 (t2 : Int)) 0)
          exact ⟨⟨hk2.size, hk2.same⟩, ⟨hk.size, fun k' _ _ _ hk' _ => by rcases hk' with h | h; exact h.elim; omega, hk.same⟩, by rw [HNX.out]; exact HI.out.set _, ⟨hb2.os, hb2.tape, hb2.output, hb2.size, hb2.same⟩⟩
      case idone =>
        rintro D X rfl ⟨hI, hBt⟩ hdef
        obtain ⟨r, hr⟩ : ∃ r, redF f s (lst 12 s) = r := ⟨_, rfl⟩
        rw [hr] at hI
        have y0 := hI.cell
        have HFN := Lib.hid (show cellsV 1 unV (fL (k + 1) (dirS f)) = cellsV 1 unV (fL k (dirS f)) ++ [.int .u16 (r : Int)] by
          have e : fL (k + 1) (dirS f) = fL k (dirS f) ++ [r] := by
            rw [← hr, ← HS.out]
            unfold fL
            rw [List.range_succ, List.map_append]
            rfl
          rw [e, cellsV_append]; rfl)
        have HOX := Lib.hid (show X.ownsRow W.heap.size 72 1 (.slice As k cs) k (cellsV 1 unV (fL k (dirS f))) from own_row_kept ho.out fun gg cur _ hc => hBt.same _ _ (by have := at_lt hc; omega) ((HBV.out.block _ (at_lt hc)).trans hc))
        have HMX := Lib.hid (show Mks W.heap.size ((wr.heap.size + 1) :: bs) X from by rw [← hzV]; exact Mks.push HMV.out (HMV.out.but hBt HX.out) (Nat.le_refl _) (by omega) hdef)
        have HKX := Lib.hid (show Below W.heap.size W X from hBt.below HKV.out (by omega) (Nat.le_refl _))
        have hzX := HKX.out.size
        clear hI hBt hdef hr
        go_wp2_with (at_builtin; refine wpList_append_lies _ rfl _ _ 63 rfl W.heap.size 72 i1 (.int .u16 0) 1 2 Try.underlying63 hi1 hz1 hz2 hz3 rfl (by decide) (.slice As k cs) k _ rfl (HOX.out.alloc _) ⟨X.heap.size, 0, none⟩ 1 1 [.int .u16 (r : Int)] rfl rfl (World.news_of_block (heap_alloc_new _ _)) (by simp [Value.oneCell']) (by decide) (by unfold maxLen; omega) (by omega) (by simp; omega) (X.heap.size + 1) (by simp) ?_; intro g4 cap4 Z hown hgrow _ _; have HBZ := Lib.hid ((HKX.out.alloc HKX.out.size _).grown hgrow (by have := HKX.out.size; simp; omega) (fun k hk => (ownsRow_lt HOX.out hk).1)); have HOZ := Lib.hid hown; have HMZ := Lib.hid (HMX.out.grown HOX.out hgrow); clear hown hgrow)
        refine ⟨⟨_, _, _, _, _, _, _, _, _, _, _, _, _, _, _, _, _, _, _, _, _, _, _, _, ⟨k + 1, by omega, by go_num, HBZ, Lib.hid (by rw [HFN.out]; exact HOZ.out), _, rfl, HMZ⟩, rfl⟩, ?_⟩
        simp [intOf]; omega
    · obtain rfl : k = n := by omega
      go_wp2_with (fail)
      refine leaves_marks (by simp) bs wr hM.out fun W' hW' => ?_
      exact ⟨.slice As k cs, by simp [results, Try.results52, go_sem], _, rfl, own_mono (hW'.own hM.out ho.out) (by omega), hW'.below (fun b hb => by have := (hM.out.at_ b hb).1; omega) (HB.out.trans (hK.out.mono (by omega))) (Nat.le_refl _)⟩
end Go.Proofs.Ytjheaeeeeggncaa

namespace Go.Proofs.Ytjheaeeeeggncaa
open Go.RowKit
attribute [local go_sem] Oper.semAt_some
set_option maxRecDepth 100000
set_option linter.unusedVariables false
set_option linter.unusedSimpArgs false

/-- An element stands in another one's list. -/
def EdF (xs : List LsV) (i k : Nat) : Prop := i < xs.length ∧ k ∈ lstF xs i
theorem ord_cb {xs : List LsV} (hok : NmOk xs) {i : Nat} (hi : i < xs.length) (k : Nat) : (ordF xs i).testBit k = true ↔ Cb (EdF xs) i k := by
  unfold ordF
  exact wAll_iff (E := EdF xs) (fun i k h => ⟨h.1, lstF_lt hok i k h.2⟩) (fun i hi k => by
    unfold dirA EdF
    rw [bitsL_tb]
    unfold lstF natsL
    rw [List.mem_map]
    exact ⟨fun h => ⟨hi, h⟩, fun h => h.2⟩) hi k
theorem ord_lt {xs : List LsV} (hok : NmOk xs) (j k : Nat) (hj : j < xs.length) (h : (ordF xs j).testBit k = true) : k < xs.length :=
  Cb.lt (fun i k h => lstF_lt hok i k h.2) ((ord_cb hok hj k).1 h)
theorem ord_po {xs : List LsV} (hok : NmOk xs) (hno : ¬ Loop xs) : Po xs.length (ordF xs) :=
  Po.of (E := EdF xs) (fun i k h => ⟨h.1, lstF_lt hok i k h.2⟩) (fun i hi k => ord_cb hok hi k) (fun i hi => by
    cases e : (ordF xs i).testBit i
    · rfl
    · exact absurd ⟨i, hi, e⟩ hno)
theorem dirS_lt {f : Nat → Nat} (hf : ∀ j, f j < 2 ^ 12) (j : Nat) : dirS f j < 2 ^ 12 := redF_lt _ (hf j)
set_option maxHeartbeats 8000000 in
theorem c_Reduce (A : Option Addr) (c : Nat) (xs : List LsV) (w : World) (h : LsAt w A c xs) : Calls Try.prog 15 #[.slice A xs.length c] w (LsTo w (rdN xs) (setsL (dirS (ordF xs)) xs.length)) := by
  have H := Lib.hid h
  obtain ⟨R, hR⟩ : ∃ R, R = LsTo w (rdN xs) (setsL (dirS (ordF xs)) xs.length) := ⟨_, rfl⟩
  rw [← hR]
  have HRR := Lib.hid hR
  clear hR h
  go_enter Try.func15, Try.ntmps15
  go_wp2_with (fail)
  go_at_call 48
  refine (c_read A c xs w H.out).mono ?_
  rintro e w1 ⟨⟨h0, rfl⟩ | ⟨h0, hl, hok, -, g, rfl, hg, hblk⟩, b1⟩
  · have H0 := Lib.hid h0
    have K1 := Lib.hid b1
    have hne : (rdN xs != 0) = true := by simpa using h0
    have hd0 : (rdN xs == 0) = false := by simpa using h0
    clear h0 b1
    go_wp2_with (fail)
    rw [HRR.out]
    exact ⟨.inl ⟨H0.out, rfl⟩, K1.out⟩
  · have H0 := Lib.hid h0
    have K1 := Lib.hid b1
    have HL := Lib.hid hl
    have HD := Lib.hid (c_directly g xs.length (ordF xs) hl (ordF_lt hl hok) (ord_lt hok) w1 hblk)
    have HDL := Lib.hid (dirS_lt (ordF_lt hl hok))
    clear h0 b1 hblk hl
    go_wp2_with (fail)
    go_at_call 52
    refine HD.out.mono ?_
    rintro e w2 ⟨v2, rfl, o2, b2⟩
    obtain ⟨A2, c2, rfl⟩ := own_shape o2
    have HV := Lib.hid (show Rv 1 unV w2 A2 c2 (fL xs.length (dirS (ordF xs))) by
      obtain ⟨A', c', e', hr'⟩ := own_rv (k := 1) (F := unV) (l := fL xs.length (dirS (ordF xs))) (by rw [fL_len]; exact o2)
      injection e' with e1 _ e2
      rw [e1, e2]; exact hr')
    have K2 := Lib.hid (below_join K1.out b2 K1.out.size)
    have HC := Lib.hid (c_listsOf A2 c2 (fL xs.length (dirS (ordF xs))) (by rw [fL_len]; exact HL.out) (fun x hx => by
      obtain ⟨j, -, rfl⟩ := List.mem_map.1 hx
      exact HDL.out j) w2 HV.out)
    rw [fL_len, listsU_fL] at HC
    clear b2 o2
    go_wp2_with (fail)
    go_at_call 49
    refine HC.out.mono ?_
    rintro e w3 ⟨v, ys, rfl, ho, hm, b3⟩
    have K3 := Lib.hid (below_join K2.out b3 K2.out.size)
    have HO := Lib.hid ho
    have HM := Lib.hid hm
    have hs1 := Lib.hid K2.out.size
    clear b3 ho hm
    go_wp2_with (fail)
    rw [HRR.out, H0.out]
    exact ⟨.inr ⟨rfl, _, ys, rfl, ⟨own_mono HO.out.1 hs1.out, fun y hy => own_mono (HO.out.2 y hy) hs1.out⟩, HM.out⟩, K3.out⟩
end Go.Proofs.Ytjheaeeeeggncaa

namespace Go.Proofs.Ytjheaeeeeggncaa
open Go.RowKit
attribute [local go_sem] Oper.semAt_some
set_option maxRecDepth 100000
set_option linter.unusedVariables false
set_option linter.unusedSimpArgs false

theorem idB_iff {f : Nat → Nat} {n s : Nat} (hn : n ≤ 12) (hs : s < 2 ^ n) : idB f s = true ↔ Idl n f s := by
  unfold idB Idl
  rw [List.all_eq_true]
  constructor
  · intro h i hi hsi k hk
    exact inside_iff.1 (of_decide_eq_true (h i (lst_mem.2 ⟨by omega, hsi⟩))) k hk
  · intro h i hi
    have hsi := (lst_mem.1 hi).2
    have hin : i < n := by
      rcases Nat.lt_or_ge i n with h | h
      · exact h
      · rw [Nat.testBit_lt_two_pow (Nat.lt_of_lt_of_le hs (Nat.pow_le_pow_right (by omega) h))] at hsi
        cases hsi
    exact decide_eq_true (inside_iff.2 (h i hin hsi))
theorem off_bit64 (s k : Nat) (hs : s < 65536) (hk : k ≤ 64) : (bits BinOp.and IntKind.i64 ((s : Int) / 2 ^ k) 1 == 0) = !s.testBit k := by
  have e1 : ((s : Int) / 2 ^ k) = ((s / 2 ^ k : Nat) : Int) := by simp
  have hlt : s / 2 ^ k < 65536 := Nat.lt_of_le_of_lt (Nat.div_le_self _ _) hs
  rw [e1, show (1 : Int) = ((1 : Nat) : Int) from rfl, bits_and64 _ 1 hlt (by decide), show (0 : Int) = ((0 : Nat) : Int) from rfl]
  have h1 := bit_one s k
  rw [Nat.and_one_is_mod] at h1 ⊢
  cases e : s.testBit k
  · rw [e] at h1
    have : s / 2 ^ k % 2 = 0 := by
      rcases Nat.mod_two_eq_zero_or_one (s / 2 ^ k) with h | h
      · exact h
      · exact absurd (h1.1 h) (by simp)
    rw [this]; rfl
  · rw [e] at h1
    rw [h1.2 rfl]; rfl
end Go.Proofs.Ytjheaeeeeggncaa

namespace Go.Proofs.Ytjheaeeeeggncaa
open Go.RowKit
attribute [local go_sem] Oper.semAt_some
set_option maxRecDepth 100000
set_option linter.unusedVariables false
set_option linter.unusedSimpArgs false

theorem enL_len (b : Nat → Nat) (s k : Nat) : (enL k b s).length ≤ k := by
  unfold enL
  exact Nat.le_trans (List.length_filter_le _ _) (by simp)
end Go.Proofs.Ytjheaeeeeggncaa

namespace Go.Proofs.Ytjheaeeeeggncaa
open Go.RowKit
attribute [local go_sem] Oper.semAt_some
set_option maxRecDepth 100000
set_option linter.unusedVariables false
set_option linter.unusedSimpArgs false

theorem lst_cut {n s : Nat} (hs : s < 2 ^ n) : ∀ j, lst (n + j) s = lst n s
  | 0 => rfl
  | j + 1 => by
    rw [show n + (j + 1) = (n + j) + 1 by omega, lst_next, lst_cut hs j, Nat.testBit_lt_two_pow (Nat.lt_of_lt_of_le hs (Nat.pow_le_pow_right (by omega) (by omega)))]
    simp
theorem lst_en {b : Nat → Nat} {n s : Nat} (hn : n ≤ 12) : lst 12 (setB (enB b s) n) = enL n b s := by
  have := lst_cut (setB_lt (enB b s) n) (12 - n)
  rw [show n + (12 - n) = 12 by omega] at this
  rw [this, lst_setB]; rfl
/-- Whether a number is an ideal, for IsIdeal. -/
noncomputable def isA (xs : List LsV) (x : Int) : Bool := if askN xs x = 0 then idB (ordF xs) x.toNat else false
/-- The error of Enabled. -/
noncomputable def enN (xs : List LsV) (x : Int) : Int := if askN xs x = 0 then (if idB (ordF xs) x.toNat = true then 0 else 13) else askN xs x
/-- What Ideals, Enabled and Nth answer. -/
def NmTo (w : World) (n : Int) (L : List Nat) (e : Ending) (w' : World) : Prop :=
  ((n ≠ 0 ∧ e = .returned (.tuple #[.slice none 0 0, .int .i64 n])) ∨ (n = 0 ∧ ∃ v, e = .returned (.tuple #[v, .int .i64 0]) ∧ w'.ownsRow w.heap.size 3 1 v L.length (elV L))) ∧ Below w.heap.size w w'
theorem ask_rd {xs : List LsV} {x : Int} (h : rdN xs ≠ 0) : askN xs x = rdN xs := by unfold askN; rw [if_pos h]
theorem ask_in {xs : List LsV} {x : Int} (h : rdN xs = 0) (h2 : 0 ≤ x ∧ x < ((2 ^ xs.length : Nat) : Int)) : askN xs x = 0 := by unfold askN; rw [if_neg (by simp [h]), if_pos h2]
theorem ask_out {xs : List LsV} {x : Int} (h : rdN xs = 0) (h2 : ¬ (0 ≤ x ∧ x < ((2 ^ xs.length : Nat) : Int))) : askN xs x = 2 := by unfold askN; rw [if_neg (by simp [h]), if_neg h2]
open Classical in
theorem rd_loop {xs : List LsV} (h : rdN xs = 0) : ¬ Loop xs := by
  intro hl
  unfold rdN at h
  split at h
  · cases h
  · split at h
    · cases h
    · exact absurd h (by decide)
set_option maxHeartbeats 8000000 in
theorem c_IsIdeal (A : Option Addr) (c : Nat) (xs : List LsV) (x : Int) (w : World) (h : LsAt w A c xs) : Calls Try.prog 21 #[.slice A xs.length c, .int .i64 x] w fun e w' => e = .returned (.tuple #[.bool (isA xs x), .int .i64 (askN xs x)]) ∧ Below w.heap.size w w' := by
  have H := Lib.hid h
  obtain ⟨N, hN⟩ : ∃ N, askN xs x = N := ⟨_, rfl⟩
  obtain ⟨r, hr⟩ : ∃ r, isA xs x = r := ⟨_, rfl⟩
  have HN := Lib.hid hN
  have HR := Lib.hid hr
  rw [hN, hr]
  clear hN hr h
  go_enter Try.func21, Try.ntmps21
  go_wp2_with (fail)
  go_at_call 48
  refine (c_read A c xs w H.out).mono ?_
  rintro e w1 ⟨⟨h0, rfl⟩ | ⟨h0, hl, hok, -, g, rfl, hg, hblk⟩, b1⟩
  · have K1 := Lib.hid b1
    have HNN := Lib.hid (show N = rdN xs by rw [← HN.out]; exact ask_rd h0)
    have HRR := Lib.hid (show r = false by rw [← HR.out]; unfold isA; rw [if_neg (by rw [ask_rd h0]; exact h0)])
    have hne : (rdN xs != 0) = true := by simpa using h0
    have hd0 : (rdN xs == 0) = false := by simpa using h0
    clear h0 b1
    go_wp2_with (fail)
    go_ret2
    exact ⟨by rw [HNN.out, HRR.out]; rfl, K1.out⟩
  · have H0 := Lib.hid h0
    have K1 := Lib.hid b1
    have HL := Lib.hid hl
    have HOK := Lib.hid hok
    have HBK := Lib.hid hblk
    obtain ⟨q, hq⟩ : ∃ q : Bool, q = true ↔ 0 ≤ x ∧ x < 2 ^ xs.length := ⟨decide (0 ≤ x ∧ x < 2 ^ xs.length), by simp⟩
    obtain ⟨y, hy⟩ : ∃ y, y = if q = true then x else 0 := ⟨_, rfl⟩
    have HC := Lib.hid (c_setOf (some ⟨g, 0, none⟩) xs.length xs.length hl x y q hq hy w1)
    have hp : (2 : Int) ^ xs.length = ((2 ^ xs.length : Nat) : Int) := by simp
    rw [hp] at hq
    have HQ := Lib.hid hq
    have HY := Lib.hid hy
    clear h0 b1 hl hok hblk hq hy hp
    go_wp2_with (fail)
    go_at_call 54
    refine HC.out.mono ?_
    rintro e w2 ⟨rfl, hw2⟩
    rw [hw2]
    clear hw2 w2
    cases q
    · have HNN := Lib.hid (show N = 2 by rw [← HN.out]; exact ask_out H0.out (fun h => by have := HQ.out.2 h; cases this))
      have HRR := Lib.hid (show r = false by rw [← HR.out]; unfold isA; rw [if_neg (by rw [HN.out, HNN.out]; decide)])
      go_wp2_with (fail)
      go_ret2
      exact ⟨by rw [HNN.out, HRR.out]; rfl, K1.out⟩
    · have hin := HQ.out.1 rfl
      obtain ⟨s, rfl⟩ : ∃ s : Nat, x = s := ⟨x.toNat, by omega⟩
      obtain rfl : y = s := by rw [HY.out]; rfl
      have HNN := Lib.hid (show N = 0 by rw [← HN.out]; exact ask_in H0.out hin)
      have HRR := Lib.hid (show r = idB (ordF xs) s by rw [← HR.out]; unfold isA; rw [if_pos (by rw [HN.out, HNN.out])]; simp)
      have HCI := Lib.hid (c_isIdeal g xs.length (ordF xs) HL.out (ordF_lt HL.out HOK.out) s (by omega) w1 HBK.out)
      clear hin
      go_wp2_with (fail)
      go_at_call 55
      refine HCI.out.mono ?_
      rintro e w3 ⟨rfl, b3⟩
      have K3 := Lib.hid (below_join K1.out b3 K1.out.size)
      clear b3
      go_wp2_with (fail)
      go_ret2
      exact ⟨by rw [HNN.out, HRR.out]; rfl, K3.out⟩
set_option maxHeartbeats 8000000 in
theorem c_Enabled (A : Option Addr) (c : Nat) (xs : List LsV) (x : Int) (w : World) (h : LsAt w A c xs) : Calls Try.prog 26 #[.slice A xs.length c, .int .i64 x] w (NmTo w (enN xs x) (enL xs.length (ordF xs) x.toNat)) := by
  have H := Lib.hid h
  obtain ⟨N, hN⟩ : ∃ N, enN xs x = N := ⟨_, rfl⟩
  have HN := Lib.hid hN
  rw [hN]
  obtain ⟨R, hR⟩ : ∃ R, R = NmTo w N (enL xs.length (ordF xs) x.toNat) := ⟨_, rfl⟩
  rw [← hR]
  have HRR := Lib.hid hR
  clear hN h hR
  have HE := Lib.hid (show ∀ (X : World) (n : Int), N = n → n ≠ 0 → Below w.heap.size w X → R (.returned (.tuple #[.slice none 0 0, .int .i64 n])) X from fun X n h h2 hb => by rw [HRR.out, h]; exact ⟨.inl ⟨h2, rfl⟩, hb⟩)
  go_enter Try.func26, Try.ntmps26
  go_wp2_with (fail)
  go_at_call 48
  refine (c_read A c xs w H.out).mono ?_
  rintro e w1 ⟨⟨h0, rfl⟩ | ⟨h0, hl, hok, -, g, rfl, hg, hblk⟩, b1⟩
  · have K1 := Lib.hid b1
    have H0 := Lib.hid h0
    have HNN := Lib.hid (show N = rdN xs by rw [← HN.out]; unfold enN; rw [if_neg (by rw [ask_rd h0]; exact h0)]; exact ask_rd h0)
    have hne : (rdN xs != 0) = true := by simpa using h0
    have hd0 : (rdN xs == 0) = false := by simpa using h0
    clear h0 b1
    go_wp2_with (fail)
    exact HE.out _ _ HNN.out H0.out K1.out
  · have H0 := Lib.hid h0
    have K1 := Lib.hid b1
    have HL := Lib.hid hl
    have HOK := Lib.hid hok
    have HBK := Lib.hid hblk
    obtain ⟨q, hq⟩ : ∃ q : Bool, q = true ↔ 0 ≤ x ∧ x < 2 ^ xs.length := ⟨decide (0 ≤ x ∧ x < 2 ^ xs.length), by simp⟩
    obtain ⟨y, hy⟩ : ∃ y, y = if q = true then x else 0 := ⟨_, rfl⟩
    have HC := Lib.hid (c_setOf (some ⟨g, 0, none⟩) xs.length xs.length hl x y q hq hy w1)
    have hp : (2 : Int) ^ xs.length = ((2 ^ xs.length : Nat) : Int) := by simp
    rw [hp] at hq
    have HQ := Lib.hid hq
    have HY := Lib.hid hy
    clear h0 b1 hl hok hblk hq hy hp
    go_wp2_with (fail)
    go_at_call 54
    refine HC.out.mono ?_
    rintro e w2 ⟨rfl, hw2⟩
    rw [hw2]
    clear hw2 w2
    cases q
    · have HNN := Lib.hid (show N = 2 by
        have h2 := ask_out H0.out (fun h => by have := HQ.out.2 h; cases this)
        rw [← HN.out]; unfold enN; rw [if_neg (by rw [h2]; decide), h2])
      go_wp2_with (fail)
      exact HE.out _ _ HNN.out (by decide) K1.out
    · have hin := HQ.out.1 rfl
      obtain ⟨s, rfl⟩ : ∃ s : Nat, x = s := ⟨x.toNat, by omega⟩
      obtain rfl : y = s := by rw [HY.out]; rfl
      have hs12 : s < 2 ^ 12 := Nat.lt_of_lt_of_le (show s < 2 ^ xs.length by omega) (Nat.pow_le_pow_right (by omega) HL.out)
      have HA0 := Lib.hid (ask_in H0.out hin)
      have HCI := Lib.hid (c_isIdeal g xs.length (ordF xs) HL.out (ordF_lt HL.out HOK.out) s (by omega) w1 HBK.out)
      obtain ⟨r, hr⟩ : ∃ r, idB (ordF xs) s = r := ⟨_, rfl⟩
      have HR := Lib.hid hr
      rw [hr] at HCI
      clear hin hr
      go_wp2_with (fail)
      go_at_call 55
      refine HCI.out.mono ?_
      rintro e w3 ⟨rfl, b3⟩
      have K3 := Lib.hid (below_join K1.out b3 K1.out.size)
      have HB3 := Lib.hid (HBK.out.on b3 (Nat.le_refl _))
      clear b3
      cases r
      · have HNN := Lib.hid (show N = 13 by rw [← HN.out]; unfold enN; rw [if_pos HA0.out, if_neg (by simp [HR.out])])
        go_wp2_with (fail)
        exact HE.out _ _ HNN.out (by decide) K3.out
      · have HNN := Lib.hid (show N = 0 by rw [← HN.out]; unfold enN; rw [if_pos HA0.out, if_pos (by simp [HR.out])])
        have HCE := Lib.hid (c_enabled g xs.length (ordF xs) HL.out (ordF_lt HL.out HOK.out) s hs12 w3 HB3.out)
        have HLE := Lib.hid (lst_en (b := ordF xs) (s := s) HL.out)
        have hsb : setB (enB (ordF xs) s) xs.length < 2 ^ 12 := Nat.lt_of_lt_of_le (setB_lt _ _) (Nat.pow_le_pow_right (by omega) HL.out)
        obtain ⟨t, ht⟩ : ∃ t, setB (enB (ordF xs) s) xs.length = t := ⟨_, rfl⟩
        rw [ht] at HCE HLE hsb
        clear ht
        go_wp2_with (fail)
        go_at_call 59
        refine HCE.out.mono ?_
        rintro e w4 ⟨rfl, hw4⟩
        rw [hw4]
        clear hw4 w4
        go_wp2_with (fail)
        go_at_call 60
        refine (c_list t hsb w3).mono ?_
        rintro e w5 ⟨v, rfl, o5, b5⟩
        have K5 := Lib.hid (below_join K3.out b5 K3.out.size)
        have O5 := Lib.hid (show w5.ownsRow w.heap.size 3 1 v (enL xs.length (ordF xs) s).length (elV (enL xs.length (ordF xs) s)) by rw [← HLE.out]; exact own_mono o5 K3.out.size)
        clear b5 o5
        go_wp2_with (fail)
        rw [HRR.out, HNN.out]
        exact ⟨.inr ⟨rfl, v, rfl, O5.out⟩, K5.out⟩
end Go.Proofs.Ytjheaeeeeggncaa

namespace Go.Proofs.Ytjheaeeeeggncaa
open Go.RowKit Go.Shelf
attribute [local go_sem] Oper.semAt_some
set_option maxRecDepth 100000
set_option linter.unusedVariables false
set_option linter.unusedSimpArgs false

theorem idL_len (f : Nat → Nat) (k : Nat) : (idL f k).length ≤ k := by
  unfold idL
  exact Nat.le_trans (List.length_filter_le _ _) (by simp)
theorem pow12 {n : Nat} (hn : n ≤ 12) : 2 ^ n ≤ 4096 := Nat.le_trans (Nat.pow_le_pow_right (by omega) hn) (by decide)
theorem shl_len {n : Nat} (hn : n ≤ 12) : wrap64 (2 ^ min n 64) = ((2 ^ n : Nat) : Int) := by
  rw [Nat.min_eq_left (by omega)]
  have h1 := pow12 hn
  rw [show ((2 : Int) ^ n) = ((2 ^ n : Nat) : Int) by simp]
  generalize (2 : Nat) ^ n = v at h1
  unfold wrap64
  (try simp only [])
  (try split)
  all_goals omega
theorem idL_lt {f : Nat → Nat} {k x : Nat} (h : x ∈ idL f k) : x < k := by
  unfold idL at h
  exact List.mem_range.1 (List.mem_filter.1 h).1
set_option maxHeartbeats 8000000 in
theorem c_Ideals (A : Option Addr) (c : Nat) (xs : List LsV) (w : World) (h : LsAt w A c xs) : Calls Try.prog 23 #[.slice A xs.length c] w (NmTo w (rdN xs) (idL (ordF xs) (2 ^ xs.length))) := by
  have H := Lib.hid h
  obtain ⟨N, hN⟩ : ∃ N, rdN xs = N := ⟨_, rfl⟩
  have HN := Lib.hid hN
  rw [hN]
  obtain ⟨R, hR⟩ : ∃ R, R = NmTo w N (idL (ordF xs) (2 ^ xs.length)) := ⟨_, rfl⟩
  rw [← hR]
  have HRR := Lib.hid hR
  clear hN h hR
  refine (callsIn_wide (n := 8)).1 ?_
  refine callsIn_of_wp_marks Try.func23 rfl trivial ?_ rfl
  simp only [Try.ntmps23, List.size_toArray, List.length_cons, List.length_nil, Nat.reduceAdd, Nat.reduceSub, Array.replicate_succ, Array.replicate_zero, List.push_toArray, List.append_toArray, List.nil_append, List.cons_append]
  rw [wpIn_wide]
  go_wp2_with (fail)
  go_at_call 48
  refine (c_read A c xs w H.out).mono ?_
  rintro e w1 ⟨⟨h0, rfl⟩ | ⟨h0, hl, hok, -, g, rfl, hg, hblk⟩, b1⟩
  · have K1 := Lib.hid b1
    have H0 := Lib.hid h0
    have hne : (rdN xs != 0) = true := by simpa using h0
    have hd0 : (rdN xs == 0) = false := by simpa using h0
    clear h0 b1
    go_wp2_with (fail)
    exact ⟨.tuple #[.slice none 0 0, .int .i64 (rdN xs)], by simp [results, Try.results23, go_sem], by rw [HRR.out, ← HN.out]; exact ⟨.inl ⟨H0.out, rfl⟩, K1.out⟩⟩
  · have H0 := Lib.hid h0
    have K1 := Lib.hid b1
    have hgl := at_lt hblk
    have hp12 := pow12 hl
    have HLN := Lib.hid (idL_len (ordF xs) (2 ^ xs.length))
    have HSQ := Lib.hid (c_ideals 7 (by omega) (fun k => k < w1.heap.size) g xs.length (ordF xs) hl (ordF_lt hl hok) w1 hblk hgl)
    have HML := Lib.hid (show ∀ x ∈ idL (ordF xs) (2 ^ xs.length), x < 4096 from fun x hx => Nat.lt_of_lt_of_le (idL_lt hx) hp12)
    obtain ⟨L, hL⟩ : ∃ L, idL (ordF xs) (2 ^ xs.length) = L := ⟨_, rfl⟩
    rw [hL] at HSQ HLN HRR HML
    have hLN : L.length ≤ 4096 := Nat.le_trans HLN.out hp12
    obtain ⟨W, hW⟩ : ∃ W, W = w1.alloc (.cells #[.slice none 0 0] 33) := ⟨_, rfl⟩
    have HB := Lib.hid (show Below w1.heap.size w1 W by subst hW; exact (Below.refl _ _).alloc (Nat.le_refl _) _)
    have HX := Lib.hid (show Boxed W w1.heap.size 33 (.slice none 0 0) by subst hW; exact Boxed.new _ _ _)
    have hzW : W.heap.size = w1.heap.size + 1 := by subst hW; simp
    clear h0 b1 hl hok hblk hL hp12 HLN
    go_wp2_with (fail)
    rw [← hW]
    clear hW
    obtain ⟨i0, hi0, hzz0, hzz1, hzz2⟩ := info_parts int_info
    refine (wpIn_wide (n := 8)).1 ?_
    refine wpIn_it (n := 8) (by omega) (gf := 58) (fb := #[.slice (some ⟨g, 0, none⟩) xs.length xs.length]) (lb := #[]) rfl eg_ideals (m := 0) (Gd := fun k => k < w1.heap.size) (ok := okS) (ts := L) (w0 := w1) HSQ.out (KpG.of_below HB.out (Nat.le_refl _)) (fun v t h => by rw [h]; rfl)
      (fun pre X => ColI w1 w1.heap.size (W.heap.size + 2 + 0) pre X) (fun _ _ _ => False)
      (fun pre X Y h hE => h.own hE (by omega) (by omega)) (fun _ _ _ _ h _ => h.elim)
      (fun pre X l o o' h hl ho hc => h.put (by omega) ho hc) (fun _ _ _ _ _ _ h _ _ _ => h.elim)
      ⟨⟨_, HX.out, World.ownsRow_nil _ _ _ _, fun g hg => by cases hg⟩, HB.out⟩ ?round ?done (fun _ _ _ _ _ _ h _ => h.elim)
    case round =>
      intro l pre v x X K hpre hok hK
      obtain rfl : v = #[.int .u16 (x : Int)] := hok
      gi_wp2_with (fail)
      refine hK _ _ (Below.refl _ _) ?_
      rintro Y ⟨o, o', ho, hoc, hYe⟩ hsz ⟨⟨v, k1, k2, k3⟩, k4⟩
      have hlen : pre.length + 1 ≤ L.length := by have := hpre.length_le; simpa using this
      have hl12 : pre.length + 1 ≤ 4096 := Nat.le_trans hlen hLN
      have hcell := k1.cell
      have HK1 := Lib.hid k1
      have HK2 := Lib.hid k2
      have HK3 := Lib.hid k3
      have HK4 := Lib.hid k4
      have hbs := k4.size
      have hcv : IntKind.i64.wrap (x : Int) = (x : Int) := nat64 _ (by have := HML.out x (hpre.subset (by simp)); omega)
      clear hYe ho hoc o o' hK k1 k2 k3 k4 hpre hlen
      gi_wp2_with (gi_at_builtin; refine wpListIn_append_lies _ rfl _ _ 33 rfl w1.heap.size 3 i0 (.int .i64 0) 1 8 Try.underlying33 hi0 hzz0 hzz1 hzz2 rfl (by decide) _ _ _ rfl (HK2.out.alloc _) ⟨Y.heap.size, 0, none⟩ 1 1 [.int .i64 (x : Int)] rfl rfl (one_at (heap_alloc_new _ _)) (by simp [Value.oneCell']) (by decide) (by unfold maxLen; omega) (by omega) (by simp; omega) (Y.heap.size + 1) (by simp) ?_)
      intro g2 cap2 Z hown hgrow hat
      obtain ⟨hv1, hc2, hkp, hkf⟩ := col_step (S0 := W.heap.size + 2) (m := 0) (Gd := fun k => k < w1.heap.size) rfl (by omega) (Nat.le_refl _) (fun k hk => by omega) hsz HK1.out HK2.out HK3.out HK4.out hown hgrow hat
      have hc1 := hv1.cell
      have hf1 := hv1.frozen
      have HC := Lib.hid hc2
      have HKP := Lib.hid hkp
      have HKF := Lib.hid hkf
      clear hv1 hc2 hkp hkf hown hgrow hat
      gi_wp2_with (fail)
      exact ⟨HKF.out _, HKP.out, HC.out⟩
    case done =>
      rintro D X rfl ⟨⟨v, k1, k2, k3⟩, k4⟩ hdef
      have hcell := k1.cell
      have HDEF := Lib.hid hdef
      have HRW := Lib.hid (show (X.putObj W.heap.size (.deferred none)).ownsRow w.heap.size 3 1 v L.length (elV L) from own_mono (own_row_kept k2 (fun g cur _ hc => put_cells hc hdef rfl)) K1.out.size)
      have HB4 := Lib.hid (below_join K1.out (below_put (o' := .deferred none) k4 (by omega : w1.heap.size ≤ W.heap.size)) K1.out.size)
      clear k1 k2 k3 k4 hdef
      go_wp2_with (fail)
      refine ⟨by simp, .inl ⟨_, _, rfl, run_takeDeferred HDEF.out, ?_⟩⟩
      exact ⟨.tuple #[v, .int .i64 0], by simp [results, Try.results23, go_sem], by rw [HRR.out, ← HN.out, H0.out]; exact ⟨.inr ⟨rfl, v, rfl, HRW.out⟩, HB4.out⟩⟩
end Go.Proofs.Ytjheaeeeeggncaa

namespace Go.Proofs.Ytjheaeeeeggncaa
open Go.RowKit
attribute [local go_sem] Oper.semAt_some
set_option maxRecDepth 100000
set_option linter.unusedVariables false
set_option linter.unusedSimpArgs false

theorem fold_ones : ({ data := (([0, 1, 1, 2, 1, 2, 2, 3, 1, 2, 2, 3, 2, 3, 3, 4, 1, 2, 2, 3, 2, 3, 3, 4, 2, 3, 3, 4, 3, 4, 4, 5, 1, 2, 2, 3, 2, 3, 3, 4, 2, 3, 3, 4, 3, 4, 4, 5, 2, 3, 3, 4, 3, 4, 4, 5, 3, 4, 4, 5, 4, 5, 5, 6].append [1, 2, 2, 3, 2, 3, 3, 4, 2, 3, 3, 4, 3, 4, 4, 5, 2, 3, 3, 4, 3, 4, 4, 5, 3, 4, 4, 5, 4, 5, 5, 6, 2, 3, 3, 4, 3, 4, 4, 5, 3, 4, 4, 5, 4, 5, 5, 6, 3, 4, 4, 5, 4, 5, 5, 6, 4, 5, 5, 6, 5, 6, 6, 7]).append ([1, 2, 2, 3, 2, 3, 3, 4, 2, 3, 3, 4, 3, 4, 4, 5, 2, 3, 3, 4, 3, 4, 4, 5, 3, 4, 4, 5, 4, 5, 5, 6, 2, 3, 3, 4, 3, 4, 4, 5, 3, 4, 4, 5, 4, 5, 5, 6, 3, 4, 4, 5, 4, 5, 5, 6, 4, 5, 5, 6, 5, 6, 6, 7].append [2, 3, 3, 4, 3, 4, 4, 5, 3, 4, 4, 5, 4, 5, 5, 6, 3, 4, 4, 5, 4, 5, 5, 6, 4, 5, 5, 6, 5, 6, 6, 7, 3, 4, 4, 5, 4, 5, 5, 6, 4, 5, 5, 6, 5, 6, 6, 7, 4, 5, 5, 6, 5, 6, 6, 7, 5, 6, 6, 7, 6, 7, 7, 8])).toArray } : ByteArray) = Lib.pop8tab := by rfl
theorem pop_lst : ∀ n : Fin 256, Lib.pop8 (n.val : Int) = ((lst 8 n.val).length : Int) := by decide +kernel
theorem lst_split (s : Nat) (hs : s < 2 ^ 12) : (lst 12 s).length = (lst 8 (s / 256)).length + (lst 8 (s % 256)).length := by
  have h1 : lst 8 (s / 256) = lst 4 (s / 256) := lst_cut (n := 4) (by omega) 4
  rw [h1]
  unfold lst
  rw [show List.range 12 = List.range 8 ++ (List.range 4).map (8 + ·) from by decide, List.filter_append, List.length_append, List.filter_map, List.length_map, Nat.add_comm]
  congr 2
  · refine List.filter_congr fun i _ => ?_
    show s.testBit (8 + i) = (s / 256).testBit i
    rw [show (256 : Nat) = 2 ^ 8 by decide, Nat.testBit_div_two_pow]
    rw [Nat.add_comm]
  · refine List.filter_congr fun i hi => ?_
    have := List.mem_range.1 hi
    rw [show (256 : Nat) = 2 ^ 8 by decide, Nat.testBit_mod_two_pow]
    simp [this]
attribute [local go_sem high] fold_ones
set_option maxHeartbeats 8000000 in
theorem c_ones (s : Nat) (hs : s < 2 ^ 12) (w : World) :
    Calls Try.prog 88 #[.int .u16 (s : Int)] w fun e w' => e = .returned (.int .i64 ((lst 12 s).length : Int)) ∧ w' = w.drew := by
  have hl := lst_split s hs
  have e1 : (s : Int) / 256 = ((s / 256 : Nat) : Int) := by omega
  have e2 : bits BinOp.and IntKind.u16 (s : Int) 255 = ((s % 256 : Nat) : Int) := by
    rw [show (255 : Int) = ((255 : Nat) : Int) from rfl, bits_and16 s 255 (by omega) (by decide), show (255 : Nat) = 2 ^ 8 - 1 by decide, Nat.and_two_pow_sub_one_eq_mod]
  have p1 := pop_lst ⟨s / 256, by omega⟩
  have p2 := pop_lst ⟨s % 256, by omega⟩
  have l1 : (lst 8 (s / 256)).length ≤ 8 := lst_len 8 _
  have l2 : (lst 8 (s % 256)).length ≤ 8 := lst_len 8 _
  have q1 : s / 256 < 256 := by omega
  have q2 : s % 256 < 256 := by omega
  simp only at p1 p2
  obtain ⟨a, ha⟩ : ∃ a, s / 256 = a := ⟨_, rfl⟩
  obtain ⟨b, hb⟩ : ∃ b, s % 256 = b := ⟨_, rfl⟩
  rw [ha] at e1 p1 hl l1 q1
  rw [hb] at e2 p2 hl l2 q2
  rw [hl]
  clear hl ha hb
  obtain ⟨m1, hm1⟩ : ∃ m, (lst 8 a).length = m := ⟨_, rfl⟩
  obtain ⟨m2, hm2⟩ : ∃ m, (lst 8 b).length = m := ⟨_, rfl⟩
  rw [hm1] at p1 l1 ⊢
  rw [hm2] at p2 l2 ⊢
  clear hm1 hm2
  have i1 : ∀ X : World, (Instr.index 9 (.string Lib.pop8tab) (.int .u16 (a : Int))).run Try.prog X = .ok (.int .u8 (m1 : Int)) X := fun X => by rw [Lib.run_index_pop8tab X 9 .u16 (a : Int) Try.underlying9 (by omega) (by omega), p1]
  have i2 : ∀ X : World, (Instr.index 9 (.string Lib.pop8tab) (.int .u16 (b : Int))).run Try.prog X = .ok (.int .u8 (m2 : Int)) X := fun X => by rw [Lib.run_index_pop8tab X 9 .u16 (b : Int) Try.underlying9 (by omega) (by omega), p2]
  clear p1 p2
  go_enter Try.func88, Try.ntmps88
  rw [fold_ones]
  go_wp2_with (fail)
  have HM := Lib.hid (show ((m1 + m2 : Nat) : Int) = (m1 : Int) + (m2 : Int) by omega)
  go_region
  go_wp2_with (fail)
  go_ret
  refine ⟨?_, rfl⟩
  show Ending.returned (.int .i64 _) = _
  congr 2
set_option maxHeartbeats 4000000 in
theorem c_size (s : Nat) (hs : s < 2 ^ 12) (w : World) :
    Calls Try.prog 82 #[.int .u16 (s : Int)] w fun e w' => e = .returned (.int .i64 ((lst 12 s).length : Int)) ∧ w' = w.drew := by
  have HC := Lib.hid (c_ones s hs w)
  obtain ⟨m, hm⟩ : ∃ m, (lst 12 s).length = m := ⟨_, rfl⟩
  rw [hm] at HC ⊢
  clear hm
  go_enter Try.func82, Try.ntmps82
  go_wp2_with (fail)
  go_at_call 88
  refine HC.out.mono ?_
  rintro e w1 ⟨rfl, rfl⟩
  go_wp2_with (fail)
  go_ret
  exact ⟨rfl, rfl⟩
end Go.Proofs.Ytjheaeeeeggncaa

namespace Go.Proofs.Ytjheaeeeeggncaa
open Go.RowKit
attribute [local go_sem] Oper.semAt_some
set_option maxRecDepth 100000
set_option linter.unusedVariables false
set_option linter.unusedSimpArgs false

/-- What Height and Width answer. -/
def HwTo (w : World) (n : Int) (P : Nat → Prop) (e : Ending) (w' : World) : Prop :=
  ((n ≠ 0 ∧ e = .returned (.tuple #[.int .i64 0, .int .i64 n])) ∨ (n = 0 ∧ ∃ h : Nat, e = .returned (.tuple #[.int .i64 (h : Int), .int .i64 0]) ∧ P h)) ∧ Below w.heap.size w w'
theorem all_tb {n i : Nat} (h : i < n) : (2 ^ n - 1).testBit i = true := by rw [Nat.testBit_two_pow_sub_one]; simp [h]
theorem all_of {n s : Nat} (hs : s < 2 ^ n) (h : ∀ i, i < n → s.testBit i = true) : s = 2 ^ n - 1 := by
  apply Nat.eq_of_testBit_eq
  intro i
  rw [Nat.testBit_two_pow_sub_one]
  rcases Nat.lt_or_ge i n with hi | hi
  · rw [h i hi]; simp [hi]
  · rw [Nat.testBit_lt_two_pow (Nat.lt_of_lt_of_le hs (Nat.pow_le_pow_right (by omega) hi))]; simp; omega
theorem come_more {n : Nat} {b : Nat → Nat} (hp : Po n b) {r : Nat} (h : come n b r ≠ 2 ^ n - 1) : r < n ∧ ∃ i, i < n ∧ (come n b r).testBit i = false := by
  have : ∃ i, i < n ∧ (come n b r).testBit i = false := by
    apply Classical.byContradiction
    intro hno
    refine h (all_of (come_lt r) fun i hi => ?_)
    cases e : (come n b r).testBit i
    · exact absurd ⟨i, hi, e⟩ hno
    · rfl
  obtain ⟨i, hi, hb⟩ := this
  refine ⟨?_, i, hi, hb⟩
  have hc : Chn b r i := by
    rcases Classical.em (Chn b r i) with h | h
    · exact h
    · rw [(come_iff hp r i hi).2 h] at hb; cases hb
  exact hc.lt hp hi
set_option maxHeartbeats 8000000 in
theorem c_height (g n : Nat) (f : Nat → Nat) (hn : n ≤ 12) (hf : ∀ j, f j < 2 ^ 12) (hp : Po n f) (w : World) (h : Blk w g n f) :
    Calls Try.prog 66 #[.slice (some ⟨g, 0, none⟩) n n] w fun e w' => (∃ k : Nat, e = .returned (.int .i64 (k : Int)) ∧ High n f k) ∧ w' = w := by
  have H := Lib.hid h
  have HC := Lib.hid (fun s (hs : s < 2 ^ 12) => c_enabled g n f hn hf s hs w h)
  have HA := Lib.hid (c_all (some ⟨g, 0, none⟩) n n hn w)
  have HP := Lib.hid hp
  have HM := Lib.hid (fun r (h : come n f r ≠ 2 ^ n - 1) => come_more hp h)
  have HLT := Lib.hid (fun r => Nat.lt_of_lt_of_le (come_lt (n := n) (b := f) r) (Nat.pow_le_pow_right (n := 2) (by omega) hn))
  have hall : 2 ^ n - 1 < 2 ^ 12 := by have := Nat.pow_le_pow_right (n := 2) (by omega) hn; have := Nat.two_pow_pos n; omega
  have HTB := Lib.hid (fun i (hi : i < n) => all_tb hi)
  obtain ⟨N, hN⟩ : ∃ N, 2 ^ n - 1 = N := ⟨_, rfl⟩
  rw [hN] at HA HM hall HTB
  clear hN h hp hf
  go_enter Try.func66, Try.ntmps66
  go_wp2_with (fail)
  go_loopw [3, 4] (fun v s wr => ∃ r : Nat, r ≤ n ∧ v = .int .i64 (r : Int) ∧ s = .int .u16 ((come n f r : Nat) : Int) ∧ w = wr ∧ Hid (r = 0 ∨ ∃ i, i < n ∧ (come n f (r - 1)).testBit i = false)) (fun v _ _ => n + 1 - (intOf v).toNat)
  case atStart => exact ⟨0, Nat.zero_le _, rfl, rfl, rfl, Lib.hid (.inl rfl)⟩
  case round =>
    obtain ⟨r, hr, rfl, rfl, rfl, hQ⟩ := hrel
    have hri : ((r : Nat) : Int).toNat = r := by omega
    have hs12 := HLT.out r
    have HNX := Lib.hid (show come n f (r + 1) = come n f r ||| setB (enB f (come n f r)) n from rfl)
    have hsb : setB (enB f (come n f r)) n < 2 ^ 12 := Nat.lt_of_lt_of_le (setB_lt _ _) (Nat.pow_le_pow_right (by omega) hn)
    have HMR := Lib.hid (HM.out r)
    have HCR := Lib.hid (HC.out _ hs12)
    have HTR := Lib.hid (show come n f r = N → High n f r from fun e => high_of HP.out (fun i hi => by rw [e]; exact HTB.out i hi) hQ.out)
    have HQN := Lib.hid (show (come n f r ≠ N) → (r + 1 = 0 ∨ ∃ i, i < n ∧ (come n f (r + 1 - 1)).testBit i = false) from fun e => .inr (HM.out r e).2)
    obtain ⟨s, hs⟩ : ∃ s, come n f r = s := ⟨_, rfl⟩
    rw [hs] at hs12 HMR HNX HTR HQN HCR hsb ⊢
    obtain ⟨t, ht⟩ : ∃ t, setB (enB f s) n = t := ⟨_, rfl⟩
    rw [ht] at HNX HCR hsb
    have hor := bits_or16 s t (by omega) (by omega)
    obtain ⟨u, hu⟩ : ∃ u, s ||| t = u := ⟨_, rfl⟩
    rw [hu] at hor HNX
    clear hs ht hu
    by_cases e : s = N
    · have HH := Lib.hid (HTR.out e)
      have hd : ((s : Int) == (N : Int)) = true := by rw [beq_iff_eq]; omega
      have hd2 : ((s : Int) != (N : Int)) = false := by simp [e]
      clear e
      go_wp2_with (go_at_call 78; refine HA.out.mono ?_; rintro e w1 ⟨rfl, hw1⟩; rw [hw1]; clear hw1 w1)
      go_ret
      exact ⟨⟨r, rfl, HH.out⟩, rfl⟩
    · have hlt := (HMR.out e).1
      have HQ2 := Lib.hid (HQN.out e)
      have hd : ((s : Int) == (N : Int)) = false := by rw [beq_eq_false_iff_ne]; omega
      have hd2 : ((s : Int) != (N : Int)) = true := by simp [bne, hd]
      clear e
      go_wp2_with first
        | (go_at_call 78; refine HA.out.mono ?_; rintro e w1 ⟨rfl, hw1⟩; rw [hw1]; clear hw1 w1)
        | (go_at_call 59; refine HCR.out.mono ?_; rintro e w1 ⟨rfl, hw1⟩; rw [hw1]; clear hw1 w1)
      go_roundw
      case rel => exact ⟨r + 1, by omega, by go_num, by rw [HNX.out], trivial, HQ2⟩
      case measure => simp only [intOf]; omega
set_option maxHeartbeats 8000000 in
theorem c_Height (A : Option Addr) (c : Nat) (xs : List LsV) (w : World) (h : LsAt w A c xs) : Calls Try.prog 35 #[.slice A xs.length c] w (HwTo w (rdN xs) (High xs.length (ordF xs))) := by
  have H := Lib.hid h
  obtain ⟨R, hR⟩ : ∃ R, R = HwTo w (rdN xs) (High xs.length (ordF xs)) := ⟨_, rfl⟩
  rw [← hR]
  have HRR := Lib.hid hR
  clear hR h
  go_enter Try.func35, Try.ntmps35
  go_wp2_with (fail)
  go_at_call 48
  refine (c_read A c xs w H.out).mono ?_
  rintro e w1 ⟨⟨h0, rfl⟩ | ⟨h0, hl, hok, hno, g, rfl, hg, hblk⟩, b1⟩
  · have H0 := Lib.hid h0
    have K1 := Lib.hid b1
    have hne : (rdN xs != 0) = true := by simpa using h0
    have hd0 : (rdN xs == 0) = false := by simpa using h0
    clear h0 b1
    go_wp2_with (fail)
    rw [HRR.out]
    exact ⟨.inl ⟨H0.out, rfl⟩, K1.out⟩
  · have H0 := Lib.hid h0
    have K1 := Lib.hid b1
    have HC := Lib.hid (c_height g xs.length (ordF xs) hl (ordF_lt hl hok) (ord_po hok hno) w1 hblk)
    clear h0 b1 hblk
    go_wp2_with (fail)
    go_at_call 66
    refine HC.out.mono ?_
    rintro e w2 ⟨⟨k, rfl, hk⟩, hw2⟩
    rw [hw2]
    have HK := Lib.hid hk
    clear hw2 w2 hk
    go_wp2_with (fail)
    rw [HRR.out, H0.out]
    exact ⟨.inr ⟨rfl, k, rfl, HK.out⟩, K1.out⟩
end Go.Proofs.Ytjheaeeeeggncaa

namespace Go.Proofs.Ytjheaeeeeggncaa
open Go.RowKit
attribute [local go_sem] Oper.semAt_some
set_option maxRecDepth 100000
set_option linter.unusedVariables false
set_option linter.unusedSimpArgs false

def Up (n : Nat) (b g : Nat → Nat) : Prop := ∀ i, i < n → ∀ v, v < g i → Chn b v i
theorem Up.le {n : Nat} {b g : Nat → Nat} (hp : Po n b) (h : Up n b g) {i : Nat} (hi : i < n) : g i ≤ n := by
  rcases Nat.lt_or_ge n (g i) with h1 | h1
  · exact absurd ((h i hi n h1).lt hp hi) (Nat.lt_irrefl _)
  · exact h1
theorem hMax_snoc (G : Nat → Nat) (u : Nat) : ∀ (l : List Nat) (m : Nat), hMax G (l ++ [u]) m = max (hMax G l m) (G u + 1)
  | [], m => rfl
  | k :: l, m => hMax_snoc G u l _
/-- While one element's height is made. -/
def hPart (G : Nat → Nat) (k : Nat) (l : List Nat) : Nat → Nat := fun j => if j = k then hMax G l 1 else G j
def bestN (F : Nat → Nat) : Nat → Nat
  | 0 => 0
  | k + 1 => max (bestN F k) (F k)
theorem bestN_ge (F : Nat → Nat) : ∀ k i, i < k → F i ≤ bestN F k
  | k + 1, i, h => by
    show F i ≤ max (bestN F k) (F k)
    by_cases e : i = k
    · subst e; exact Nat.le_max_right _ _
    · exact Nat.le_trans (bestN_ge F k i (by omega)) (Nat.le_max_left _ _)
theorem bestN_of (F : Nat → Nat) : ∀ k, bestN F k = 0 ∨ ∃ i, i < k ∧ F i = bestN F k
  | 0 => .inl rfl
  | k + 1 => by
    show max (bestN F k) (F k) = 0 ∨ ∃ i, i < k + 1 ∧ F i = max (bestN F k) (F k)
    rcases Nat.le_total (bestN F k) (F k) with h | h
    · exact .inr ⟨k, by omega, by omega⟩
    · rcases bestN_of F k with h0 | ⟨i, hi, e⟩
      · exact .inl (by omega)
      · exact .inr ⟨i, by omega, by omega⟩
theorem ord_dir {xs : List LsV} (hok : NmOk xs) : ∀ i, i < xs.length → ∀ k ∈ lstF xs i, (ordF xs i).testBit k = true := fun i hi k hk => (ord_cb hok hi k).2 (.one ⟨hi, hk⟩)
theorem ord_chn {xs : List LsV} (hok : NmOk xs) : ∀ v i, i < xs.length → Chn (ordF xs) (v + 1) i → ∃ k ∈ lstF xs i, Chn (ordF xs) v k :=
  chn_direct (E := EdF xs) (fun i k => Iff.rfl) (fun i k h => lstF_lt hok i k h.2) (fun i hi k => ord_cb hok hi k)
theorem hAll_up {xs : List LsV} (hok : NmOk xs) : ∀ r, Up xs.length (ordF xs) (hAll (lstF xs) xs.length r)
  | 0 => fun i _ v h => absurd h (Nat.not_lt_zero _)
  | r + 1 => hRound_up (ord_dir hok) _ (hAll_up hok r) (fun i hi k hk => lstF_lt hok i k hk) _ (Nat.le_refl _)
set_option maxHeartbeats 16000000 in
theorem c_rrHeight (A : Option Addr) (c : Nat) (xs : List LsV) (w : World) (h : LsAt w A c xs) : Calls Try.prog 36 #[.slice A xs.length c] w (HwTo w (rdN xs) (High xs.length (ordF xs))) := by
  have H := Lib.hid h
  have k1 := h.1.1; have k2 := h.1.2.1
  unfold maxLen at k2
  obtain ⟨N, hN⟩ : ∃ N, rdN xs = N := ⟨_, rfl⟩
  have HN := Lib.hid hN
  obtain ⟨R, hR⟩ : ∃ R, R = HwTo w (rdN xs) (High xs.length (ordF xs)) := ⟨_, rfl⟩
  rw [← hR]
  have HRR := Lib.hid hR
  clear hR hN h
  go_enter Try.func36, Try.ntmps36
  go_wp2_with (fail)
  go_at_call 19
  refine (c_rrValid A c xs w H.out).mono ?_
  rintro e w1 ⟨rfl, b1⟩
  have K1 := Lib.hid b1
  rw [HN.out]
  clear b1
  by_cases h0 : N = 0
  rotate_left
  · have hne : (N != 0) = true := by simpa using h0
    have hd0 : (N == 0) = false := by simpa using h0
    have H0 := Lib.hid h0
    clear h0
    go_wp2_with (fail)
    rw [HRR.out, HN.out]
    exact ⟨.inl ⟨H0.out, rfl⟩, K1.out⟩
  subst h0
  have HZ := Lib.hid (rd_zero HN.out)
  have HPO := Lib.hid (ord_po HZ.out.2 (rd_loop HN.out))
  have HLN := Lib.hid HZ.out.1
  have HO := Lib.hid HZ.out.2
  have HW := Lib.hid (H.out.on K1.out (Nat.le_refl _))
  have hmk := mk_ints xs.length (by have := HLN.out; omega)
  obtain ⟨g, hg⟩ : ∃ g, w1.heap.size = g := ⟨_, rfl⟩
  have HG := Lib.hid hg
  have HB0 := Lib.hid (show Below g w1 (w1.alloc (.cells (bsI xs.length fun _ => 0).toArray 3)) by rw [← hg]; exact (Below.refl _ _).alloc (Nat.le_refl _) _)
  have HK0 := Lib.hid (show Bki (w1.alloc (.cells (bsI xs.length fun _ => 0).toArray 3)) g xs.length (hAll (lstF xs) xs.length 0) from by rw [← hg]; exact box_new _ _ _)
  go_wp2_with (fail)
  clear hmk hg
  go_loopw [22] (fun i wr => ∃ q : Nat, q ≤ xs.length ∧ i = .int .i64 (q : Int) ∧ Hid (Below g w1 wr) ∧ Hid (Bki wr g xs.length (hAll (lstF xs) xs.length q))) (fun i _ => xs.length - (intOf i).toNat)
  case atStart => exact ⟨0, Nat.zero_le _, rfl, HB0, HK0⟩
  case round =>
    obtain ⟨q, hq, rfl, hB0, hF0⟩ := hrel
    have hqi : ((q : Nat) : Int).toNat = q := by omega
    by_cases hltq : q < xs.length
    · have hql : (q : Int) < ((xs.length : Nat) : Int) := by omega
      obtain ⟨f0, hf0⟩ : ∃ f0, hAll (lstF xs) xs.length q = f0 := ⟨_, rfl⟩
      have HF0 := Lib.hid hf0
      have HU0 := Lib.hid (show Up xs.length (ordF xs) f0 by rw [← hf0]; exact hAll_up HO.out q)
      rw [hf0] at hF0
      clear hf0
      go_wp2_with (fail)
      go_loopw [26] (fun i wr => ∃ k : Nat, k ≤ xs.length ∧ i = .int .i64 (k : Int) ∧ Hid (Below g w1 wr) ∧ Hid (Bki wr g xs.length (hRound (lstF xs) f0 k))) (fun i _ => xs.length - (intOf i).toNat)
      case atStart => exact ⟨0, Nat.zero_le _, rfl, hB0, hF0⟩
      case round =>
        obtain ⟨k, hk, rfl, hB, hF⟩ := hrel
        have hki : ((k : Nat) : Int).toNat = k := by omega
        by_cases hlt : k < xs.length
        · obtain ⟨x, hx⟩ : ∃ x, xs[k]? = some x := ⟨_, List.getElem?_eq_getElem hlt⟩
          have HXX := Lib.hid hx
          have HLA := Lib.hid (show lstF xs k = natsL x.l by unfold lstF lAt; rw [hx]; rfl)
          have HXL := Lib.hid (HW.out.2 x (List.mem_of_getElem? hx))
          have j1 := HXL.out.1; have j2 := HXL.out.2.1
          unfold maxLen at j2
          have hlt' : (k : Int) < ((xs.length : Nat) : Int) := by omega
          obtain ⟨G, hG1⟩ : ∃ G, hRound (lstF xs) f0 k = G := ⟨_, rfl⟩
          have HN1 := Lib.hid (show hRound (lstF xs) f0 (k + 1) = hPart G k (natsL x.l) by rw [hRound, hG1, HLA.out]; rfl)
          have HUG := Lib.hid (show Up xs.length (ordF xs) G by rw [← hG1]; exact hRound_up (ord_dir HO.out) _ HU0.out (fun i hi k hk => lstF_lt HO.out i k hk) _ hk)
          rw [hG1] at hF
          have hfz := frz hF.out k
          have HS1 := Lib.hid (show Bki (wr.setCell ⟨g, k, none⟩ (.int .i64 1)) g xs.length (hPart G k []) from by
            have := hF.out.set (f' := hPart G k []) hlt (fun j _ hne => by unfold hPart; rw [if_neg hne])
            rwa [show hPart G k [] k = 1 from by unfold hPart; rw [if_pos rfl]; rfl] at this)
          have HB1 := Lib.hid (hB.out.setCell (p := ⟨g, k, none⟩) (Nat.le_refl _) (.int .i64 1))
          have bb0 := hF.out.at_ hlt
          have HK := (HW.out.on HB1.out (by rw [HG.out]; exact Nat.le_refl _))
          obtain ⟨pb, o, rfl, -, -⟩ := HK.1.at_ hx
          have y0 := ls_at HK.1 hx
          clear hG1 hx HK
          go_wp2_with (fail)
          clear y0 bb0 hfz
          go_loopw [37] (fun i wr => ∃ t : Nat, t ≤ x.l.length ∧ i = .int .i64 (t : Int) ∧ Hid (Below g w1 wr) ∧ Hid (Bki wr g xs.length (hPart G k (natsL (x.l.take t))))) (fun i _ => x.l.length - (intOf i).toNat)
          case atStart => exact ⟨0, Nat.zero_le _, rfl, HB1, HS1⟩
          case round =>
            obtain ⟨t, ht, rfl, hC, hT⟩ := hrel
            have hti : ((t : Nat) : Int).toNat = t := by omega
            by_cases hlt2 : t < x.l.length
            · obtain ⟨z, hz⟩ : ∃ z, x.l[t]? = some z := ⟨_, List.getElem?_eq_getElem hlt2⟩
              have HL := HXL.out.on hC.out (by rw [HG.out]; exact Nat.le_refl _)
              obtain ⟨b2, o2, e2, -, -⟩ := HL.at_ hz
              rw [e2] at HL
              have y1 := inV_at HL hz
              have htl : (t : Int) < ((x.l.length : Nat) : Int) := by omega
              have hzb := HO.out k x HXX.out z (List.mem_of_getElem? hz)
              have hzn := HLN.out
              obtain ⟨u, rfl⟩ : ∃ u : Nat, z = u := ⟨z.toNat, by omega⟩
              have hun : u < xs.length := by omega
              have huk : u ≠ k := by omega
              have hu0 : (0 : Int) ≤ (u : Int) := by omega
              have hul : (u : Int) < ((xs.length : Nat) : Int) := by omega
              have hui : ((u : Nat) : Int).toNat = u := by omega
              have b0 := hT.out.at_ hlt
              have b1 := hT.out.at_ hun
              have b3 := frz hT.out k
              have hFu : hPart G k (natsL (x.l.take t)) u = G u := by unfold hPart; rw [if_neg huk]
              have hFk : hPart G k (natsL (x.l.take t)) k = hMax G (natsL (x.l.take t)) 1 := by unfold hPart; rw [if_pos rfl]
              have hGu := HUG.out.le HPO.out hun
              have hGk : hMax G (natsL (x.l.take t)) 1 ≤ 13 := by
                rcases hMax_of G (natsL (x.l.take t)) 1 with h | ⟨k', hk', h⟩
                · omega
                · have hk2 : k' < xs.length := by
                    unfold natsL at hk'
                    obtain ⟨a, ha, rfl⟩ := List.mem_map.1 hk'
                    have := HO.out k x HXX.out a (List.mem_of_mem_take ha)
                    omega
                  have := HUG.out.le HPO.out hk2
                  omega
              have HNX := Lib.hid (show hPart G k (natsL (x.l.take (t + 1))) k = max (hMax G (natsL (x.l.take t)) 1) (G u + 1) by
                unfold hPart
                rw [if_pos rfl, List.take_add_one, hz]
                unfold natsL
                rw [List.map_append]
                exact hMax_snoc G u _ 1)
              have HPS := Lib.hid (fun (X : World) (hX : Bki X g xs.length (hPart G k (natsL (x.l.take t)))) => (show Bki (X.setCell ⟨g, k, none⟩ (.int .i64 ((hPart G k (natsL (x.l.take (t + 1))) k : Nat) : Int))) g xs.length (hPart G k (natsL (x.l.take (t + 1)))) from
                hX.set hlt fun j _ hne => by unfold hPart; rw [if_neg hne, if_neg hne]))
              rw [HNX.out] at HPS
              rw [hFk] at b0
              rw [hFu] at b1
              obtain ⟨s, hs⟩ : ∃ s, hMax G (natsL (x.l.take t)) 1 = s := ⟨_, rfl⟩
              obtain ⟨r, hr⟩ : ∃ r, G u = r := ⟨_, rfl⟩
              rw [hs] at b0 hGk HPS
              rw [hr] at b1 hGu HPS
              have HT := Lib.hid hT.out
              clear hs hr hFu hFk hz HL hzb HNX
              rw [e2]
              go_wp2_with (fail)
              go_region
              all_goals go_wp2_with (fail)
              all_goals
                have hmx : (if (s : Int) < (r : Int) + 1 then (r : Int) + 1 else (s : Int)) = ((max s (r + 1) : Nat) : Int) := by split <;> omega
                rw [hmx]
                exact ⟨⟨t + 1, by omega, by go_num, Lib.hid (hC.out.setCell (p := ⟨g, k, none⟩) (Nat.le_refl _) _).drew, Lib.hid (HPS.out wr HT.out)⟩, by simp only [intOf]; omega⟩
            · obtain rfl : t = x.l.length := by omega
              have HN := Lib.hid (show Bki wr g xs.length (hRound (lstF xs) f0 (k + 1)) by rw [HN1.out]; have := hT.out; rwa [List.take_length] at this)
              go_wp2_with (fail)
              go_roundw
              case rel => exact ⟨k + 1, by omega, by go_num, hC, HN⟩
              case measure => simp only [intOf]; omega
        · obtain rfl : k = xs.length := by omega
          have HN := Lib.hid (show Bki wr g xs.length (hAll (lstF xs) xs.length (q + 1)) by rw [hAll, HF0.out]; exact hF.out)
          go_wp2_with (fail)
          go_roundw
          case rel => exact ⟨q + 1, by omega, by go_num, hB, HN⟩
          case measure => simp only [intOf]; omega
    · obtain rfl : q = xs.length := by omega
      have HUN := Lib.hid (fun i (hi : i < xs.length) => (hAll_up HO.out xs.length).le HPO.out hi)
      have HHM := Lib.hid (fun h h1 h2 => high_max (h := h) HPO.out (ord_dir HO.out) (ord_chn HO.out) h1 h2)
      obtain ⟨F, hF1⟩ : ∃ F, hAll (lstF xs) xs.length xs.length = F := ⟨_, rfl⟩
      rw [hF1] at hF0 HUN HHM
      clear hF1
      have hx12 := HLN.out
      go_wp2_with (fail)
      go_loopw [9, 59] (fun v i w2 => ∃ k : Nat, k ≤ xs.length ∧ i = .int .i64 (k : Int) ∧ v = .int .i64 ((bestN F k : Nat) : Int) ∧ wr = w2) (fun _ i _ => xs.length - (intOf i).toNat)
      case atStart => exact ⟨0, Nat.zero_le _, rfl, rfl, rfl⟩
      case round =>
        obtain ⟨k, hk, rfl, rfl, rfl⟩ := hrel
        have hki : ((k : Nat) : Int).toNat = k := by omega
        by_cases hlt : k < xs.length
        · have hkl : (k : Int) < ((xs.length : Nat) : Int) := by omega
          have b0 := hF0.out.at_ hlt
          have hFk := HUN.out k hlt
          have HNX := Lib.hid (show bestN F (k + 1) = max (bestN F k) (F k) from rfl)
          obtain ⟨s, hs⟩ : ∃ s, F k = s := ⟨_, rfl⟩
          obtain ⟨r, hr⟩ : ∃ r, bestN F k = r := ⟨_, rfl⟩
          rw [hs] at b0 hFk HNX
          rw [hr] at HNX ⊢
          clear hs hr
          go_wp2_with (fail)
          go_roundw
          case rel => exact ⟨k + 1, by omega, by go_num, by rw [HNX.out]; congr 1; omega, trivial⟩
          case measure => simp only [intOf]; omega
        · obtain rfl : k = xs.length := by omega
          have HH := Lib.hid (HHM.out (bestN F xs.length) (fun i hi => bestN_ge F _ i hi) (bestN_of F _))
          go_wp2_with (fail)
          rw [HRR.out, HN.out]
          exact ⟨.inr ⟨rfl, _, rfl, HH.out⟩, below_join K1.out (by rw [HG.out]; exact hB0.out) K1.out.size⟩
end Go.Proofs.Ytjheaeeeeggncaa
