/-
  DERIVED. Peak (stage 6).
-/
import Derived.Test.YthghinkicaafmaaAY
namespace Go.Proofs.Ythghinkicaafmaa
open Go.RowKit Go.Shelf
attribute [local go_sem] Oper.semAt_some
attribute [local go_sem ↓] Go.wp_at_zero Go.wp_at_succ
set_option maxRecDepth 100000

/-- The greatest level so far, and its tick, in their boxes. -/
structure PkI (w : World) (b : Nat) (pre : List (Nat × Int)) (X : World) : Prop where
  tk : Boxed X b 3 (.int .i64 (pkGo 0 (0, 0) (pre.map fun x : Nat × Int => x.2)).1)
  lv : Boxed X (b + 1) 3 (.int .i64 (pkGo 0 (0, 0) (pre.map fun x : Nat × Int => x.2)).2)
  bel : Below w.heap.size w X
section
variable {w X Y : World} {b : Nat} {pre : List (Nat × Int)} {S m : Nat}
theorem PkI.own (h : PkI w b pre X) (hE : OwnIt S m X Y) (hS : b + 1 < S) (hw : w.heap.size ≤ S) : PkI w b pre Y := ⟨hE.same _ _ h.tk (.inl (by omega)), hE.same _ _ h.lv (.inl (by omega)), below_own h.bel hE hw⟩
theorem PkI.put {l : Nat} {o o' : Obj} (h : PkI w b pre X) (hw : w.heap.size ≤ l) (hl : X.heap[l]? = some o) (ho : o.isCells = false) : PkI w b pre (X.putObj l o') := ⟨put_cells h.tk hl ho, put_cells h.lv hl ho, below_put h.bel hw⟩
end
theorem two_boxes {X : World} {b : Nat} {T T' : TypeId} {v v' : Value} (h1 : Boxed X b T v) (h2 : Boxed X (b + 1) T' v') (x y : Value) :
    Boxed ((X.setCell ⟨b, 0, none⟩ x).setCell ⟨b + 1, 0, none⟩ y) b T x ∧ Boxed ((X.setCell ⟨b, 0, none⟩ x).setCell ⟨b + 1, 0, none⟩ y) (b + 1) T' y :=
  ⟨(h1.set x).other (by omega) y, (h2.other (by omega) x).set y⟩
theorem two_kept {X : World} {b S m : Nat} {Gd : Nat → Prop} {T T' : TypeId} {v v' : Value} (h1 : Boxed X b T v) (h2 : Boxed X (b + 1) T' v') (hg : ∀ k, Gd k → k ≠ b ∧ k ≠ b + 1) (hS : b + 1 < S) (x y : Value) :
    KpIt S m Gd X ((X.setCell ⟨b, 0, none⟩ x).setCell ⟨b + 1, 0, none⟩ y) ∧ ∀ B, KeepsFrom B X ((X.setCell ⟨b, 0, none⟩ x).setCell ⟨b + 1, 0, none⟩ y) := by
  have hf : ∀ B, KeepsFrom B X ((X.setCell ⟨b, 0, none⟩ x).setCell ⟨b + 1, 0, none⟩ y) := fun B => (kf_store x h1).trans (kf_store y (h2.other (by omega) x))
  refine ⟨⟨(hf 0).size, fun k cs t fr hk hc => ?_, fun k o _ hc ho => (hf 0).same k o (Nat.zero_le _) hc ho⟩, hf⟩
  have hne : k ≠ b ∧ k ≠ b + 1 := by rcases hk with h | h; exact hg k h; omega
  rw [Below.heap_setCell _ ⟨b + 1, 0, none⟩ y k hne.2, Below.heap_setCell _ ⟨b, 0, none⟩ x k hne.1]
  exact hc
theorem retBBT {fn : Func} {a : Act} {W : World} {R : Ending → World → Prop} {b c i j k : Nat} {x y z : Value} (hfn : fn.results = #[.cell i 3, .cell j 3, .tmp k]) (hp : a.tmps[i]?.getD undef = .pointer (some ⟨b, 0, none⟩)) (hj : a.tmps[j]?.getD undef = .pointer (some ⟨c, 0, none⟩)) (hk : a.tmps[k]?.getD undef = z) (hd : a.defers = [])
    (h1 : Boxed W b 3 x) (h2 : Boxed W c 3 y) (hR : R (.returned (.tuple #[x, y, z])) W) : bodyPost Try.prog fn R .ret a W := by
  have c1 := h1.cell
  have c2 := h2.cell
  exact bodyPost_ret (v := .tuple #[x, y, z]) (by simp [results, hfn, hp, hj, hk, go_sem, c1, c2]) hd hR
/-- The blocks that a round leaves. -/
def GdP (Z b c k : Nat) : Prop := k < Z ∧ ¬ (k = b ∨ k = c)
/-- What Peak answers. -/
def pkP (C : Int) (ps : List (Int × Int × Int)) (s : Int) (ins : List (List Int)) (n : Int) : Int × Int := pkGo 0 (0, 0) (crsP C ps s ins n)
set_option maxHeartbeats 8000000 in
theorem c_Peak (C : Int) (ps : List (Int × Int × Int)) (s : Int) (ins : List (List Int)) (n : Int) (P I : Value) (w : World) (hP : PtSl w P ps) (hI : LiSl w I ins) (y1 y2 r : Int) (hr : fltL C ps s ins n = r) (hy : (y1, y2) = if r = 0 then pkP C ps s ins n else (0, 0)) :
    Calls Try.prog 18 #[lnV C P, .int .i64 s, I, .int .i64 n] w fun e w' => e = .returned (.tuple #[.int .i64 y1, .int .i64 y2, .int .i64 r]) ∧ Below w.heap.size w w' := by
  obtain ⟨W, hW⟩ : ∃ W, W = ((w.alloc (.cells #[.int .i64 C, P] 24)).alloc (.cells #[.int .i64 0] 3)).alloc (.cells #[.int .i64 0] 3) := ⟨_, rfl⟩
  have B0 : Below w.heap.size w W := by subst hW; exact below_a3 _ _ _ _
  have HB := Lib.hid B0
  have HL := Lib.hid (show W.heap[w.heap.size]? = some (.cells #[.int .i64 C, P] 24 (0, 0)) by subst hW; exact old_heap _ (old_heap _ (heap_alloc_new _ _)))
  have HT := Lib.hid (show Boxed W (w.heap.size + 1) 3 (.int .i64 0) by subst hW; exact old_heap _ (row_new _ _ _ (by simp)))
  have HV := Lib.hid (show Boxed W (w.heap.size + 1 + 1) 3 (.int .i64 0) by subst hW; exact row_new _ _ _ (by simp))
  have hz : w.heap.size + 1 + 1 < W.heap.size := HV.out.lt
  have HC := Lib.hid (fun (r1 : Int) (h1 : fltL C ps s ins n = r1) => c_fault C ps s ins n P I W (hP.on B0 (Nat.le_refl _)) (hI.on B0 (Nat.le_refl _)) r1 h1)
  have HP := Lib.hid hP
  have HI := Lib.hid hI
  obtain ⟨A, c, rfl, -, -⟩ := hP.shape
  obtain ⟨A2, c2, rfl, -, -⟩ := hI.shape
  obtain ⟨x0, x1⟩ := lin_cells HL.out
  unfold lnV at HC
  unfold lnV
  clear B0 hP hI
  by_cases h1 : r = 0
  · subst h1
    rw [if_pos rfl] at hy
    obtain ⟨g1, g2, g3, g4⟩ := flt_cases hr
    obtain ⟨g5, g6, g7⟩ := lnOk_iff.1 g1
    obtain ⟨m, rfl⟩ : ∃ m : Nat, n = (m : Int) := ⟨n.toNat, by omega⟩
    have hm1 : m ≤ 1000 := by omega
    have HR := Lib.hid hr
    have HS := Lib.hid (fun (U wa Z : World) (Mine : Nat → Prop) (hM : ∀ k, Mine k → w.heap.size ≤ k ∧ k < U.heap.size) (hU : Below w.heap.size w U) (ha : ArW C (m : Int) _ _ U wa) (hz : LvW C s (arF U.heap.size) wa Z) => lv_seq Mine (C0 := C) (w0 := w) (U := U) (wa := wa) (Z := Z) g5 g4 hm1 g7 g6 g2 HP.out HI.out hM hU ha hz)
    have HY := Lib.hid (show pkGo 0 (0, 0) ((lvI C 0 s (amts ps ins m)).map fun x : Nat × Int => x.2) = (y1, y2) by rw [hy, lvI_snd]; rfl)
    clear hr hy g1 g2 g3 g4 g5 g6 g7
    refine (callsIn_wide (n := 8)).1 ?_
    refine callsIn_of_wp_marks Try.func18 rfl trivial ?_ rfl
    simp only [Try.ntmps18, List.size_toArray, List.length_cons, List.length_nil, Nat.reduceAdd, Nat.reduceSub, Array.replicate_succ, Array.replicate_zero, List.push_toArray, List.append_toArray, List.nil_append, List.cons_append]
    rw [wpIn_wide]
    go_wp2_with (fail)
    rw [← hW]
    clear hW
    refine (HC.out _ HR.out).mono ?_
    rintro e w1 ⟨rfl, b1⟩
    have HB1 := Lib.hid (below_join HB.out b1 HB.out.size)
    have HL1 := Lib.hid ((b1.block _ (by omega)).trans HL.out)
    have HT1 := Lib.hid (show Boxed w1 (w.heap.size + 1) 3 (.int .i64 0) from (b1.block _ (by omega)).trans HT.out)
    have HV1 := Lib.hid (show Boxed w1 (w.heap.size + 1 + 1) 3 (.int .i64 0) from (b1.block _ (by omega)).trans HV.out)
    have hz1 : w.heap.size + 1 + 1 < w1.heap.size := HV1.out.lt
    clear b1 x0 x1
    go_wp2_with (fail)
    go_region_held3 (fun X => X.cell? ⟨w.heap.size, 0, none⟩ = some (.int .i64 C) ∧ X.cell? ⟨w.heap.size, 1, none⟩ = some (.slice A ps.length c))
      (first | exact lin_cells HLZ.out | exact lin_cells HLA.out | exact lin_cells (X := w1.drew) HL1.out)
      (first
        | (go_at_call 35; (with_reducible refine (c_arrivalsW C (.slice A ps.length c) (.slice A2 ins.length c2) (m : Int) w1.drew ⟨_, _, _, rfl⟩).mono ?_); rintro e wa ⟨rfl, hwa⟩; have HWA := Lib.hid hwa; have HLA := Lib.hid ((hwa.bel.block _ (show w.heap.size < w1.heap.size by omega)).trans HL1.out); clear hwa)
        | (go_at_call 34; (with_reducible refine (c_levelsA C s _ wa).mono ?_); rintro e wz ⟨rfl, hwz⟩; have HWZ := Lib.hid hwz; have HLZ := Lib.hid ((hwz.bel.block _ (Nat.lt_of_lt_of_le (show w.heap.size < w1.heap.size by omega) HWA.out.bel.size)).trans HLA.out); clear hwz)
        | fail)
    have hbw := HB1.out.size
    have HSQ := Lib.hid (HS.out w1.drew wa wz (fun k => k = w.heap.size + 1 ∨ k = w.heap.size + 1 + 1) (fun k hk => by rcases hk with rfl | rfl; exact ⟨by omega, by show w.heap.size + 1 < w1.heap.size; omega⟩; exact ⟨by omega, by show w.heap.size + 1 + 1 < w1.heap.size; omega⟩) HB1.out.drew HWA.out HWZ.out)
    have HBA := Lib.hid (below_join HWA.out.bel HWZ.out.bel HWA.out.bel.size)
    have HBZ := Lib.hid (below_join HB1.out.drew HBA.out HB1.out.size)
    have HTZ := Lib.hid (show Boxed wz (w.heap.size + 1) 3 (.int .i64 0) from (HBA.out.block _ (show w.heap.size + 1 < w1.heap.size by omega)).trans HT1.out)
    have HVZ := Lib.hid (show Boxed wz (w.heap.size + 1 + 1) 3 (.int .i64 0) from (HBA.out.block _ (show w.heap.size + 1 + 1 < w1.heap.size by omega)).trans HV1.out)
    have hzZ : w.heap.size + 1 + 1 < wz.heap.size := HVZ.out.lt
    unfold lvF
    go_wp2_with (fail)
    refine (wpIn_wide (n := 8)).1 ?_
    refine wpIn_it (n := 8) (by omega) (gf := 48) (lb := #[.pointer (some ⟨wa.heap.size + 1, 0, none⟩), .pointer (some ⟨wa.heap.size + 1 + 1, 0, none⟩), .pointer (some ⟨wa.heap.size, 0, none⟩)]) rfl eg_lv (m := 3) (Gd := GdP wz.heap.size (w.heap.size + 1) (w.heap.size + 1 + 1)) (ok := okL) (ts := lvI C 0 s (amts ps ins m)) (w0 := wz) HSQ.out (KpG.refl wz) (fun v t h => by rw [h]; rfl)
      (fun pre X => PkI w (w.heap.size + 1) pre X) (fun _ _ _ => False)
      (fun pre X Y h hE => h.own hE (by omega) (by omega)) (fun _ _ _ _ h _ => h.elim)
      (fun pre X l o o' h hl ho hc => h.put (by omega) ho hc) (fun _ _ _ _ _ _ h _ _ _ => h.elim)
      ⟨HTZ.out, HVZ.out, HBZ.out⟩ ?round ?done (fun _ _ _ _ _ _ h _ => h.elim)
    case round =>
      intro l pre v x X K hpre hok hK
      have hx1 : x.1 = pre.length := by
        obtain ⟨rest, hrest⟩ := hpre
        exact lvI_at C s (amts ps ins m) pre.length x (by rw [← hrest]; simp)
      obtain ⟨x1, x2⟩ := x
      obtain rfl : x1 = pre.length := hx1
      obtain rfl : v = #[.int .i64 ((pre.length : Nat) : Int), .int .i64 x2] := hok
      gi_wp2_with (fail)
      refine hK _ _ (Below.refl _ _) ?_
      rintro Y ⟨o, o', ho, hoc, hYe⟩ hsz ⟨i1, i2, i3⟩
      have hsn := pkGo_snoc (pre.map fun x : Nat × Int => x.2) x2 0 (0, 0)
      obtain ⟨⟨p1, p2⟩, hp⟩ : ∃ p, p = pkGo 0 (0, 0) (pre.map fun x : Nat × Int => x.2) := ⟨_, rfl⟩
      rw [← hp] at i1 i2 hsn
      have HSN := Lib.hid (show pkGo 0 (0, 0) ((pre ++ [((pre.length : Nat), x2)]).map fun x : Nat × Int => x.2) = if p2 < x2 then ((pre.length : Int), x2) else (p1, p2) by
        rw [List.map_append]
        refine hsn.trans ?_
        rw [List.length_map, Int.zero_add])
      have H1 := Lib.hid i1
      have H2 := Lib.hid i2
      have H3 := Lib.hid i3
      have y0 := i1.cell
      have y3 := i2.cell
      have f1 := i1.frozen
      have f2 := i2.frozen
      have hne : w.heap.size + 1 + 1 ≠ w.heap.size + 1 := by omega
      clear hYe ho hoc o o' hK i1 i2 i3 hsn hp hpre
      rcases Int.lt_or_le p2 x2 with hlt | hle
      · have HN := Lib.hid (show pkGo 0 (0, 0) ((pre ++ [((pre.length : Nat), x2)]).map fun x : Nat × Int => x.2) = ((pre.length : Int), x2) by rw [HSN.out, if_pos hlt])
        gi_wp2_with (fail)
        obtain ⟨m1, m2⟩ := two_boxes H1.out H2.out (.int .i64 (pre.length : Int)) (.int .i64 x2)
        obtain ⟨k1, k2⟩ := two_kept (S := wz.heap.size + 2) (m := 3) (Gd := GdP wz.heap.size (w.heap.size + 1) (w.heap.size + 1 + 1)) H1.out H2.out (fun k hk => ⟨fun e => hk.2 (.inl e), fun e => hk.2 (.inr e)⟩) (by omega) (.int .i64 (pre.length : Int)) (.int .i64 x2)
        refine ⟨k2 _, k1, ?_, ?_, (H3.out.setCell (p := ⟨w.heap.size + 1, 0, none⟩) (by show w.heap.size ≤ w.heap.size + 1; omega) _).setCell (p := ⟨w.heap.size + 1 + 1, 0, none⟩) (by show w.heap.size ≤ w.heap.size + 1 + 1; omega) _⟩
        · rw [HN.out]; exact m1
        · rw [HN.out]; exact m2
      · have HN := Lib.hid (show pkGo 0 (0, 0) ((pre ++ [((pre.length : Nat), x2)]).map fun x : Nat × Int => x.2) = (p1, p2) by rw [HSN.out, if_neg (by omega)])
        gi_wp2_with (fail)
        refine ⟨KeepsFrom.refl _ _, KpIt.refl _, ?_, ?_, H3.out⟩
        · rw [HN.out]; exact H1.out
        · rw [HN.out]; exact H2.out
    case done =>
      rintro D X rfl ⟨i1, i2, i3⟩ hdef
      rw [HY.out] at i1 i2
      have H1 := Lib.hid i1
      have H2 := Lib.hid i2
      have H3 := Lib.hid i3
      have HDEF := Lib.hid hdef
      have z0 := i1.cell
      have z1 := i2.cell
      have f1 := i1.frozen
      have f2 := i2.frozen
      have hne : w.heap.size + 1 + 1 ≠ w.heap.size + 1 := by omega
      clear i1 i2 i3 hdef
      go_wp2_with (fail)
      go_region
      all_goals go_wp2_with (fail)
      obtain ⟨m1, m2⟩ := two_boxes H1.out H2.out (.int .i64 y1) (.int .i64 y2)
      have hD2 : ((X.setCell ⟨w.heap.size + 1, 0, none⟩ (.int .i64 y1)).setCell ⟨w.heap.size + 1 + 1, 0, none⟩ (.int .i64 y2)).drew.heap[wz.heap.size]? = some (.deferred (some [])) := by
        show ((X.setCell ⟨w.heap.size + 1, 0, none⟩ (.int .i64 y1)).setCell ⟨w.heap.size + 1 + 1, 0, none⟩ (.int .i64 y2)).heap[wz.heap.size]? = _
        rw [Below.heap_setCell _ ⟨w.heap.size + 1 + 1, 0, none⟩ _ wz.heap.size (by show wz.heap.size ≠ w.heap.size + 1 + 1; omega), Below.heap_setCell _ ⟨w.heap.size + 1, 0, none⟩ _ wz.heap.size (by show wz.heap.size ≠ w.heap.size + 1; omega)]
        exact HDEF.out
      have n1 := (boxed_put (X := ((X.setCell ⟨w.heap.size + 1, 0, none⟩ (.int .i64 y1)).setCell ⟨w.heap.size + 1 + 1, 0, none⟩ (.int .i64 y2)).drew) (o' := .deferred none) m1 hD2 rfl).cell
      have n2 := (boxed_put (X := ((X.setCell ⟨w.heap.size + 1, 0, none⟩ (.int .i64 y1)).setCell ⟨w.heap.size + 1 + 1, 0, none⟩ (.int .i64 y2)).drew) (o' := .deferred none) m2 hD2 rfl).cell
      refine ⟨by simp, .inl ⟨_, _, rfl, run_takeDeferred hD2, ?_⟩⟩
      exact ⟨.tuple #[.int .i64 y1, .int .i64 y2, .int .i64 0], by simp [results, Try.results18, go_sem, n1, n2], rfl, below_put ((H3.out.setCell (p := ⟨w.heap.size + 1, 0, none⟩) (by show w.heap.size ≤ w.heap.size + 1; omega) _).setCell (p := ⟨w.heap.size + 1 + 1, 0, none⟩) (by show w.heap.size ≤ w.heap.size + 1 + 1; omega) _).drew (by omega)⟩
  · have hne : (r != 0) = true := by rw [bne_iff_ne]; exact h1
    have HR := Lib.hid hr
    rw [if_neg h1] at hy
    obtain ⟨rfl, rfl⟩ := Prod.mk.inj hy
    clear hr h1 hy
    go_enter Try.func18, Try.ntmps18
    go_wp2_with (fail)
    rw [← hW]
    clear hW
    go_at_call 30
    refine (HC.out _ HR.out).mono ?_
    rintro e w1 ⟨rfl, b1⟩
    have HB1 := Lib.hid (below_join HB.out b1 HB.out.size)
    have HT1 := Lib.hid (show Boxed w1 (w.heap.size + 1) 3 (.int .i64 0) from (b1.block _ (by omega)).trans HT.out)
    have HV1 := Lib.hid (show Boxed w1 (w.heap.size + 1 + 1) 3 (.int .i64 0) from (b1.block _ (by omega)).trans HV.out)
    have z0 := HT1.out.cell
    have z1 := HV1.out.cell
    have f1 := HT1.out.frozen
    have f2 := HV1.out.frozen
    clear b1 x0 x1
    go_wp2_with (fail)
    obtain ⟨m1, m2⟩ := two_boxes HT1.out HV1.out (.int .i64 0) (.int .i64 0)
    exact retBBT rfl rfl rfl rfl rfl m1 m2 ⟨rfl, (HB1.out.setCell (p := ⟨w.heap.size + 1, 0, none⟩) (by show w.heap.size ≤ w.heap.size + 1; omega) _).setCell (p := ⟨w.heap.size + 1 + 1, 0, none⟩) (by show w.heap.size ≤ w.heap.size + 1 + 1; omega) _⟩
end Go.Proofs.Ythghinkicaafmaa
