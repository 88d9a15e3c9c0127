/-
  DERIVED. Trips.
-/
import Derived.Test.YtomfaknemjbjcaaBO
namespace Go.Proofs.Ytomfaknemjbjcaa
open Go.RowKit Go.Shelf
attribute [local go_sem] Oper.semAt_some
set_option maxRecDepth 100000

theorem crsI_getI (L S F : Int) (l : List Int) (x : Int × Bool) (i : Nat) : (crs L S F x l)[i]? = ((crsI L S F 0 x l)[i]?).map (·.2) := by
  rw [← crsI_snd L S F l 0 x, List.getElem?_map]
theorem trp_stop {L S F : Int} {l : List Int} {x : Int × Bool} {pre : List (Nat × (Int × Bool))} {u : Nat × (Int × Bool)} (hp : pre ++ [u] <+: crsI L S F 0 x l) (h1 : ∀ y ∈ pre, y.2.2 = false) (h2 : u.2.2 = true) : trp L S F x l = some u.1 := by
  obtain ⟨rest, hr⟩ := hp
  have hu : (crsI L S F 0 x l)[pre.length]? = some u := by rw [← hr]; simp
  have e := crsI_get L S F l 0 x _ u hu
  rw [e, Nat.zero_add]
  refine trp_crs L S F l x pre.length (fun i hi => ?_) ?_
  · rw [crsI_getI, ← hr, List.append_assoc, List.getElem?_append_left hi, List.getElem?_eq_getElem hi]
    simp only [Option.map_some]
    rw [h1 _ (List.getElem_mem hi)]
  · rw [crsI_getI, hu]
    simp only [Option.map_some]
    rw [h2]
theorem trp_end {L S F : Int} {l : List Int} {x : Int × Bool} (h1 : ∀ y ∈ crsI L S F 0 x l, y.2.2 = false) : trp L S F x l = none := by
  refine trp_none L S F l x fun i hi => ?_
  rw [crsI_getI]
  have hl : i < (crsI L S F 0 x l).length := by
    rw [← List.length_map (f := (·.2)), crsI_snd, crs_len]; exact hi
  rw [List.getElem?_eq_getElem hl]
  simp only [Option.map_some]
  rw [h1 _ (List.getElem_mem hl)]
/-- What Trips answers. -/
def tripsP (L S F h : Int) (l : List Int) : Int × Int := if fltH L S F h l = 0 then (optI (trp L S F (h, false) l), 0) else (0, fltH L S F h l)
theorem two_boxes {X : World} {b : Nat} {T T' : TypeId} {v v' : Value} (h1 : Boxed X b T v) (h2 : Boxed X (b + 1) T' v') (x y : Value) :
    Boxed ((X.setCell ⟨b, 0, none⟩ x).setCell ⟨b + 1, 0, none⟩ y) b T x ∧ Boxed ((X.setCell ⟨b, 0, none⟩ x).setCell ⟨b + 1, 0, none⟩ y) (b + 1) T' y := by
  constructor
  · unfold Boxed
    rw [Below.heap_setCell _ ⟨b + 1, 0, none⟩ y b (by show b ≠ b + 1; omega)]
    exact h1.set x
  · refine Boxed.set (v := v') y ?_
    unfold Boxed
    rw [Below.heap_setCell _ ⟨b, 0, none⟩ x (b + 1) (by show b + 1 ≠ b; omega)]
    exact h2
theorem boxed_put {X : World} {b l : Nat} {T : TypeId} {v : Value} {o o' : Obj} (h : Boxed X b T v) (hl : X.heap[l]? = some o) (ho : o.isCells = false) : Boxed (X.putObj l o') b T v := put_cells h hl ho
theorem retBB {fn : Func} {a : Act} {W : World} {R : Ending → World → Prop} {b c i j : Nat} {x y : Value} {T T' : TypeId} (hfn : fn.results = #[.cell i 3, .cell j 28]) (hp : a.tmps[i]?.getD undef = .pointer (some ⟨b, 0, none⟩)) (hj : a.tmps[j]?.getD undef = .pointer (some ⟨c, 0, none⟩)) (hd : a.defers = [])
    (h1 : Boxed W b T x) (h2 : Boxed W c T' y) (hR : R (.returned (.tuple #[x, y])) W) : bodyPost Try.prog fn R .ret a W := by
  have c1 := h1.cell
  have c2 := h2.cell
  exact bodyPost_ret (v := .tuple #[x, y]) (by simp [results, hfn, hp, hj, go_sem, c1, c2]) hd hR
def Untr (pre : List (Nat × (Int × Bool))) : Prop := ∀ y ∈ pre, y.2.2 = false
/-- The two results in their boxes, between two rounds. -/
def TrpI (w : World) (b G : Nat) (i : Int) (X : World) : Prop := Boxed X b 3 (.int .i64 i) ∧ Boxed X (b + 1) 28 (.int .i64 0) ∧ Below w.heap.size w X ∧ G ≤ X.heap.size
section
variable {w X Y : World} {b bs G : Nat} {i : Int}
theorem TrpI.own (h : TrpI w b G i X) (hE : OwnSt bs X Y) (h1 : bs ≠ b) (h2 : bs ≠ b + 1) (h4 : w.heap.size ≤ bs) : TrpI w b G i Y := by
  obtain ⟨k1, k2, k4, k5⟩ := h
  refine ⟨hE.same _ _ k1 (.inr (Ne.symm h1)), hE.same _ _ k2 (.inr (Ne.symm h2)), ?_, Nat.le_trans k5 hE.size⟩
  refine ⟨hE.os.trans k4.os, hE.tape.trans k4.tape, hE.output.trans k4.output, Nat.le_trans k4.size hE.size, fun k hk => ?_⟩
  have hlt : k < X.heap.size := Nat.lt_of_lt_of_le hk k4.size
  have h3 := Array.getElem?_eq_getElem hlt
  have := hE.same k _ h3 (.inr (by omega))
  rw [this, ← h3]
  exact k4.block k hk
theorem TrpI.put {l : Nat} {o o' : Obj} (h : TrpI w b G i X) (hw : w.heap.size ≤ l) (hl : X.heap[l]? = some o) (ho : o.isCells = false) : TrpI w b G i (X.putObj l o') := by
  obtain ⟨k1, k2, k4, k5⟩ := h
  exact ⟨put_cells k1 hl ho, put_cells k2 hl ho, below_put k4 hw, by rw [World.putObj_size]; exact k5⟩
theorem TrpI.store (h : TrpI w b G i X) (hb : w.heap.size ≤ b) (j : Int) : TrpI w b G j ((X.setCell ⟨b, 0, none⟩ (.int .i64 j)).setCell ⟨b + 1, 0, none⟩ (.int .i64 0)) := by
  obtain ⟨k1, k2, k4, k5⟩ := h
  obtain ⟨h1, h2⟩ := two_boxes k1 k2 (.int .i64 j) (.int .i64 0)
  exact ⟨h1, h2, (k4.setCell (p := ⟨b, 0, none⟩) hb _).setCell (p := ⟨b + 1, 0, none⟩) (by show w.heap.size ≤ b + 1; omega) _, by simpa [World.setCell] using k5⟩
theorem TrpI.below {B : Nat} (h : TrpI w b G i X) (hb : Below B X Y) (hB : X.heap.size ≤ B) : TrpI w b G i Y := by
  obtain ⟨k1, k2, k4, k5⟩ := h
  exact ⟨(hb.block _ (Nat.lt_of_lt_of_le (block_lt k1) hB)).trans k1, (hb.block _ (Nat.lt_of_lt_of_le (block_lt k2) hB)).trans k2, k4.trans (hb.mono (Nat.le_trans k4.size hB)), Nat.le_trans k5 hb.size⟩
end
set_option maxHeartbeats 8000000 in
theorem c_Trips (f L S F q : Int) (l : List Int) (v : Value) (w : World) (hv : IntSl w v l) (y r : Int) (hr : tripsP L S F q l = (y, r)) :
    Calls Try.prog 18 #[bkV f L S F, .int .i64 q, v] w fun e w' => e = .returned (.tuple #[.int .i64 y, .int .i64 r]) ∧ Below w.heap.size w w' := by
  obtain ⟨W, hW⟩ : ∃ W, W = ((w.alloc (.cells #[.int .i64 f, .int .i64 L, .int .i64 S, .int .i64 F] 23)).alloc (.cells #[.int .i64 0] 3)).alloc (.cells #[.int .i64 0] 28) := ⟨_, rfl⟩
  have B0 : Below w.heap.size w W := by subst hW; exact below_a3 _ _ _ _
  have HB := Lib.hid B0
  have HK := Lib.hid (show Bk W w.heap.size f L S F by subst hW; exact old_heap _ (old_heap _ (bk_new _ _ _ _ _)))
  have HR1 := Lib.hid (show Boxed W (w.heap.size + 1) 3 (.int .i64 0) by subst hW; exact old_heap _ (row_new4 _ _ _ (by simp)))
  have HR2 := Lib.hid (show Boxed W (w.heap.size + 1 + 1) 28 (.int .i64 0) by subst hW; exact row_new4 _ _ _ (by simp))
  have hz : w.heap.size + 1 + 1 < W.heap.size := HR2.out.lt
  have HV := Lib.hid hv
  obtain ⟨A, c, rfl, hc1, hc2⟩ := hv.shape
  have HC := Lib.hid (fun (r1 : Int) (h1 : fltH L S F q l = r1) => c_faultOfHeat f L S F q l r1 h1 _ W (HV.out.on HB.out (Nat.le_refl _)))
  obtain ⟨x0, x1, x2, x3⟩ := HK.out.cells
  unfold bkV at HC
  unfold bkV
  clear B0 hv
  unfold tripsP at hr
  by_cases h1 : fltH L S F q l = 0
  · rw [if_pos h1] at hr
    injection hr with hy hr
    subst hr
    obtain ⟨g1, g2, g3, g7⟩ := fltH_zero h1
    have g4 := bOk_iff.1 g1
    obtain ⟨g5, g6⟩ := lsOk_all g7
    have HR := Lib.hid h1
    have G6 := Lib.hid g6
    have HY := Lib.hid hy
    have HVS := Lib.hid (show Vs S (q, false) from ⟨g2, by show q ≤ 100000000; omega, .inr g3⟩)
    clear h1 g1 g7 g6 hy
    refine (callsIn_wide (n := 8)).1 ?_
    refine callsIn_of_wp_marks Try.func18 rfl trivial ?_ rfl
    simp only [Try.ntmps18, List.size_toArray, List.length_cons, List.length_nil, Nat.reduceAdd, Nat.reduceSub, Array.replicate_succ, Array.replicate_zero, List.push_toArray, List.append_toArray, List.nil_append, List.cons_append]
    rw [wpIn_wide]
    go_wp2_with (fail)
    rw [← hW]
    clear hW
    refine (HC.out _ HR.out).mono ?_
    rintro e w1 ⟨rfl, b1⟩
    have HB1 := Lib.hid (below_join HB.out b1 HB.out.size)
    have HK1 := Lib.hid (HK.out.on b1 (by omega))
    have HR11 := Lib.hid ((b1.block _ HR1.out.lt).trans HR1.out)
    have HR21 := Lib.hid ((b1.block _ HR2.out.lt).trans HR2.out)
    have hz1 := Nat.lt_of_lt_of_le hz b1.size
    clear b1 x0 x1 x2 x3
    obtain ⟨x0, x1, x2, x3⟩ := HK1.out.cells
    go_wp2_with (fail)
    clear x0 x1 x2 x3
    refine (c_states f L S F q false A l.length c _).mono ?_
    rintro e w7 ⟨rfl, hw7⟩
    have HB7 := Lib.hid (show Below w1.heap.size w1 w7 by subst hw7; exact below_a3 _ _ _ _)
    have HK7 := Lib.hid (show Bk w7 w1.heap.size f L S F by subst hw7; exact old_heap _ (old_heap _ (bk_new _ _ _ _ _)))
    have HS7 := Lib.hid (show St w7 (w1.heap.size + 1) q false by subst hw7; exact old_heap _ (row_new4 _ _ _ (by simp)))
    have HW7 := Lib.hid (show w7.cell? ⟨w1.heap.size + 1 + 1, 0, none⟩ = some (.slice A l.length c) by subst hw7; exact one_cell (row_new4 _ _ _ (by simp)))
    have hz7 : w7.heap.size = w1.heap.size + 3 := by subst hw7; simp
    clear hw7
    go_wp2_with (fail)
    refine (wpIn_wide (n := 8)).1 ?_
    refine wpIn_over (F := Fence.wide) (n := 8) rfl (by omega) (gf := 55) (lb := #[.pointer (some ⟨w1.heap.size + 1 + 1, 0, none⟩), .pointer (some ⟨w1.heap.size, 0, none⟩), .pointer (some ⟨w1.heap.size + 1, 0, none⟩)]) rfl trivial (enters_of Try.func55 (by kernel_rfl) rfl)
      (E := OwnSt (w1.heap.size + 1)) (Kp := KpG (fun k => k < w1.heap.size + 3)) (ok := fun v u _ => v = #[.int .i64 ((u.1 : Nat) : Int), stV u.2]) (ts := crsI L S F 0 (q, false) l) (w0 := w7) ?seq (Below.refl _ _) (fun v u X h => by rw [h]; rfl)
      (fun X Y k o hE hk ho => hE.same k o hk (.inl ho)) KpG.trans KpG.put (fun v u X l o o' h _ _ => h)
      (fun pre X => TrpI w (w.heap.size + 1) (w1.heap.size + 3) 0 X ∧ Untr pre) (fun c pre X => c = .ret ∧ TrpI w (w.heap.size + 1) (w1.heap.size + 3) y X)
      (fun pre X Y h hE => ⟨h.1.own hE (by omega) (by omega) (by have := HB1.out.size; omega), h.2⟩)
      (fun pre X l o o' h hl hx ho => ⟨h.1.put (by have := HB1.out.size; omega) hx ho, h.2⟩) (fun c pre X l o o' h hl hx ho => ⟨h.1, h.2.put (by have := HB1.out.size; omega) hx ho⟩)
      (fun X o h => ⟨h.1.below ((Below.refl X.heap.size X).alloc (Nat.le_refl _) o) (Nat.le_refl _), h.2⟩) ?init (fun A B h => OwnSt.of_below h (Nat.le_refl _)) (fun A B h => ⟨h.size, fun k cs t fr _ hk => (h.block k (block_lt hk)).trans hk⟩) (fun v u A B _ h => h) ?round ?done ?stop
    case seq =>
      intro lp J Jx X hBX hJ hY hj
      have hsz := HB1.out.size
      refine c_states1 7 (by omega) lp w1.heap.size (w1.heap.size + 1) (w1.heap.size + 1 + 1) _ (by omega) (by omega) (by omega) f L S F q false ⟨g4.1, g4.2.1, g4.2.2.2.1⟩ A c l g5 G6.out HVS.out J Jx X (HK7.out.on hBX (by omega)) (HS7.out.on hBX (by omega)) ((hBX.cell (p := ⟨w1.heap.size + 1 + 1, 0, none⟩) (by show w1.heap.size + 1 + 1 < w7.heap.size; omega)).trans HW7.out) ?_ hJ hY hj
      intro j x hjx
      obtain ⟨b, o, c', e, hlt, -, -, hcell⟩ := HV.out.at_ hjx
      injection e with e1 _ e2
      have hbx : Below w.heap.size w X := below_join (below_join HB1.out HB7.out HB1.out.size) hBX (by have := HB1.out.size; omega)
      exact ⟨b, o, e1, by omega, by omega, by have := hbx.size; omega, (hbx.cell (p := ⟨b, o + j, none⟩) hlt).trans hcell⟩
    case init =>
      exact ⟨⟨(HB7.out.block _ (by omega)).trans HR11.out, (HB7.out.block _ (by omega)).trans HR21.out, below_join HB1.out HB7.out HB1.out.size, by omega⟩, fun y hy => absurd hy List.not_mem_nil⟩
    case round =>
      intro lp pre v u X K hpre hok hK
      subst hok
      unfold stV
      gi_wp2
      refine hK _ _ ((Below.refl _ _).alloc (Nat.le_refl _) _) ?_
      rintro Y hlp ⟨o, o', ho, hoc, hYe⟩ ⟨⟨k1, k2, k4, k5⟩, hun⟩ -
      have HSY := Lib.hid (show St Y X.heap.size u.2.1 u.2.2 by rw [hYe]; exact put_cells (st_new _ _ _) ho hoc)
      have hXY : X.heap.size < Y.heap.size := block_lt HSY.out
      have HK1 := Lib.hid k1
      have HK2 := Lib.hid k2
      have HK4 := Lib.hid k4
      have HUN := Lib.hid hun
      have HPR := Lib.hid hpre
      obtain ⟨y0, y1⟩ := HSY.out.cells
      have hbs := HB1.out.size
      obtain ⟨u1, u2, u3⟩ := u
      cases u3
      · clear hYe ho hoc o o' hK k1 k2 k4 hun hpre
        gi_wp2_with (fail)
        exact ⟨⟨Nat.le_refl _, fun k o _ hk _ => hk⟩, ⟨Nat.le_refl _, fun k cs t fr _ hk => hk⟩, ⟨HK1.out, HK2.out, HK4.out, k5⟩, (fun z hz => by
          rcases List.mem_append.1 hz with h | h
          · exact HUN.out z h
          · rw [List.mem_singleton.1 h] : Untr (pre ++ [(u1, u2, false)]))⟩
      · have HT := Lib.hid (trp_stop hpre hun rfl)
        have c1 := k1.cell
        have c2 := k2.cell
        have f1 := k1.frozen
        have f2 := k2.frozen
        clear hYe ho hoc o o' hK k1 k2 k4 hun hpre
        gi_wp2_with (fail)
        have hyu : (u1 : Int) = y := by rw [← HY.out, HT.out]; rfl
        refine ⟨((KeepsOthers.setCell Y _ _).trans (KeepsOthers.setCell _ _ _)).from _, rfl, ?_⟩
        rw [hyu]
        exact TrpI.store ⟨HK1.out, HK2.out, HK4.out, k5⟩ (by omega) y
    case done =>
      rintro D X hD ⟨⟨k1, k2, k4, k5⟩, hun⟩ hdef
      have HT := Lib.hid (trp_end hun)
      have HDEF := Lib.hid hdef
      have HK1 := Lib.hid k1
      have HK2 := Lib.hid k2
      have HK4 := Lib.hid k4
      have c1 := k1.cell
      have c2 := k2.cell
      have f1 := k1.frozen
      have f2 := k2.frozen
      clear k1 k2 k4 hdef hun
      go_wp2_with (fail)
      have hyu : (-1 : Int) = y := by rw [← HY.out, HT.out]; rfl
      obtain ⟨m1, m2, m3, -⟩ := TrpI.store (G := w1.heap.size + 3) ⟨HK1.out, HK2.out, HK4.out, k5⟩ (by omega) (-1)
      have hD2 : ((X.setCell ⟨w.heap.size + 1, 0, none⟩ (.int .i64 (-1))).setCell ⟨w.heap.size + 1 + 1, 0, none⟩ (.int .i64 0)).heap[D]? = some (.deferred (some [])) := by
        have := HB1.out.size
        rw [Below.heap_setCell _ ⟨w.heap.size + 1 + 1, 0, none⟩ _ D (by show D ≠ w.heap.size + 1 + 1; omega), Below.heap_setCell _ ⟨w.heap.size + 1, 0, none⟩ _ D (by show D ≠ w.heap.size + 1; omega)]
        exact HDEF.out
      have n1 := (boxed_put (o' := .deferred none) m1 hD2 rfl).cell
      have n2 := (boxed_put (o' := .deferred none) m2 hD2 rfl).cell
      refine ⟨by simp, .inl ⟨_, _, rfl, run_takeDeferred hD2, ?_⟩⟩
      exact ⟨.tuple #[.int .i64 (-1), .int .i64 0], by simp [results, Try.results18, go_sem, n1, n2], by rw [hyu], below_put m3 (by have := HB1.out.size; omega)⟩
    case stop =>
      rintro D c pre X hD hpre ⟨rfl, k1, k2, k4, k5⟩ hdef
      have HDEF := Lib.hid hdef
      have HK1 := Lib.hid k1
      have HK2 := Lib.hid k2
      have HK4 := Lib.hid k4
      have c1 := k1.cell
      have c2 := k2.cell
      clear k1 k2 k4 hdef
      gi_wp2_with (fail)
      have n1 := (boxed_put (o' := .deferred none) HK1.out HDEF.out rfl).cell
      have n2 := (boxed_put (o' := .deferred none) HK2.out HDEF.out rfl).cell
      refine ⟨by simp, .inl ⟨_, _, rfl, run_takeDeferred HDEF.out, ?_⟩⟩
      exact ⟨.tuple #[.int .i64 y, .int .i64 0], by simp [results, Try.results18, go_sem, n1, n2], rfl, below_put HK4.out (by have := HB1.out.size; omega)⟩
  · rw [if_neg h1] at hr
    injection hr with hy hr
    subst hy
    have HF := Lib.hid hr
    have hne : (r == 0) = false := by rw [beq_eq_false_iff_ne, ← hr]; exact h1
    clear h1 hr
    go_enter Try.func18, Try.ntmps18
    go_wp2_with (fail)
    rw [← hW]
    clear hW
    go_at_call 44
    refine (HC.out _ HF.out).mono ?_
    rintro e w1 ⟨rfl, b1⟩
    have HB1 := Lib.hid (below_join HB.out b1 HB.out.size)
    have HR11 := Lib.hid (show Boxed w1 (w.heap.size + 1) 3 (.int .i64 0) from (b1.block _ HR1.out.lt).trans HR1.out)
    have HR21 := Lib.hid (show Boxed w1 (w.heap.size + 1 + 1) 28 (.int .i64 0) from (b1.block _ HR2.out.lt).trans HR2.out)
    have c1 := HR11.out.cell
    have c2 := HR21.out.cell
    have f1 := HR11.out.frozen
    have f2 := HR21.out.frozen
    clear b1 x0 x1 x2 x3
    go_wp2_with (fail)
    obtain ⟨m1, m2⟩ := two_boxes HR11.out HR21.out (.int .i64 0) (.int .i64 r)
    exact retBB rfl rfl rfl rfl m1 m2 ⟨rfl, (HB1.out.setCell (p := ⟨w.heap.size + 1, 0, none⟩) (by show w.heap.size ≤ w.heap.size + 1; omega) _).setCell (p := ⟨w.heap.size + 1 + 1, 0, none⟩) (by show w.heap.size ≤ w.heap.size + 1 + 1; omega) _⟩
end Go.Proofs.Ytomfaknemjbjcaa
