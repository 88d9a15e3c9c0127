/-
  DERIVED. Course.
-/
import Derived.Test.YtomfaknemjbjcaaBN
import Derived.Test.YtomfaknemjbjcaaBI
import Derived.Deep.AppendLies
import Derived.Laws.OwnMore
namespace Go.Proofs.Ytomfaknemjbjcaa
open Go.RowKit Go.Shelf
attribute [local go_sem] Oper.semAt_some
set_option maxRecDepth 100000

theorem wpListIn_append_lies {F : Fence} {n : Nat} {P : Program} (w : World) {ops : Array Oper} {rest : List Oper} {o : Oper} {a : Act} {Q : Exit → Act → World → Prop}
    (hg : o.guard = none) (s x : Operand) (t : TypeId) (hop : o.op = Op.call { callee := Callee.builtin Builtin.append, args := #[s, x], argTypes := #[t, t] })
    (base : Nat) (e : TypeId) (i : TypeInfo) (z : Value) (size bytes : Nat) (h1 : P.underlying t = some (.slice e)) (h2 : P.info? e = some i) (h3 : i.zero = some z) (h4 : i.size = size) (h5 : i.bytes = bytes) (h6 : z.cells.size = size) (h7 : 0 < size)
    (v : Value) (k : Nat) (xs : List Value) (hs : a.eval s = v) (hown : w.ownsRow base e size v k xs) (ad : Addr) (m c : Nat) (news : List Value) (hx : a.eval x = .slice (some ad) m c) (hn : news.length = m * size)
    (hc : ∀ j u, news[j]? = some u → w.cell? (ad.add j) = some u) (h1c : ∀ u ∈ news, u.oneCell' = true) (hm : 0 < m) (b1 : k + m ≤ maxLen) (b2 : (k + m) * bytes ≤ 140737488355328) (b3 : base ≤ w.heap.size) (H : Nat) (hH : w.heap.size = H)
    (hK : ∀ g cap w', w'.ownsRow base e size (.slice (some ⟨g, 0, none⟩) (k + m) cap) (k + m) (xs ++ news) → w.grownBy w' v.ownBlock → (v.ownBlock = some g ∨ g = H) → wpListIn F n P ops Q rest (a.put o.dst (.slice (some ⟨g, 0, none⟩) (k + m) cap)) w') :
    wpListIn F n P ops Q (o :: rest) a w := by
  refine wpListIn_plain hg fun K hK' => ?_
  obtain ⟨g, cap, w', hrun, r1, r2, r3, -⟩ := run_append_lies (P := P) w t o.type base e i z size bytes h1 h2 h3 h4 h5 h6 h7 v k xs hown ad m c news hn hc h1c hm b1 b2 b3 H hH
  unfold Oper.wpIn
  refine ⟨?_, ?_⟩
  · simp [Oper.about, hop, resolve, Target.leads, Sem.run_pure]
  · rw [Oper.semAt_plain F _ _ (by rw [hop]; intro c hc'; cases hc')]
    simp [execOp, hop, resolve, invoke, builtin, hs, hx, hrun, Result.andThen]
    exact hK' _ _ (hK g cap w' r1 r2 r3)

/-- States as cells. -/
def cellsS (l : List (Int × Bool)) : List Value := l.flatMap fun x => [.int .i64 x.1, .bool x.2]
theorem cellsS_snoc (l : List (Int × Bool)) (x : Int × Bool) : cellsS (l ++ [x]) = cellsS l ++ [.int .i64 x.1, .bool x.2] := by simp [cellsS]
theorem cellsS_get (l : List (Int × Bool)) : ∀ j x, l[j]? = some x → (cellsS l)[j * 2]? = some (.int .i64 x.1) ∧ (cellsS l)[j * 2 + 1]? = some (.bool x.2) := by
  induction l with
  | nil => intro j x h; simp at h
  | cons y l ih =>
    intro j x h
    cases j with
    | zero => simp at h; subst h; exact ⟨rfl, rfl⟩
    | succ j =>
      have := ih j x (by simpa using h)
      rw [show (j + 1) * 2 = j * 2 + 1 + 1 by omega]
      exact this
/-- States, as a slice. -/
def StSl (w : World) (v : Value) (l : List (Int × Bool)) : Prop :=
  ∃ A c, v = .slice A l.length c ∧ l.length ≤ c ∧ c ≤ maxLen ∧ (A = none → c = 0) ∧ (0 < l.length → ∃ b o, A = some ⟨b, o, none⟩ ∧ b < w.heap.size ∧ ∀ j x, l[j]? = some x → w.cell? ⟨b, o + j * 2, none⟩ = some (.int .i64 x.1) ∧ w.cell? ⟨b, o + j * 2 + 1, none⟩ = some (.bool x.2))
theorem StSl.nil (w : World) : StSl w (.slice none 0 0) [] := ⟨none, 0, rfl, Nat.le_refl _, Nat.zero_le _, fun _ => rfl, fun h => absurd h (Nat.lt_irrefl _)⟩
theorem StSl.on {w w' : World} {v : Value} {l : List (Int × Bool)} {B : Nat} (h : StSl w v l) (hb : Below B w w') (hB : w.heap.size ≤ B) : StSl w' v l := by
  obtain ⟨A, c, h1, h2, h3, h5, h4⟩ := h
  refine ⟨A, c, h1, h2, h3, h5, fun h0 => ?_⟩
  obtain ⟨b, o, e, hlt, hc⟩ := h4 h0
  refine ⟨b, o, e, Nat.lt_of_lt_of_le hlt hb.size, fun j x hj => ?_⟩
  obtain ⟨c1, c2⟩ := hc j x hj
  exact ⟨(hb.cell (p := ⟨b, o + j * 2, none⟩) (by show b < B; omega)).trans c1, (hb.cell (p := ⟨b, o + j * 2 + 1, none⟩) (by show b < B; omega)).trans c2⟩
theorem StSl.shape {w : World} {v : Value} {l : List (Int × Bool)} (h : StSl w v l) : ∃ A c, v = .slice A l.length c ∧ l.length ≤ c ∧ c ≤ maxLen := by
  obtain ⟨A, c, h1, h2, h3, -⟩ := h
  exact ⟨A, c, h1, h2, h3⟩
theorem own_stSl {w : World} {base n g cap : Nat} {l : List (Int × Bool)} (h : w.ownsRow base 25 2 (.slice (some ⟨g, 0, none⟩) n cap) n (cellsS l)) (hn : l.length = n) : StSl w (.slice (some ⟨g, 0, none⟩) n cap) l := by
  have hc := h
  obtain ⟨k1, ⟨e, -⟩ | ⟨g', cap', cur, e, k3, k4, k5, k6, k7, k8⟩⟩ := h
  · cases e
  · injection e with e1 _ e2
    injection e1 with e1
    injection e1 with e1
    subst e1 e2 hn
    refine ⟨some ⟨g, 0, none⟩, cap, rfl, k5, k6, (by intro h; cases h), fun _ => ⟨g, 0, rfl, (Array.getElem?_eq_some_iff.1 k4).1, fun j x hj => ?_⟩⟩
    have hj' := (List.getElem?_eq_some_iff.1 hj).1
    obtain ⟨c1, c2⟩ := cellsS_get l j x hj
    rw [Nat.zero_add]
    exact ⟨(hc.cellAt (j * 2) (by omega)).trans c1, (hc.cellAt (j * 2 + 1) (by omega)).trans c2⟩
theorem ownsRow_same {X Y : World} {base : Nat} {e : TypeId} {size n g cap : Nat} {xs : List Value} (h : X.ownsRow base e size (.slice (some ⟨g, 0, none⟩) n cap) n xs) (hs : ∀ o, X.heap[g]? = some o → Y.heap[g]? = some o) : Y.ownsRow base e size (.slice (some ⟨g, 0, none⟩) n cap) n xs := by
  obtain ⟨k1, ⟨e, -⟩ | ⟨g', cap', cur, e, k3, k4, k⟩⟩ := h
  · cases e
  · have e' := e
    injection e with e1 _ e2
    injection e1 with e1
    injection e1 with e1
    subst e1
    exact ⟨k1, .inr ⟨g, cap', cur, e', k3, hs _ k4, k⟩⟩
theorem ownsRow_block {X : World} {base : Nat} {e : TypeId} {size n g cap : Nat} {xs : List Value} (h : X.ownsRow base e size (.slice (some ⟨g, 0, none⟩) n cap) n xs) : ∃ cur, X.heap[g]? = some (.cells cur e (0, 0)) := by
  obtain ⟨k1, ⟨e, -⟩ | ⟨g', cap', cur, e, k3, k4, k⟩⟩ := h
  · cases e
  · injection e with e1 _ e2
    injection e1 with e1
    injection e1 with e1
    subst e1
    exact ⟨cur, k4⟩
/-- The course so far, between two rounds: in its variable's box behind the block aB; its row is aB or lies at G or above. -/
def CrsI (w : World) (aB G : Nat) (x0 : Int × Bool) (pre : List (Nat × (Int × Bool))) (X : World) : Prop :=
  ∃ g cap, Boxed X (aB + 1) 31 (.slice (some ⟨g, 0, none⟩) (pre.length + 1) cap) ∧ X.ownsRow w.heap.size 25 2 (.slice (some ⟨g, 0, none⟩) (pre.length + 1) cap) (pre.length + 1) (cellsS (x0 :: pre.map (·.2))) ∧
    (g = aB ∨ G ≤ g) ∧ Below w.heap.size w X ∧ G ≤ X.heap.size
section
variable {w X Y : World} {aB bs G : Nat} {x0 : Int × Bool} {pre : List (Nat × (Int × Bool))}
theorem CrsI.own (h : CrsI w aB G x0 pre X) (hE : OwnSt bs X Y) (h1 : bs ≠ aB) (h2 : bs ≠ aB + 1) (h3 : bs < G) (h4 : w.heap.size ≤ bs) : CrsI w aB G x0 pre Y := by
  obtain ⟨g, cap, k1, k2, k3, k4, k5⟩ := h
  refine ⟨g, cap, hE.same _ _ k1 (.inr (Ne.symm h2)), ownsRow_same k2 fun o ho => hE.same _ _ ho (.inr (by omega)), k3, ?_, Nat.le_trans k5 hE.size⟩
  refine ⟨hE.os.trans k4.os, hE.tape.trans k4.tape, hE.output.trans k4.output, Nat.le_trans k4.size hE.size, fun k hk => ?_⟩
  have hlt : k < X.heap.size := Nat.lt_of_lt_of_le hk k4.size
  have h3 := Array.getElem?_eq_getElem hlt
  have := hE.same k _ h3 (.inr (by omega))
  rw [this, ← h3]
  exact k4.block k hk
theorem below_put {B l : Nat} {o' : Obj} (h : Below B w X) (hl : B ≤ l) : Below B w (X.putObj l o') :=
  ⟨h.os, h.tape, h.output, by simpa using h.size, fun k hk => (World.putObj_heap_other (by omega)).trans (h.block k hk)⟩
theorem put_cells {l : Nat} {o o' : Obj} {k : Nat} {cs : Array Value} {T : TypeId} {fr : Nat × Nat} (hk : X.heap[k]? = some (.cells cs T fr)) (hl : X.heap[l]? = some o) (ho : o.isCells = false) : (X.putObj l o').heap[k]? = some (.cells cs T fr) :=
  put_other hk (fun e => by subst e; rw [hl] at hk; cases hk; cases ho)
theorem CrsI.put {l : Nat} {o o' : Obj} (h : CrsI w aB G x0 pre X) (hw : w.heap.size ≤ l) (hl : X.heap[l]? = some o) (ho : o.isCells = false) : CrsI w aB G x0 pre (X.putObj l o') := by
  obtain ⟨g, cap, k1, k2, k3, k4, k5⟩ := h
  obtain ⟨cur, hcur⟩ := ownsRow_block k2
  exact ⟨g, cap, put_cells k1 hl ho, ownsRow_same k2 fun o2 ho2 => by rw [hcur] at ho2; cases ho2; exact put_cells hcur hl ho, k3, below_put k4 hw, by rw [World.putObj_size]; exact k5⟩
theorem CrsI.below {B : Nat} (h : CrsI w aB G x0 pre X) (hb : Below B X Y) (hB : X.heap.size ≤ B) : CrsI w aB G x0 pre Y := by
  obtain ⟨g, cap, k1, k2, k3, k4, k5⟩ := h
  obtain ⟨cur, hcur⟩ := ownsRow_block k2
  exact ⟨g, cap, (hb.block _ (Nat.lt_of_lt_of_le (block_lt k1) hB)).trans k1, ownsRow_same k2 fun o2 ho2 => (hb.block _ (Nat.lt_of_lt_of_le (block_lt ho2) hB)).trans ho2, k3, k4.trans (hb.mono (Nat.le_trans k4.size hB)), Nat.le_trans k5 hb.size⟩
end
theorem st_info : (Try.prog.info? 25).map (fun i => (i.zero, i.size, i.bytes)) = some (some (.agg #[.int .i64 0, .bool false]), 2, 16) := by kernel_rfl
theorem lsOk_all {l : List Int} (h : lsOk l = true) : l.length ≤ 1000 ∧ ∀ x ∈ l, 0 ≤ x ∧ x ≤ 100000000 := by
  simp only [lsOk, Bool.and_eq_true, decide_eq_true_eq, List.all_eq_true] at h
  exact ⟨h.1, fun x hx => wOk_iff.1 (h.2 x hx)⟩
theorem two_cell {W : World} {b : Nat} {x y : Value} {T : TypeId} (hb : W.heap[b]? = some (.cells #[x, y] T (0, 0))) (j : Nat) (u : Value) (hj : [x, y][j]? = some u) : W.cell? ((⟨b, 0, none⟩ : Addr).add j) = some u := by
  have e : (⟨b, 0, none⟩ : Addr).add j = ⟨b, j, none⟩ := by unfold Addr.add; split <;> simp_all
  rw [e]
  match j, hj with
  | 0, hj => simp at hj; subst hj; exact (two_cells hb).1
  | 1, hj => simp at hj; subst hj; exact (two_cells hb).2
set_option maxHeartbeats 8000000 in
theorem c_Course (f L S F q : Int) (t : Bool) (l : List Int) (v : Value) (w : World) (hv : IntSl w v l) (r : Int) (hr : fltS L S F q t l = r) (cs : List (Int × Bool)) (hcs : cs = if r = 0 then (q, t) :: crs L S F (q, t) l else []) :
    Calls Try.prog 13 #[bkV f L S F, stV (q, t), v] w fun e w' => ∃ y, e = .returned (.tuple #[y, .int .i64 r]) ∧ StSl w' y cs ∧ Below w.heap.size w w' := by
  obtain ⟨W, hW⟩ : ∃ W, W = (w.alloc (.cells #[.int .i64 f, .int .i64 L, .int .i64 S, .int .i64 F] 23)).alloc (.cells #[.int .i64 q, .bool t] 25) := ⟨_, rfl⟩
  have B0 : Below w.heap.size w W := by subst hW; exact below_a2 _ _ _
  have HB := Lib.hid B0
  have HK := Lib.hid (show Bk W w.heap.size f L S F by subst hW; exact old_heap _ (bk_new _ _ _ _ _))
  have HS := Lib.hid (show St W (w.heap.size + 1) q t by subst hW; exact row_new4 _ _ _ (by simp))
  have hz : w.heap.size + 1 < W.heap.size := block_lt HS.out
  have HV := Lib.hid hv
  obtain ⟨A, c, rfl, hc1, hc2⟩ := hv.shape
  have HC := Lib.hid (fun (r1 : Int) (h1 : fltS L S F q t l = r1) => c_fault f L S F q t l r1 h1 _ W (HV.out.on HB.out (Nat.le_refl _)))
  have HCS := Lib.hid hcs
  obtain ⟨x0, x1, x2, x3⟩ := HK.out.cells
  obtain ⟨y0, y1⟩ := HS.out.cells
  unfold bkV stV at HC
  unfold bkV stV
  clear B0 hv hcs
  by_cases h1 : r = 0
  · subst h1
    obtain ⟨g1, g2, g3⟩ := fltS_zero hr
    have g4 := bOk_iff.1 g1
    obtain ⟨g5, g6⟩ := lsOk_all g3
    have HR := Lib.hid hr
    have G6 := Lib.hid g6
    have HVS := Lib.hid (show Vs S (q, t) from (sOk_iff.1 (by rw [← tOk_sOk (by omega)]; exact g2)))
    clear hr g1 g2 g3 g6
    refine (callsIn_wide (n := 8)).1 ?_
    refine callsIn_of_wp_marks Try.func13 rfl trivial ?_ rfl
    simp only [Try.ntmps13, List.size_toArray, List.length_cons, List.length_nil, Nat.reduceAdd, Nat.reduceSub, Array.replicate_succ, Array.replicate_zero, List.push_toArray, List.append_toArray, List.nil_append, List.cons_append]
    rw [wpIn_wide]
    go_wp2_with (fail)
    rw [← hW]
    clear hW
    refine (HC.out _ HR.out).mono ?_
    rintro e w1 ⟨rfl, b1⟩
    have HB1 := Lib.hid (below_join HB.out b1 HB.out.size)
    have HK1 := Lib.hid (HK.out.on b1 (by omega))
    have HS1 := Lib.hid (HS.out.on b1 (by omega))
    have hz1 := Nat.lt_of_lt_of_le hz b1.size
    clear b1 x0 x1 x2 x3 y0 y1
    obtain ⟨V, hV⟩ : ∃ V, V = (w1.alloc (.cells #[.int .i64 q, .bool t] 25)).alloc (.cells #[.slice (some ⟨w1.heap.size, 0, none⟩) 1 1] 31) := ⟨_, rfl⟩
    have HBV := Lib.hid (show Below w.heap.size w V by subst hV; exact (HB1.out.alloc HB1.out.size _).alloc (by have := HB1.out.size; simp; omega) _)
    have HKV := Lib.hid (show Bk V w.heap.size f L S F by subst hV; exact old_heap _ (old_heap _ HK1.out))
    have HSV := Lib.hid (show St V (w.heap.size + 1) q t by subst hV; exact old_heap _ (old_heap _ HS1.out))
    have HCV := Lib.hid (show Boxed V (w1.heap.size + 1) 31 (.slice (some ⟨w1.heap.size, 0, none⟩) 1 1) by subst hV; exact row_new4 _ _ _ (by simp))
    have HOV := Lib.hid (show V.ownsRow w.heap.size 25 2 (.slice (some ⟨w1.heap.size, 0, none⟩) 1 1) 1 (cellsS [(q, t)]) by
      subst hV
      exact (World.ownsRow_lit w1 #[.int .i64 q, .bool t] 1 HB1.out.size (by unfold maxLen; omega) rfl).alloc _)
    have hzV : V.heap.size = w1.heap.size + 2 := by subst hV; simp
    obtain ⟨y0, y1⟩ := HS1.out.cells
    obtain ⟨x0, x1, x2, x3⟩ := HKV.out.cells
    obtain ⟨z0, z1⟩ := HSV.out.cells
    rw [hV] at x0 x1 x2 x3 z0 z1
    go_wp2_with (fail)
    rw [← hV]
    clear hV x0 x1 x2 x3 y0 y1 z0 z1
    refine (c_states f L S F q t A l.length c _).mono ?_
    rintro e w7 ⟨rfl, hw7⟩
    have HB7 := Lib.hid (show Below V.heap.size V w7 by subst hw7; exact below_a3 _ _ _ _)
    have HK7 := Lib.hid (show Bk w7 V.heap.size f L S F by subst hw7; exact old_heap _ (old_heap _ (bk_new _ _ _ _ _)))
    have HS7 := Lib.hid (show St w7 (V.heap.size + 1) q t by subst hw7; exact old_heap _ (row_new4 _ _ _ (by simp)))
    have HW7 := Lib.hid (show w7.cell? ⟨V.heap.size + 1 + 1, 0, none⟩ = some (.slice A l.length c) by subst hw7; exact one_cell (row_new4 _ _ _ (by simp)))
    have hz7 : w7.heap.size = V.heap.size + 3 := by subst hw7; simp
    clear hw7
    rw [hzV] at hz7
    go_wp2_with (fail)
    rw [hzV] at HK7 HS7 HW7
    obtain ⟨i0, hi0, hzz0, hzz1, hzz2⟩ := info_parts st_info
    refine (wpIn_wide (n := 8)).1 ?_
    refine wpIn_over (F := Fence.wide) (n := 8) rfl (by omega) (gf := 55) (lb := #[.pointer (some ⟨w1.heap.size + 2 + 1 + 1, 0, none⟩), .pointer (some ⟨w1.heap.size + 2, 0, none⟩), .pointer (some ⟨w1.heap.size + 2 + 1, 0, none⟩)]) rfl trivial (enters_of Try.func55 (by kernel_rfl) rfl)
      (E := OwnSt (w1.heap.size + 2 + 1)) (Kp := KpG (fun k => k ≠ w1.heap.size ∧ k ≠ w1.heap.size + 1 ∧ k < w1.heap.size + 5)) (ok := fun v u _ => v = #[.int .i64 ((u.1 : Nat) : Int), stV u.2]) (ts := crsI L S F 0 (q, t) l) (w0 := w7) ?seq (Below.refl _ _) (fun v u X h => by rw [h]; rfl)
      (fun X Y k o hE hk ho => hE.same k o hk (.inl ho)) KpG.trans KpG.put (fun v u X l o o' h _ _ => h)
      (fun pre X => CrsI w w1.heap.size (w1.heap.size + 5) (q, t) pre X) (fun _ _ _ => False)
      (fun pre X Y h hE => h.own hE (by omega) (by omega) (by omega) (by have := HB1.out.size; omega))
      (fun pre X l o o' h hl hx ho => h.put (by have := HB1.out.size; omega) hx ho) (fun _ _ _ _ _ _ h => h.elim)
      (fun X o h => h.below ((Below.refl X.heap.size X).alloc (Nat.le_refl _) o) (Nat.le_refl _)) ?init (fun A B h => OwnSt.of_below h (Nat.le_refl _)) (fun A B h => ⟨h.size, fun k cs t fr _ hk => (h.block k (block_lt hk)).trans hk⟩) (fun v u A B _ h => h) ?round ?done (fun _ _ _ _ _ _ h => h.elim)
    case seq =>
      intro lp J Jx X hBX hJ hY hj
      have hsz := HB1.out.size
      refine c_states1 7 (by omega) lp (w1.heap.size + 2) (w1.heap.size + 2 + 1) (w1.heap.size + 2 + 1 + 1) _ ⟨by omega, by omega, by omega⟩ ⟨by omega, by omega, by omega⟩ (by omega) f L S F q t ⟨g4.1, g4.2.1, g4.2.2.2.1⟩ A c l g5 G6.out HVS.out J Jx X (HK7.out.on hBX (by omega)) (HS7.out.on hBX (by omega)) ((hBX.cell (p := ⟨w1.heap.size + 2 + 1 + 1, 0, none⟩) (by show w1.heap.size + 2 + 1 + 1 < w7.heap.size; omega)).trans HW7.out) ?_ hJ hY hj
      intro j x hjx
      obtain ⟨b, o, c', e, hlt, -, -, hcell⟩ := HV.out.at_ hjx
      injection e with e1 _ e2
      have hbx : Below w.heap.size w X := below_join (below_join HBV.out HB7.out HBV.out.size) hBX (by have := HBV.out.size; omega)
      exact ⟨b, o, e1, ⟨by omega, by omega, by omega⟩, by omega, by have := hbx.size; omega, (hbx.cell (p := ⟨b, o + j, none⟩) hlt).trans hcell⟩
    case init =>
      refine ⟨w1.heap.size, 1, (HB7.out.block _ (by omega)).trans HCV.out, ownsRow_same HOV.out fun o ho => (HB7.out.block _ (block_lt ho)).trans ho, .inl rfl, below_join HBV.out HB7.out HBV.out.size, by omega⟩
    case round =>
      intro lp pre v u X K hpre hok hK
      subst hok
      unfold stV
      gi_wp2
      refine hK _ _ ((Below.refl _ _).alloc (Nat.le_refl _) _) ?_
      rintro Y hlp ⟨o, o', ho, hoc, hYe⟩ ⟨g, cap, k1, k2, k3, k4, k5⟩ -
      have HSY := Lib.hid (show St Y X.heap.size u.2.1 u.2.2 by rw [hYe]; exact put_cells (st_new _ _ _) ho hoc)
      have hXY : X.heap.size < Y.heap.size := block_lt HSY.out
      have HK1 := Lib.hid k1
      have HK2 := Lib.hid k2
      have HK4 := Lib.hid k4
      have hcell := k1.cell
      obtain ⟨y0, y1⟩ := HSY.out.cells
      have hbs := HB1.out.size
      have hlen : pre.length < l.length := by
        obtain ⟨rest, hrest⟩ := hpre
        have := congrArg List.length hrest
        have e : (crsI L S F 0 (q, t) l).length = l.length := by rw [← crs_len L S F l (q, t), ← crsI_snd L S F l 0 (q, t), List.length_map]
        rw [e] at this
        simp at this
        omega
      clear hYe ho hoc o o' hK k1 k2 k4
      gi_wp2_with (gi_at_builtin; refine wpListIn_append_lies _ rfl _ _ 31 rfl w.heap.size 25 i0 (.agg #[.int .i64 0, .bool false]) 2 16 Try.underlying31 hi0 hzz0 hzz1 hzz2 rfl (by decide) _ _ _ rfl (HK2.out.alloc _) ⟨Y.heap.size, 0, none⟩ 1 1 [.int .i64 u.2.1, .bool u.2.2] rfl rfl (two_cell (heap_alloc_new _ _)) (by simp [Value.oneCell']) (by decide) (by unfold maxLen; omega) (by omega) (by simp; omega) _ rfl ?_)
      intro g2 cap2 Z hown hgrow hat
      obtain ⟨hv1, hv2, hr2, hk2, hb2⟩ := HK1.out.appended (by decide) HK2.out HK4.out.size (by omega) hown hgrow
      have hc1 := hv1.cell
      have hf1 := hv1.frozen
      have HKK := Lib.hid hk2
      have HKP := Lib.hid (show KpG (fun k => k ≠ w1.heap.size ∧ k ≠ w1.heap.size + 1 ∧ k < w1.heap.size + 5) Y (Z.setCell ⟨w1.heap.size + 1, 0, none⟩ (.slice (some ⟨g2, 0, none⟩) (pre.length + 1 + 1) cap2)) from
        ⟨hb2.size, fun k cs' t' fr' hg hk => by
          have hkl := block_lt hk
          rw [Below.heap_setCell Z ⟨w1.heap.size + 1, 0, none⟩ _ k hg.2.1, hgrow.block k (by simp; omega) (by simp [Value.ownBlock]; omega), Below.heap_alloc _ _ _ hkl]
          exact hk⟩)
      have HFI := Lib.hid (show CrsI w w1.heap.size (w1.heap.size + 5) (q, t) (pre ++ [u]) (Z.setCell ⟨w1.heap.size + 1, 0, none⟩ (.slice (some ⟨g2, 0, none⟩) (pre.length + 1 + 1) cap2)) from by
        refine ⟨g2, cap2, by rw [List.length_append]; exact hv2, ?_, ?_, HK4.out.trans hb2, Nat.le_trans k5 hb2.size⟩
        · rw [List.length_append, List.map_append, List.map_cons, List.map_nil, ← List.cons_append, cellsS_snoc]
          exact hr2
        · rcases hat with h | h
          · have : g = g2 := by simpa [Value.ownBlock] using h
            omega
          · right; (try rw [World.size_alloc] at h); omega)
      clear hv1 hv2 hr2 hk2 hb2 hown hgrow hat
      gi_wp2_with (fail)
      exact ⟨HKK.out.from _, HKP.out, HFI.out⟩
    case done =>
      rintro D X hD hI hdef
      obtain ⟨g, cap, k1, k2, k3, k4, k5⟩ := hI
      have hcell := k1.cell
      have HDEF := Lib.hid hdef
      have HK2 := Lib.hid k2
      have HK4 := Lib.hid k4
      have hDx : D < X.heap.size := (Array.getElem?_eq_some_iff.1 hdef).1
      clear k1 k2 k4 hdef
      go_wp2_with (fail)
      have hl1 : ((q, t) :: (crsI L S F 0 (q, t) l).map (·.2)) = cs := by rw [HCS.out, crsI_snd]; rfl
      have hl2 : cs.length = (crsI L S F 0 (q, t) l).length + 1 := by rw [← hl1]; simp
      have hst := own_stSl (by have := ownsRow_putObj HK2.out (.deferred none) HDEF.out rfl; rw [hl1] at this; exact this) hl2
      refine ⟨by simp, .inl ⟨_, _, rfl, run_takeDeferred HDEF.out, ?_⟩⟩
      refine ⟨.tuple #[.slice (some ⟨g, 0, none⟩) ((crsI L S F 0 (q, t) l).length + 1) cap, .int .i64 0], by simp [results, Try.results13, go_sem], ?_⟩
      exact ⟨_, rfl, hst, below_put HK4.out (by have := HB1.out.size; omega)⟩
  · have hne : (r == 0) = false := by rw [beq_eq_false_iff_ne]; exact h1
    have HR := Lib.hid hr
    have hce : cs = [] := by rw [HCS.out, if_neg h1]
    have HE := Lib.hid hce
    clear hr h1 hce
    go_enter Try.func13, Try.ntmps13
    go_wp2_with (fail)
    rw [← hW]
    clear hW
    go_at_call 38
    refine (HC.out _ HR.out).mono ?_
    rintro e w1 ⟨rfl, b1⟩
    have HB1 := Lib.hid (below_join HB.out b1 HB.out.size)
    clear b1 x0 x1 x2 x3 y0 y1
    go_wp2_with (fail)
    exact retTT rfl rfl rfl rfl ⟨_, rfl, by rw [HE.out]; exact StSl.nil _, HB1.out⟩
end Go.Proofs.Ytomfaknemjbjcaa
