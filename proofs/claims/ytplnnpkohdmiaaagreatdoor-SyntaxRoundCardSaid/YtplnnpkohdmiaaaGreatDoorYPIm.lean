/-
  DERIVED. Several texts in one.
-/
import Derived.Test.YtplnnpkohdmiaaaGreatDoorYPNm
set_option linter.unusedVariables false
set_option linter.unusedSimpArgs false

/- DERIVED. The landed parser's clauses and items that have no loop. -/
namespace Go.Proofs.YtplnnpkohdmiaaaGreatDoor
open Go.RowKit
set_option maxRecDepth 100000

def Btw (lo hi b : Nat) : Prop := lo ≤ b ∧ b < hi
/-- A clause as a value: its lists lie from block lo on. -/
def ClV (lo : Nat) (c : Cl) (w : World) (v : Value) : Prop :=
  ∃ vn vi, v = .agg #[.int .u8 c.kind, vn, .int .u8 c.dom, .int .i64 c.idx, .int .i64 c.a, .int .i64 c.b, vi, .int .i64 c.off] ∧ StrSl w (Btw lo w.heap.size) vn c.names ∧ ClSl w (Btw lo w.heap.size) vi c.items

theorem eight_cells {W : World} {b : Nat} {x0 x1 x2 x3 x4 x5 x6 x7 : Value} {T : TypeId} (h : W.heap[b]? = some (.cells #[x0, x1, x2, x3, x4, x5, x6, x7] T (0, 0))) :
    W.cell? ⟨b, 0, none⟩ = some x0 ∧ W.cell? ⟨b, 1, none⟩ = some x1 ∧ W.cell? ⟨b, 2, none⟩ = some x2 ∧ W.cell? ⟨b, 3, none⟩ = some x3 ∧
    W.cell? ⟨b, 4, none⟩ = some x4 ∧ W.cell? ⟨b, 5, none⟩ = some x5 ∧ W.cell? ⟨b, 6, none⟩ = some x6 ∧ W.cell? ⟨b, 7, none⟩ = some x7 := by simp [World.cell?, h]
theorem eight_frozen {W : World} {b : Nat} {x0 x1 x2 x3 x4 x5 x6 x7 : Value} {T : TypeId} (h : W.heap[b]? = some (.cells #[x0, x1, x2, x3, x4, x5, x6, x7] T (0, 0))) :
    W.frozen? ⟨b, 0, none⟩ = false ∧ W.frozen? ⟨b, 1, none⟩ = false ∧ W.frozen? ⟨b, 2, none⟩ = false ∧ W.frozen? ⟨b, 3, none⟩ = false ∧
    W.frozen? ⟨b, 4, none⟩ = false ∧ W.frozen? ⟨b, 5, none⟩ = false ∧ W.frozen? ⟨b, 6, none⟩ = false ∧ W.frozen? ⟨b, 7, none⟩ = false := by simp [World.frozen?, h]
theorem ObjRow.keep {W w' : World} {n pb b : Nat} {o : Obj} (k : KB n pb W w') (h : W.heap[b]? = some o) (hb : b < n) (hp : b ≠ pb) : w'.heap[b]? = some o := (k.block b hb hp).trans h
theorem row_set8 {W : World} {b i : Nat} {xs : Array Value} {T : TypeId} (h : W.heap[b]? = some (.cells xs T (0, 0))) (v : Value) : (W.setCell ⟨b, i, none⟩ v).heap[b]? = some (.cells (xs.setIfInBounds i v) T (0, 0)) := by
  simp only [World.setCell, Array.getElem?_modify, if_pos trivial, h]
  simp
theorem row_other {W : World} {b B i : Nat} {o : Obj} (h : W.heap[b]? = some o) (hne : b ≠ B) (v : Value) : (W.setCell ⟨B, i, none⟩ v).heap[b]? = some o := (heap_setCell_ne W v hne).trans h
theorem row_alloc {W : World} {b : Nat} {o : Obj} (h : W.heap[b]? = some o) (o' : Obj) : (W.alloc o').heap[b]? = some o :=
  (((Below.refl W.heap.size W).alloc (Nat.le_refl _) o').block b (Array.getElem?_eq_some_iff.1 h).1).trans h
theorem row_new (W : World) (o : Obj) (b : Nat) (hb : b = W.heap.size) : (W.alloc o).heap[b]? = some o := by subst hb; exact World.alloc_heap_new W o
theorem StrSl.one {W : World} {lo b : Nat} {s : ByteArray} (h : W.heap[b]? = some (.cells #[.string s] 9 (0, 0))) (hb : lo ≤ b) : StrSl W (Btw lo W.heap.size) (.slice (some ⟨b, 0, none⟩) 1 1) [s] :=
  ⟨_, 1, rfl, Nat.le_refl _, by decide, fun _ => ⟨b, 0, rfl, ⟨hb, (Array.getElem?_eq_some_iff.1 h).1⟩, fun j u hj => by
    cases j with
    | zero => simp at hj; subst hj; simp [World.cell?, h]
    | succ j => simp at hj⟩⟩

theorem row8_0 {W : World} {b : Nat} {y0 y1 y2 y3 y4 y5 y6 y7 : Value} {T : TypeId} (h : W.heap[b]? = some (.cells #[y0, y1, y2, y3, y4, y5, y6, y7] T (0, 0))) (v : Value) : (W.setCell ⟨b, 0, none⟩ v).heap[b]? = some (.cells #[v, y1, y2, y3, y4, y5, y6, y7] T (0, 0)) := row_set8 h v
theorem row8_1 {W : World} {b : Nat} {y0 y1 y2 y3 y4 y5 y6 y7 : Value} {T : TypeId} (h : W.heap[b]? = some (.cells #[y0, y1, y2, y3, y4, y5, y6, y7] T (0, 0))) (v : Value) : (W.setCell ⟨b, 1, none⟩ v).heap[b]? = some (.cells #[y0, v, y2, y3, y4, y5, y6, y7] T (0, 0)) := row_set8 h v
theorem row8_2 {W : World} {b : Nat} {y0 y1 y2 y3 y4 y5 y6 y7 : Value} {T : TypeId} (h : W.heap[b]? = some (.cells #[y0, y1, y2, y3, y4, y5, y6, y7] T (0, 0))) (v : Value) : (W.setCell ⟨b, 2, none⟩ v).heap[b]? = some (.cells #[y0, y1, v, y3, y4, y5, y6, y7] T (0, 0)) := row_set8 h v
theorem row8_3 {W : World} {b : Nat} {y0 y1 y2 y3 y4 y5 y6 y7 : Value} {T : TypeId} (h : W.heap[b]? = some (.cells #[y0, y1, y2, y3, y4, y5, y6, y7] T (0, 0))) (v : Value) : (W.setCell ⟨b, 3, none⟩ v).heap[b]? = some (.cells #[y0, y1, y2, v, y4, y5, y6, y7] T (0, 0)) := row_set8 h v
theorem row8_4 {W : World} {b : Nat} {y0 y1 y2 y3 y4 y5 y6 y7 : Value} {T : TypeId} (h : W.heap[b]? = some (.cells #[y0, y1, y2, y3, y4, y5, y6, y7] T (0, 0))) (v : Value) : (W.setCell ⟨b, 4, none⟩ v).heap[b]? = some (.cells #[y0, y1, y2, y3, v, y5, y6, y7] T (0, 0)) := row_set8 h v
theorem row8_5 {W : World} {b : Nat} {y0 y1 y2 y3 y4 y5 y6 y7 : Value} {T : TypeId} (h : W.heap[b]? = some (.cells #[y0, y1, y2, y3, y4, y5, y6, y7] T (0, 0))) (v : Value) : (W.setCell ⟨b, 5, none⟩ v).heap[b]? = some (.cells #[y0, y1, y2, y3, y4, v, y6, y7] T (0, 0)) := row_set8 h v
theorem row8_6 {W : World} {b : Nat} {y0 y1 y2 y3 y4 y5 y6 y7 : Value} {T : TypeId} (h : W.heap[b]? = some (.cells #[y0, y1, y2, y3, y4, y5, y6, y7] T (0, 0))) (v : Value) : (W.setCell ⟨b, 6, none⟩ v).heap[b]? = some (.cells #[y0, y1, y2, y3, y4, y5, v, y7] T (0, 0)) := row_set8 h v
theorem row8_7 {W : World} {b : Nat} {y0 y1 y2 y3 y4 y5 y6 y7 : Value} {T : TypeId} (h : W.heap[b]? = some (.cells #[y0, y1, y2, y3, y4, y5, y6, y7] T (0, 0))) (v : Value) : (W.setCell ⟨b, 7, none⟩ v).heap[b]? = some (.cells #[y0, y1, y2, y3, y4, y5, y6, v] T (0, 0)) := row_set8 h v
theorem row_store8 {W : World} {b : Nat} {y0 y1 y2 y3 y4 y5 y6 y7 : Value} {T : TypeId} (h : W.heap[b]? = some (.cells #[y0, y1, y2, y3, y4, y5, y6, y7] T (0, 0))) (x0 x1 x2 x3 x4 x5 x6 x7 : Value) : ((((((((W.setCell ⟨b, 0, none⟩ x0).setCell ⟨b, 1, none⟩ x1).setCell ⟨b, 2, none⟩ x2).setCell ⟨b, 3, none⟩ x3).setCell ⟨b, 4, none⟩ x4).setCell ⟨b, 5, none⟩ x5).setCell ⟨b, 6, none⟩ x6).setCell ⟨b, 7, none⟩ x7).heap[b]? = some (.cells #[x0, x1, x2, x3, x4, x5, x6, x7] T (0, 0)) := (row8_7 (row8_6 (row8_5 (row8_4 (row8_3 (row8_2 (row8_1 (row8_0 h x0) x1) x2) x3) x4) x5) x6) x7)
theorem ret8 {fn : Func} {a : Act} {W : World} {R : Ending → World → Prop} {b i : Nat} {x0 x1 x2 x3 x4 x5 x6 x7 : Value} (hfn : fn.results = #[.cell i 36]) (hp : a.tmps[i]?.getD undef = .pointer (some ⟨b, 0, none⟩)) (hd : a.defers = [])
    (h : W.heap[b]? = some (.cells #[x0, x1, x2, x3, x4, x5, x6, x7] 36 (0, 0))) (hR : R (.returned (.agg #[x0, x1, x2, x3, x4, x5, x6, x7])) W) : bodyPost Tryz.prog fn R .ret a W := by
  obtain ⟨c0, c1, c2, c3, c4, c5, c6, c7⟩ := eight_cells h
  exact bodyPost_ret (v := .agg #[x0, x1, x2, x3, x4, x5, x6, x7]) (by simp [results, hfn, hp, go_sem, c0, c1, c2, c3, c4, c5, c6, c7]) hd hR
end Go.Proofs.YtplnnpkohdmiaaaGreatDoor

/- DERIVED. The landed parser's readers without loops: approve, limit. -/
namespace Go.Proofs.YtplnnpkohdmiaaaGreatDoor
open Go.RowKit
set_option maxRecDepth 100000

set_option maxHeartbeats 20000000 in
theorem cp_approve (pb : Nat) (l : List Tok) (en : Int) (w : World) (h : PSt w pb l en) :
    Calls Tryz.prog 66 #[.pointer (some ⟨pb, 0, none⟩)] w (RdPost pb en w (ClV w.heap.size) (pApprove l)) := by
  have hlt := h.lt
  have HP0 := Lib.hid h
  have HK0 := Lib.hid (KB.refl w.heap.size pb w)
  clear h
  unfold pApprove
  cases hq1 : pArea l with
  | error r1 =>
    go_enter Tryz.func66, Tryz.ntmps66
    go_wp2_with (fail)
    go_at_call 87
    refine (cp_area pb l en _ (by repeat (first | with_reducible exact HP0.out | with_reducible refine PSt.setNew ?_ (by omega) _ | with_reducible refine PSt.kept ?_ (World.grownBy_alloc _ _ none) (by simp)))).mono ?_
    rw [hq1]
    rintro e w1 h
    obtain ⟨k, P, rfl⟩ := h.error
    have hz1 := k.size
    try simp at hz1
    have kk : KB w.heap.size pb w w1 := by refine KB.trans ?_ (k.mono (by (try simp) <;> omega)); (repeat (first | with_reducible exact HK0.out | with_reducible refine KB.setNew ?_ (by omega) _ | with_reducible refine KB.alloc ?_ _ (by (try simp) <;> omega)))
    go_wp2_with (fail)
    exact ⟨rfl, kk, P, rfl⟩
  | ok y =>
    obtain ⟨⟨d1, n1⟩, r1⟩ := y
    simp only [bindR]
    cases hq2 : pLit ⟨#[59]⟩ r1 with
    | error r2 =>
      go_enter Tryz.func66, Tryz.ntmps66
      go_wp2_with (fail)
      go_at_call 87
      refine (cp_area pb l en _ (by repeat (first | with_reducible exact HP0.out | with_reducible refine PSt.setNew ?_ (by omega) _ | with_reducible refine PSt.kept ?_ (World.grownBy_alloc _ _ none) (by simp)))).mono ?_
      rw [hq1]
      rintro e w1 h
      obtain ⟨k, P, v, rfl, rfl⟩ := h.ok
      have hz1 := k.size
      try simp at hz1
      have kk : KB w.heap.size pb w w1 := by refine KB.trans ?_ (k.mono (by (try simp) <;> omega)); (repeat (first | with_reducible exact HK0.out | with_reducible refine KB.setNew ?_ (by omega) _ | with_reducible refine KB.alloc ?_ _ (by (try simp) <;> omega)))
      have hr : w1.heap[w.heap.size]? = some (.cells #[.int .u8 0, .slice none 0 0, .int .u8 0, .int .i64 0, .int .i64 0, .int .i64 0, .slice none 0 0, .int .i64 0] 36 (0, 0)) := ObjRow.keep k (by repeat (first | with_reducible exact HNONE.out | with_reducible refine row_other ?_ (by omega) _ | with_reducible apply row8_1 | with_reducible apply row8_2 | with_reducible apply row8_3 | with_reducible apply row8_4 | with_reducible apply row8_5 | with_reducible apply row8_6 | with_reducible apply row8_7 | with_reducible exact row_new _ _ _ (by simp) | with_reducible refine row_alloc ?_ _)) (by (try simp) <;> omega) (by omega)
      have Hhr := Lib.hid hr
      have hc : w1.heap[w.heap.size + 1]? = some (.cells #[.int .u8 3, .slice none 0 0, .int .u8 0, .int .i64 0, .int .i64 0, .int .i64 0, .slice none 0 0, .int .i64 0] 36 (0, 0)) := ObjRow.keep k (by repeat (first | with_reducible exact HNONE.out | with_reducible refine row_other ?_ (by omega) _ | with_reducible apply row8_1 | with_reducible apply row8_2 | with_reducible apply row8_3 | with_reducible apply row8_4 | with_reducible apply row8_5 | with_reducible apply row8_6 | with_reducible apply row8_7 | with_reducible exact row_new _ _ _ (by simp) | with_reducible refine row_alloc ?_ _)) (by (try simp) <;> omega) (by omega)
      have Hhc := Lib.hid hc
      obtain ⟨c0, c1, c2, c3, c4, c5, c6, c7⟩ := eight_cells hc
      obtain ⟨f0, f1, f2, f3, f4, f5, f6, f7⟩ := eight_frozen hc
      clear hc
      obtain ⟨z0, z1, z2, z3, z4, z5, z6, z7⟩ := eight_cells hr
      obtain ⟨g0, g1, g2, g3, g4, g5, g6, g7⟩ := eight_frozen hr
      clear hr
      have HK1 := Lib.hid kk
      have HP1 := Lib.hid P
      clear k P h kk
      go_wp2_with (fail)
      go_at_call 85
      refine (cp_lit pb ⟨#[59]⟩ (by simp [go_sem]) r1 en _ (by repeat (first | with_reducible exact HP1.out | with_reducible refine PSt.setNew ?_ (by omega) _ | with_reducible refine PSt.kept ?_ (World.grownBy_alloc _ _ none) (by simp)))).mono ?_
      rw [hq2]
      rintro e w2 h
      obtain ⟨k, P, rfl⟩ := h.error
      have hz2 := k.size
      try simp at hz2
      have kk : KB w.heap.size pb w w2 := by refine KB.trans ?_ (k.mono (by (try simp) <;> omega)); (repeat (first | with_reducible exact HK1.out | with_reducible refine KB.setNew ?_ (by omega) _ | with_reducible refine KB.alloc ?_ _ (by (try simp) <;> omega)))
      go_wp2_with (fail)
      exact ⟨rfl, kk, P, rfl⟩
    | ok y =>
      obtain ⟨_, r2⟩ := y
      simp only [bindR]
      go_enter Tryz.func66, Tryz.ntmps66
      go_wp2_with (fail)
      go_at_call 87
      refine (cp_area pb l en _ (by repeat (first | with_reducible exact HP0.out | with_reducible refine PSt.setNew ?_ (by omega) _ | with_reducible refine PSt.kept ?_ (World.grownBy_alloc _ _ none) (by simp)))).mono ?_
      rw [hq1]
      rintro e w1 h
      obtain ⟨k, P, v, rfl, rfl⟩ := h.ok
      have hz1 := k.size
      try simp at hz1
      have kk : KB w.heap.size pb w w1 := by refine KB.trans ?_ (k.mono (by (try simp) <;> omega)); (repeat (first | with_reducible exact HK0.out | with_reducible refine KB.setNew ?_ (by omega) _ | with_reducible refine KB.alloc ?_ _ (by (try simp) <;> omega)))
      have hr : w1.heap[w.heap.size]? = some (.cells #[.int .u8 0, .slice none 0 0, .int .u8 0, .int .i64 0, .int .i64 0, .int .i64 0, .slice none 0 0, .int .i64 0] 36 (0, 0)) := ObjRow.keep k (by repeat (first | with_reducible exact HNONE.out | with_reducible refine row_other ?_ (by omega) _ | with_reducible apply row8_1 | with_reducible apply row8_2 | with_reducible apply row8_3 | with_reducible apply row8_4 | with_reducible apply row8_5 | with_reducible apply row8_6 | with_reducible apply row8_7 | with_reducible exact row_new _ _ _ (by simp) | with_reducible refine row_alloc ?_ _)) (by (try simp) <;> omega) (by omega)
      have Hhr := Lib.hid hr
      have hc : w1.heap[w.heap.size + 1]? = some (.cells #[.int .u8 3, .slice none 0 0, .int .u8 0, .int .i64 0, .int .i64 0, .int .i64 0, .slice none 0 0, .int .i64 0] 36 (0, 0)) := ObjRow.keep k (by repeat (first | with_reducible exact HNONE.out | with_reducible refine row_other ?_ (by omega) _ | with_reducible apply row8_1 | with_reducible apply row8_2 | with_reducible apply row8_3 | with_reducible apply row8_4 | with_reducible apply row8_5 | with_reducible apply row8_6 | with_reducible apply row8_7 | with_reducible exact row_new _ _ _ (by simp) | with_reducible refine row_alloc ?_ _)) (by (try simp) <;> omega) (by omega)
      have Hhc := Lib.hid hc
      obtain ⟨c0, c1, c2, c3, c4, c5, c6, c7⟩ := eight_cells hc
      obtain ⟨f0, f1, f2, f3, f4, f5, f6, f7⟩ := eight_frozen hc
      clear hc
      obtain ⟨z0, z1, z2, z3, z4, z5, z6, z7⟩ := eight_cells hr
      obtain ⟨g0, g1, g2, g3, g4, g5, g6, g7⟩ := eight_frozen hr
      clear hr
      have HK1 := Lib.hid kk
      have HP1 := Lib.hid P
      clear k P h kk
      go_wp2_with (fail)
      go_at_call 85
      refine (cp_lit pb ⟨#[59]⟩ (by simp [go_sem]) r1 en _ (by repeat (first | with_reducible exact HP1.out | with_reducible refine PSt.setNew ?_ (by omega) _ | with_reducible refine PSt.kept ?_ (World.grownBy_alloc _ _ none) (by simp)))).mono ?_
      rw [hq2]
      rintro e w2 h
      obtain ⟨k, P, v, rfl, rfl⟩ := h.ok
      have hz2 := k.size
      try simp at hz2
      have kk : KB w.heap.size pb w w2 := by refine KB.trans ?_ (k.mono (by (try simp) <;> omega)); (repeat (first | with_reducible exact HK1.out | with_reducible refine KB.setNew ?_ (by omega) _ | with_reducible refine KB.alloc ?_ _ (by (try simp) <;> omega)))
      have hr : w2.heap[w.heap.size]? = some (.cells #[.int .u8 0, .slice none 0 0, .int .u8 0, .int .i64 0, .int .i64 0, .int .i64 0, .slice none 0 0, .int .i64 0] 36 (0, 0)) := ObjRow.keep k (by repeat (first | with_reducible exact Hhr.out | with_reducible refine row_other ?_ (by omega) _ | with_reducible apply row8_1 | with_reducible apply row8_2 | with_reducible apply row8_3 | with_reducible apply row8_4 | with_reducible apply row8_5 | with_reducible apply row8_6 | with_reducible apply row8_7 | with_reducible exact row_new _ _ _ (by simp) | with_reducible refine row_alloc ?_ _)) (by (try simp) <;> omega) (by omega)
      have Hhr := Lib.hid hr
      have hc : w2.heap[w.heap.size + 1]? = some (.cells #[.int .u8 3, .slice none 0 0, .int .u8 d1, .int .i64 n1, .int .i64 0, .int .i64 0, .slice none 0 0, .int .i64 0] 36 (0, 0)) := ObjRow.keep k (by repeat (first | with_reducible exact Hhc.out | with_reducible refine row_other ?_ (by omega) _ | with_reducible apply row8_1 | with_reducible apply row8_2 | with_reducible apply row8_3 | with_reducible apply row8_4 | with_reducible apply row8_5 | with_reducible apply row8_6 | with_reducible apply row8_7 | with_reducible exact row_new _ _ _ (by simp) | with_reducible refine row_alloc ?_ _)) (by (try simp) <;> omega) (by omega)
      have Hhc := Lib.hid hc
      obtain ⟨c0, c1, c2, c3, c4, c5, c6, c7⟩ := eight_cells hc
      obtain ⟨f0, f1, f2, f3, f4, f5, f6, f7⟩ := eight_frozen hc
      clear hc
      obtain ⟨z0, z1, z2, z3, z4, z5, z6, z7⟩ := eight_cells hr
      obtain ⟨g0, g1, g2, g3, g4, g5, g6, g7⟩ := eight_frozen hr
      clear hr
      have HK2 := Lib.hid kk
      have HP2 := Lib.hid P
      clear k P h kk
      go_wp2_with (fail)
      refine ret8 (i := 2) (b := w.heap.size) rfl rfl rfl (row_store8 (by repeat (first | with_reducible exact Hhr.out | with_reducible refine row_other ?_ (by omega) _ | with_reducible apply row8_1 | with_reducible apply row8_2 | with_reducible apply row8_3 | with_reducible apply row8_4 | with_reducible apply row8_5 | with_reducible apply row8_6 | with_reducible apply row8_7 | with_reducible exact row_new _ _ _ (by simp) | with_reducible refine row_alloc ?_ _)) (.int .u8 3) (.slice none 0 0) (.int .u8 d1) (.int .i64 n1) (.int .i64 0) (.int .i64 0) (.slice none 0 0) (.int .i64 0)) ⟨?_, ?_, _, rfl, _, _, rfl, ?_, ClSl.nil _ _⟩
      · (repeat (first | with_reducible exact HK2.out | with_reducible refine KB.setNew ?_ (by omega) _ | with_reducible refine KB.alloc ?_ _ (by (try simp) <;> omega)))
      · exact (by repeat (first | with_reducible exact HP2.out | with_reducible refine PSt.setNew ?_ (by omega) _ | with_reducible refine PSt.kept ?_ (World.grownBy_alloc _ _ none) (by simp)))
      · exact StrSl.nil _ _

set_option maxHeartbeats 20000000 in
theorem cp_limit (pb : Nat) (l : List Tok) (en : Int) (w : World) (h : PSt w pb l en) :
    Calls Tryz.prog 68 #[.pointer (some ⟨pb, 0, none⟩)] w (RdPost pb en w (ClV w.heap.size) (pCap l)) := by
  have hlt := h.lt
  have HP0 := Lib.hid h
  have HK0 := Lib.hid (KB.refl w.heap.size pb w)
  clear h
  unfold pCap
  cases hq1 : pLit ⟨#[102, 101, 101, 100]⟩ l with
  | error r1 =>
    go_enter Tryz.func68, Tryz.ntmps68
    go_wp2_with (fail)
    go_at_call 85
    refine (cp_lit pb ⟨#[102, 101, 101, 100]⟩ (by simp [go_sem]) l en _ (by repeat (first | with_reducible exact HP0.out | with_reducible refine PSt.setNew ?_ (by omega) _ | with_reducible refine PSt.kept ?_ (World.grownBy_alloc _ _ none) (by simp)))).mono ?_
    rw [hq1]
    rintro e w1 h
    obtain ⟨k, P, rfl⟩ := h.error
    have hz1 := k.size
    try simp at hz1
    have kk : KB w.heap.size pb w w1 := by refine KB.trans ?_ (k.mono (by (try simp) <;> omega)); (repeat (first | with_reducible exact HK0.out | with_reducible refine KB.setNew ?_ (by omega) _ | with_reducible refine KB.alloc ?_ _ (by (try simp) <;> omega)))
    go_wp2_with (fail)
    exact ⟨rfl, kk, P, rfl⟩
  | ok y =>
    obtain ⟨_, r1⟩ := y
    simp only [bindR]
    cases hq2 : pNum r1 with
    | error r2 =>
      go_enter Tryz.func68, Tryz.ntmps68
      go_wp2_with (fail)
      go_at_call 85
      refine (cp_lit pb ⟨#[102, 101, 101, 100]⟩ (by simp [go_sem]) l en _ (by repeat (first | with_reducible exact HP0.out | with_reducible refine PSt.setNew ?_ (by omega) _ | with_reducible refine PSt.kept ?_ (World.grownBy_alloc _ _ none) (by simp)))).mono ?_
      rw [hq1]
      rintro e w1 h
      obtain ⟨k, P, v, rfl, rfl⟩ := h.ok
      have hz1 := k.size
      try simp at hz1
      have kk : KB w.heap.size pb w w1 := by refine KB.trans ?_ (k.mono (by (try simp) <;> omega)); (repeat (first | with_reducible exact HK0.out | with_reducible refine KB.setNew ?_ (by omega) _ | with_reducible refine KB.alloc ?_ _ (by (try simp) <;> omega)))
      have hr : w1.heap[w.heap.size]? = some (.cells #[.int .u8 0, .slice none 0 0, .int .u8 0, .int .i64 0, .int .i64 0, .int .i64 0, .slice none 0 0, .int .i64 0] 36 (0, 0)) := ObjRow.keep k (by repeat (first | with_reducible exact HNONE.out | with_reducible refine row_other ?_ (by omega) _ | with_reducible apply row8_1 | with_reducible apply row8_2 | with_reducible apply row8_3 | with_reducible apply row8_4 | with_reducible apply row8_5 | with_reducible apply row8_6 | with_reducible apply row8_7 | with_reducible exact row_new _ _ _ (by simp) | with_reducible refine row_alloc ?_ _)) (by (try simp) <;> omega) (by omega)
      have Hhr := Lib.hid hr
      have hc : w1.heap[w.heap.size + 1]? = some (.cells #[.int .u8 5, .slice none 0 0, .int .u8 0, .int .i64 0, .int .i64 0, .int .i64 0, .slice none 0 0, .int .i64 0] 36 (0, 0)) := ObjRow.keep k (by repeat (first | with_reducible exact HNONE.out | with_reducible refine row_other ?_ (by omega) _ | with_reducible apply row8_1 | with_reducible apply row8_2 | with_reducible apply row8_3 | with_reducible apply row8_4 | with_reducible apply row8_5 | with_reducible apply row8_6 | with_reducible apply row8_7 | with_reducible exact row_new _ _ _ (by simp) | with_reducible refine row_alloc ?_ _)) (by (try simp) <;> omega) (by omega)
      have Hhc := Lib.hid hc
      obtain ⟨c0, c1, c2, c3, c4, c5, c6, c7⟩ := eight_cells hc
      obtain ⟨f0, f1, f2, f3, f4, f5, f6, f7⟩ := eight_frozen hc
      clear hc
      obtain ⟨z0, z1, z2, z3, z4, z5, z6, z7⟩ := eight_cells hr
      obtain ⟨g0, g1, g2, g3, g4, g5, g6, g7⟩ := eight_frozen hr
      clear hr
      have HK1 := Lib.hid kk
      have HP1 := Lib.hid P
      clear k P h kk
      go_wp2_with (fail)
      go_at_call 88
      refine (cp_num pb r1 en _ (by repeat (first | with_reducible exact HP1.out | with_reducible refine PSt.setNew ?_ (by omega) _ | with_reducible refine PSt.kept ?_ (World.grownBy_alloc _ _ none) (by simp)))).mono ?_
      rw [hq2]
      rintro e w2 h
      obtain ⟨k, P, rfl⟩ := h.error
      have hz2 := k.size
      try simp at hz2
      have kk : KB w.heap.size pb w w2 := by refine KB.trans ?_ (k.mono (by (try simp) <;> omega)); (repeat (first | with_reducible exact HK1.out | with_reducible refine KB.setNew ?_ (by omega) _ | with_reducible refine KB.alloc ?_ _ (by (try simp) <;> omega)))
      go_wp2_with (fail)
      exact ⟨rfl, kk, P, rfl⟩
    | ok y =>
      obtain ⟨n2, r2⟩ := y
      simp only [bindR]
      cases hq3 : pLit ⟨#[97, 116]⟩ r2 with
      | error r3 =>
        go_enter Tryz.func68, Tryz.ntmps68
        go_wp2_with (fail)
        go_at_call 85
        refine (cp_lit pb ⟨#[102, 101, 101, 100]⟩ (by simp [go_sem]) l en _ (by repeat (first | with_reducible exact HP0.out | with_reducible refine PSt.setNew ?_ (by omega) _ | with_reducible refine PSt.kept ?_ (World.grownBy_alloc _ _ none) (by simp)))).mono ?_
        rw [hq1]
        rintro e w1 h
        obtain ⟨k, P, v, rfl, rfl⟩ := h.ok
        have hz1 := k.size
        try simp at hz1
        have kk : KB w.heap.size pb w w1 := by refine KB.trans ?_ (k.mono (by (try simp) <;> omega)); (repeat (first | with_reducible exact HK0.out | with_reducible refine KB.setNew ?_ (by omega) _ | with_reducible refine KB.alloc ?_ _ (by (try simp) <;> omega)))
        have hr : w1.heap[w.heap.size]? = some (.cells #[.int .u8 0, .slice none 0 0, .int .u8 0, .int .i64 0, .int .i64 0, .int .i64 0, .slice none 0 0, .int .i64 0] 36 (0, 0)) := ObjRow.keep k (by repeat (first | with_reducible exact HNONE.out | with_reducible refine row_other ?_ (by omega) _ | with_reducible apply row8_1 | with_reducible apply row8_2 | with_reducible apply row8_3 | with_reducible apply row8_4 | with_reducible apply row8_5 | with_reducible apply row8_6 | with_reducible apply row8_7 | with_reducible exact row_new _ _ _ (by simp) | with_reducible refine row_alloc ?_ _)) (by (try simp) <;> omega) (by omega)
        have Hhr := Lib.hid hr
        have hc : w1.heap[w.heap.size + 1]? = some (.cells #[.int .u8 5, .slice none 0 0, .int .u8 0, .int .i64 0, .int .i64 0, .int .i64 0, .slice none 0 0, .int .i64 0] 36 (0, 0)) := ObjRow.keep k (by repeat (first | with_reducible exact HNONE.out | with_reducible refine row_other ?_ (by omega) _ | with_reducible apply row8_1 | with_reducible apply row8_2 | with_reducible apply row8_3 | with_reducible apply row8_4 | with_reducible apply row8_5 | with_reducible apply row8_6 | with_reducible apply row8_7 | with_reducible exact row_new _ _ _ (by simp) | with_reducible refine row_alloc ?_ _)) (by (try simp) <;> omega) (by omega)
        have Hhc := Lib.hid hc
        obtain ⟨c0, c1, c2, c3, c4, c5, c6, c7⟩ := eight_cells hc
        obtain ⟨f0, f1, f2, f3, f4, f5, f6, f7⟩ := eight_frozen hc
        clear hc
        obtain ⟨z0, z1, z2, z3, z4, z5, z6, z7⟩ := eight_cells hr
        obtain ⟨g0, g1, g2, g3, g4, g5, g6, g7⟩ := eight_frozen hr
        clear hr
        have HK1 := Lib.hid kk
        have HP1 := Lib.hid P
        clear k P h kk
        go_wp2_with (fail)
        go_at_call 88
        refine (cp_num pb r1 en _ (by repeat (first | with_reducible exact HP1.out | with_reducible refine PSt.setNew ?_ (by omega) _ | with_reducible refine PSt.kept ?_ (World.grownBy_alloc _ _ none) (by simp)))).mono ?_
        rw [hq2]
        rintro e w2 h
        obtain ⟨k, P, v, rfl, rfl⟩ := h.ok
        have hz2 := k.size
        try simp at hz2
        have kk : KB w.heap.size pb w w2 := by refine KB.trans ?_ (k.mono (by (try simp) <;> omega)); (repeat (first | with_reducible exact HK1.out | with_reducible refine KB.setNew ?_ (by omega) _ | with_reducible refine KB.alloc ?_ _ (by (try simp) <;> omega)))
        have hr : w2.heap[w.heap.size]? = some (.cells #[.int .u8 0, .slice none 0 0, .int .u8 0, .int .i64 0, .int .i64 0, .int .i64 0, .slice none 0 0, .int .i64 0] 36 (0, 0)) := ObjRow.keep k (by repeat (first | with_reducible exact Hhr.out | with_reducible refine row_other ?_ (by omega) _ | with_reducible apply row8_1 | with_reducible apply row8_2 | with_reducible apply row8_3 | with_reducible apply row8_4 | with_reducible apply row8_5 | with_reducible apply row8_6 | with_reducible apply row8_7 | with_reducible exact row_new _ _ _ (by simp) | with_reducible refine row_alloc ?_ _)) (by (try simp) <;> omega) (by omega)
        have Hhr := Lib.hid hr
        have hc : w2.heap[w.heap.size + 1]? = some (.cells #[.int .u8 5, .slice none 0 0, .int .u8 0, .int .i64 0, .int .i64 0, .int .i64 0, .slice none 0 0, .int .i64 0] 36 (0, 0)) := ObjRow.keep k (by repeat (first | with_reducible exact Hhc.out | with_reducible refine row_other ?_ (by omega) _ | with_reducible apply row8_1 | with_reducible apply row8_2 | with_reducible apply row8_3 | with_reducible apply row8_4 | with_reducible apply row8_5 | with_reducible apply row8_6 | with_reducible apply row8_7 | with_reducible exact row_new _ _ _ (by simp) | with_reducible refine row_alloc ?_ _)) (by (try simp) <;> omega) (by omega)
        have Hhc := Lib.hid hc
        obtain ⟨c0, c1, c2, c3, c4, c5, c6, c7⟩ := eight_cells hc
        obtain ⟨f0, f1, f2, f3, f4, f5, f6, f7⟩ := eight_frozen hc
        clear hc
        obtain ⟨z0, z1, z2, z3, z4, z5, z6, z7⟩ := eight_cells hr
        obtain ⟨g0, g1, g2, g3, g4, g5, g6, g7⟩ := eight_frozen hr
        clear hr
        have HK2 := Lib.hid kk
        have HP2 := Lib.hid P
        clear k P h kk
        go_wp2_with (fail)
        go_at_call 85
        refine (cp_lit pb ⟨#[97, 116]⟩ (by simp [go_sem]) r2 en _ (by repeat (first | with_reducible exact HP2.out | with_reducible refine PSt.setNew ?_ (by omega) _ | with_reducible refine PSt.kept ?_ (World.grownBy_alloc _ _ none) (by simp)))).mono ?_
        rw [hq3]
        rintro e w3 h
        obtain ⟨k, P, rfl⟩ := h.error
        have hz3 := k.size
        try simp at hz3
        have kk : KB w.heap.size pb w w3 := by refine KB.trans ?_ (k.mono (by (try simp) <;> omega)); (repeat (first | with_reducible exact HK2.out | with_reducible refine KB.setNew ?_ (by omega) _ | with_reducible refine KB.alloc ?_ _ (by (try simp) <;> omega)))
        go_wp2_with (fail)
        exact ⟨rfl, kk, P, rfl⟩
      | ok y =>
        obtain ⟨_, r3⟩ := y
        simp only [bindR]
        cases hq4 : pNum r3 with
        | error r4 =>
          go_enter Tryz.func68, Tryz.ntmps68
          go_wp2_with (fail)
          go_at_call 85
          refine (cp_lit pb ⟨#[102, 101, 101, 100]⟩ (by simp [go_sem]) l en _ (by repeat (first | with_reducible exact HP0.out | with_reducible refine PSt.setNew ?_ (by omega) _ | with_reducible refine PSt.kept ?_ (World.grownBy_alloc _ _ none) (by simp)))).mono ?_
          rw [hq1]
          rintro e w1 h
          obtain ⟨k, P, v, rfl, rfl⟩ := h.ok
          have hz1 := k.size
          try simp at hz1
          have kk : KB w.heap.size pb w w1 := by refine KB.trans ?_ (k.mono (by (try simp) <;> omega)); (repeat (first | with_reducible exact HK0.out | with_reducible refine KB.setNew ?_ (by omega) _ | with_reducible refine KB.alloc ?_ _ (by (try simp) <;> omega)))
          have hr : w1.heap[w.heap.size]? = some (.cells #[.int .u8 0, .slice none 0 0, .int .u8 0, .int .i64 0, .int .i64 0, .int .i64 0, .slice none 0 0, .int .i64 0] 36 (0, 0)) := ObjRow.keep k (by repeat (first | with_reducible exact HNONE.out | with_reducible refine row_other ?_ (by omega) _ | with_reducible apply row8_1 | with_reducible apply row8_2 | with_reducible apply row8_3 | with_reducible apply row8_4 | with_reducible apply row8_5 | with_reducible apply row8_6 | with_reducible apply row8_7 | with_reducible exact row_new _ _ _ (by simp) | with_reducible refine row_alloc ?_ _)) (by (try simp) <;> omega) (by omega)
          have Hhr := Lib.hid hr
          have hc : w1.heap[w.heap.size + 1]? = some (.cells #[.int .u8 5, .slice none 0 0, .int .u8 0, .int .i64 0, .int .i64 0, .int .i64 0, .slice none 0 0, .int .i64 0] 36 (0, 0)) := ObjRow.keep k (by repeat (first | with_reducible exact HNONE.out | with_reducible refine row_other ?_ (by omega) _ | with_reducible apply row8_1 | with_reducible apply row8_2 | with_reducible apply row8_3 | with_reducible apply row8_4 | with_reducible apply row8_5 | with_reducible apply row8_6 | with_reducible apply row8_7 | with_reducible exact row_new _ _ _ (by simp) | with_reducible refine row_alloc ?_ _)) (by (try simp) <;> omega) (by omega)
          have Hhc := Lib.hid hc
          obtain ⟨c0, c1, c2, c3, c4, c5, c6, c7⟩ := eight_cells hc
          obtain ⟨f0, f1, f2, f3, f4, f5, f6, f7⟩ := eight_frozen hc
          clear hc
          obtain ⟨z0, z1, z2, z3, z4, z5, z6, z7⟩ := eight_cells hr
          obtain ⟨g0, g1, g2, g3, g4, g5, g6, g7⟩ := eight_frozen hr
          clear hr
          have HK1 := Lib.hid kk
          have HP1 := Lib.hid P
          clear k P h kk
          go_wp2_with (fail)
          go_at_call 88
          refine (cp_num pb r1 en _ (by repeat (first | with_reducible exact HP1.out | with_reducible refine PSt.setNew ?_ (by omega) _ | with_reducible refine PSt.kept ?_ (World.grownBy_alloc _ _ none) (by simp)))).mono ?_
          rw [hq2]
          rintro e w2 h
          obtain ⟨k, P, v, rfl, rfl⟩ := h.ok
          have hz2 := k.size
          try simp at hz2
          have kk : KB w.heap.size pb w w2 := by refine KB.trans ?_ (k.mono (by (try simp) <;> omega)); (repeat (first | with_reducible exact HK1.out | with_reducible refine KB.setNew ?_ (by omega) _ | with_reducible refine KB.alloc ?_ _ (by (try simp) <;> omega)))
          have hr : w2.heap[w.heap.size]? = some (.cells #[.int .u8 0, .slice none 0 0, .int .u8 0, .int .i64 0, .int .i64 0, .int .i64 0, .slice none 0 0, .int .i64 0] 36 (0, 0)) := ObjRow.keep k (by repeat (first | with_reducible exact Hhr.out | with_reducible refine row_other ?_ (by omega) _ | with_reducible apply row8_1 | with_reducible apply row8_2 | with_reducible apply row8_3 | with_reducible apply row8_4 | with_reducible apply row8_5 | with_reducible apply row8_6 | with_reducible apply row8_7 | with_reducible exact row_new _ _ _ (by simp) | with_reducible refine row_alloc ?_ _)) (by (try simp) <;> omega) (by omega)
          have Hhr := Lib.hid hr
          have hc : w2.heap[w.heap.size + 1]? = some (.cells #[.int .u8 5, .slice none 0 0, .int .u8 0, .int .i64 0, .int .i64 0, .int .i64 0, .slice none 0 0, .int .i64 0] 36 (0, 0)) := ObjRow.keep k (by repeat (first | with_reducible exact Hhc.out | with_reducible refine row_other ?_ (by omega) _ | with_reducible apply row8_1 | with_reducible apply row8_2 | with_reducible apply row8_3 | with_reducible apply row8_4 | with_reducible apply row8_5 | with_reducible apply row8_6 | with_reducible apply row8_7 | with_reducible exact row_new _ _ _ (by simp) | with_reducible refine row_alloc ?_ _)) (by (try simp) <;> omega) (by omega)
          have Hhc := Lib.hid hc
          obtain ⟨c0, c1, c2, c3, c4, c5, c6, c7⟩ := eight_cells hc
          obtain ⟨f0, f1, f2, f3, f4, f5, f6, f7⟩ := eight_frozen hc
          clear hc
          obtain ⟨z0, z1, z2, z3, z4, z5, z6, z7⟩ := eight_cells hr
          obtain ⟨g0, g1, g2, g3, g4, g5, g6, g7⟩ := eight_frozen hr
          clear hr
          have HK2 := Lib.hid kk
          have HP2 := Lib.hid P
          clear k P h kk
          go_wp2_with (fail)
          go_at_call 85
          refine (cp_lit pb ⟨#[97, 116]⟩ (by simp [go_sem]) r2 en _ (by repeat (first | with_reducible exact HP2.out | with_reducible refine PSt.setNew ?_ (by omega) _ | with_reducible refine PSt.kept ?_ (World.grownBy_alloc _ _ none) (by simp)))).mono ?_
          rw [hq3]
          rintro e w3 h
          obtain ⟨k, P, v, rfl, rfl⟩ := h.ok
          have hz3 := k.size
          try simp at hz3
          have kk : KB w.heap.size pb w w3 := by refine KB.trans ?_ (k.mono (by (try simp) <;> omega)); (repeat (first | with_reducible exact HK2.out | with_reducible refine KB.setNew ?_ (by omega) _ | with_reducible refine KB.alloc ?_ _ (by (try simp) <;> omega)))
          have hr : w3.heap[w.heap.size]? = some (.cells #[.int .u8 0, .slice none 0 0, .int .u8 0, .int .i64 0, .int .i64 0, .int .i64 0, .slice none 0 0, .int .i64 0] 36 (0, 0)) := ObjRow.keep k (by repeat (first | with_reducible exact Hhr.out | with_reducible refine row_other ?_ (by omega) _ | with_reducible apply row8_1 | with_reducible apply row8_2 | with_reducible apply row8_3 | with_reducible apply row8_4 | with_reducible apply row8_5 | with_reducible apply row8_6 | with_reducible apply row8_7 | with_reducible exact row_new _ _ _ (by simp) | with_reducible refine row_alloc ?_ _)) (by (try simp) <;> omega) (by omega)
          have Hhr := Lib.hid hr
          have hc : w3.heap[w.heap.size + 1]? = some (.cells #[.int .u8 5, .slice none 0 0, .int .u8 0, .int .i64 n2, .int .i64 0, .int .i64 0, .slice none 0 0, .int .i64 0] 36 (0, 0)) := ObjRow.keep k (by repeat (first | with_reducible exact Hhc.out | with_reducible refine row_other ?_ (by omega) _ | with_reducible apply row8_1 | with_reducible apply row8_2 | with_reducible apply row8_3 | with_reducible apply row8_4 | with_reducible apply row8_5 | with_reducible apply row8_6 | with_reducible apply row8_7 | with_reducible exact row_new _ _ _ (by simp) | with_reducible refine row_alloc ?_ _)) (by (try simp) <;> omega) (by omega)
          have Hhc := Lib.hid hc
          obtain ⟨c0, c1, c2, c3, c4, c5, c6, c7⟩ := eight_cells hc
          obtain ⟨f0, f1, f2, f3, f4, f5, f6, f7⟩ := eight_frozen hc
          clear hc
          obtain ⟨z0, z1, z2, z3, z4, z5, z6, z7⟩ := eight_cells hr
          obtain ⟨g0, g1, g2, g3, g4, g5, g6, g7⟩ := eight_frozen hr
          clear hr
          have HK3 := Lib.hid kk
          have HP3 := Lib.hid P
          clear k P h kk
          go_wp2_with (fail)
          go_at_call 88
          refine (cp_num pb r3 en _ (by repeat (first | with_reducible exact HP3.out | with_reducible refine PSt.setNew ?_ (by omega) _ | with_reducible refine PSt.kept ?_ (World.grownBy_alloc _ _ none) (by simp)))).mono ?_
          rw [hq4]
          rintro e w4 h
          obtain ⟨k, P, rfl⟩ := h.error
          have hz4 := k.size
          try simp at hz4
          have kk : KB w.heap.size pb w w4 := by refine KB.trans ?_ (k.mono (by (try simp) <;> omega)); (repeat (first | with_reducible exact HK3.out | with_reducible refine KB.setNew ?_ (by omega) _ | with_reducible refine KB.alloc ?_ _ (by (try simp) <;> omega)))
          go_wp2_with (fail)
          exact ⟨rfl, kk, P, rfl⟩
        | ok y =>
          obtain ⟨n4, r4⟩ := y
          simp only [bindR]
          cases hq5 : pLit ⟨#[59]⟩ r4 with
          | error r5 =>
            go_enter Tryz.func68, Tryz.ntmps68
            go_wp2_with (fail)
            go_at_call 85
            refine (cp_lit pb ⟨#[102, 101, 101, 100]⟩ (by simp [go_sem]) l en _ (by repeat (first | with_reducible exact HP0.out | with_reducible refine PSt.setNew ?_ (by omega) _ | with_reducible refine PSt.kept ?_ (World.grownBy_alloc _ _ none) (by simp)))).mono ?_
            rw [hq1]
            rintro e w1 h
            obtain ⟨k, P, v, rfl, rfl⟩ := h.ok
            have hz1 := k.size
            try simp at hz1
            have kk : KB w.heap.size pb w w1 := by refine KB.trans ?_ (k.mono (by (try simp) <;> omega)); (repeat (first | with_reducible exact HK0.out | with_reducible refine KB.setNew ?_ (by omega) _ | with_reducible refine KB.alloc ?_ _ (by (try simp) <;> omega)))
            have hr : w1.heap[w.heap.size]? = some (.cells #[.int .u8 0, .slice none 0 0, .int .u8 0, .int .i64 0, .int .i64 0, .int .i64 0, .slice none 0 0, .int .i64 0] 36 (0, 0)) := ObjRow.keep k (by repeat (first | with_reducible exact HNONE.out | with_reducible refine row_other ?_ (by omega) _ | with_reducible apply row8_1 | with_reducible apply row8_2 | with_reducible apply row8_3 | with_reducible apply row8_4 | with_reducible apply row8_5 | with_reducible apply row8_6 | with_reducible apply row8_7 | with_reducible exact row_new _ _ _ (by simp) | with_reducible refine row_alloc ?_ _)) (by (try simp) <;> omega) (by omega)
            have Hhr := Lib.hid hr
            have hc : w1.heap[w.heap.size + 1]? = some (.cells #[.int .u8 5, .slice none 0 0, .int .u8 0, .int .i64 0, .int .i64 0, .int .i64 0, .slice none 0 0, .int .i64 0] 36 (0, 0)) := ObjRow.keep k (by repeat (first | with_reducible exact HNONE.out | with_reducible refine row_other ?_ (by omega) _ | with_reducible apply row8_1 | with_reducible apply row8_2 | with_reducible apply row8_3 | with_reducible apply row8_4 | with_reducible apply row8_5 | with_reducible apply row8_6 | with_reducible apply row8_7 | with_reducible exact row_new _ _ _ (by simp) | with_reducible refine row_alloc ?_ _)) (by (try simp) <;> omega) (by omega)
            have Hhc := Lib.hid hc
            obtain ⟨c0, c1, c2, c3, c4, c5, c6, c7⟩ := eight_cells hc
            obtain ⟨f0, f1, f2, f3, f4, f5, f6, f7⟩ := eight_frozen hc
            clear hc
            obtain ⟨z0, z1, z2, z3, z4, z5, z6, z7⟩ := eight_cells hr
            obtain ⟨g0, g1, g2, g3, g4, g5, g6, g7⟩ := eight_frozen hr
            clear hr
            have HK1 := Lib.hid kk
            have HP1 := Lib.hid P
            clear k P h kk
            go_wp2_with (fail)
            go_at_call 88
            refine (cp_num pb r1 en _ (by repeat (first | with_reducible exact HP1.out | with_reducible refine PSt.setNew ?_ (by omega) _ | with_reducible refine PSt.kept ?_ (World.grownBy_alloc _ _ none) (by simp)))).mono ?_
            rw [hq2]
            rintro e w2 h
            obtain ⟨k, P, v, rfl, rfl⟩ := h.ok
            have hz2 := k.size
            try simp at hz2
            have kk : KB w.heap.size pb w w2 := by refine KB.trans ?_ (k.mono (by (try simp) <;> omega)); (repeat (first | with_reducible exact HK1.out | with_reducible refine KB.setNew ?_ (by omega) _ | with_reducible refine KB.alloc ?_ _ (by (try simp) <;> omega)))
            have hr : w2.heap[w.heap.size]? = some (.cells #[.int .u8 0, .slice none 0 0, .int .u8 0, .int .i64 0, .int .i64 0, .int .i64 0, .slice none 0 0, .int .i64 0] 36 (0, 0)) := ObjRow.keep k (by repeat (first | with_reducible exact Hhr.out | with_reducible refine row_other ?_ (by omega) _ | with_reducible apply row8_1 | with_reducible apply row8_2 | with_reducible apply row8_3 | with_reducible apply row8_4 | with_reducible apply row8_5 | with_reducible apply row8_6 | with_reducible apply row8_7 | with_reducible exact row_new _ _ _ (by simp) | with_reducible refine row_alloc ?_ _)) (by (try simp) <;> omega) (by omega)
            have Hhr := Lib.hid hr
            have hc : w2.heap[w.heap.size + 1]? = some (.cells #[.int .u8 5, .slice none 0 0, .int .u8 0, .int .i64 0, .int .i64 0, .int .i64 0, .slice none 0 0, .int .i64 0] 36 (0, 0)) := ObjRow.keep k (by repeat (first | with_reducible exact Hhc.out | with_reducible refine row_other ?_ (by omega) _ | with_reducible apply row8_1 | with_reducible apply row8_2 | with_reducible apply row8_3 | with_reducible apply row8_4 | with_reducible apply row8_5 | with_reducible apply row8_6 | with_reducible apply row8_7 | with_reducible exact row_new _ _ _ (by simp) | with_reducible refine row_alloc ?_ _)) (by (try simp) <;> omega) (by omega)
            have Hhc := Lib.hid hc
            obtain ⟨c0, c1, c2, c3, c4, c5, c6, c7⟩ := eight_cells hc
            obtain ⟨f0, f1, f2, f3, f4, f5, f6, f7⟩ := eight_frozen hc
            clear hc
            obtain ⟨z0, z1, z2, z3, z4, z5, z6, z7⟩ := eight_cells hr
            obtain ⟨g0, g1, g2, g3, g4, g5, g6, g7⟩ := eight_frozen hr
            clear hr
            have HK2 := Lib.hid kk
            have HP2 := Lib.hid P
            clear k P h kk
            go_wp2_with (fail)
            go_at_call 85
            refine (cp_lit pb ⟨#[97, 116]⟩ (by simp [go_sem]) r2 en _ (by repeat (first | with_reducible exact HP2.out | with_reducible refine PSt.setNew ?_ (by omega) _ | with_reducible refine PSt.kept ?_ (World.grownBy_alloc _ _ none) (by simp)))).mono ?_
            rw [hq3]
            rintro e w3 h
            obtain ⟨k, P, v, rfl, rfl⟩ := h.ok
            have hz3 := k.size
            try simp at hz3
            have kk : KB w.heap.size pb w w3 := by refine KB.trans ?_ (k.mono (by (try simp) <;> omega)); (repeat (first | with_reducible exact HK2.out | with_reducible refine KB.setNew ?_ (by omega) _ | with_reducible refine KB.alloc ?_ _ (by (try simp) <;> omega)))
            have hr : w3.heap[w.heap.size]? = some (.cells #[.int .u8 0, .slice none 0 0, .int .u8 0, .int .i64 0, .int .i64 0, .int .i64 0, .slice none 0 0, .int .i64 0] 36 (0, 0)) := ObjRow.keep k (by repeat (first | with_reducible exact Hhr.out | with_reducible refine row_other ?_ (by omega) _ | with_reducible apply row8_1 | with_reducible apply row8_2 | with_reducible apply row8_3 | with_reducible apply row8_4 | with_reducible apply row8_5 | with_reducible apply row8_6 | with_reducible apply row8_7 | with_reducible exact row_new _ _ _ (by simp) | with_reducible refine row_alloc ?_ _)) (by (try simp) <;> omega) (by omega)
            have Hhr := Lib.hid hr
            have hc : w3.heap[w.heap.size + 1]? = some (.cells #[.int .u8 5, .slice none 0 0, .int .u8 0, .int .i64 n2, .int .i64 0, .int .i64 0, .slice none 0 0, .int .i64 0] 36 (0, 0)) := ObjRow.keep k (by repeat (first | with_reducible exact Hhc.out | with_reducible refine row_other ?_ (by omega) _ | with_reducible apply row8_1 | with_reducible apply row8_2 | with_reducible apply row8_3 | with_reducible apply row8_4 | with_reducible apply row8_5 | with_reducible apply row8_6 | with_reducible apply row8_7 | with_reducible exact row_new _ _ _ (by simp) | with_reducible refine row_alloc ?_ _)) (by (try simp) <;> omega) (by omega)
            have Hhc := Lib.hid hc
            obtain ⟨c0, c1, c2, c3, c4, c5, c6, c7⟩ := eight_cells hc
            obtain ⟨f0, f1, f2, f3, f4, f5, f6, f7⟩ := eight_frozen hc
            clear hc
            obtain ⟨z0, z1, z2, z3, z4, z5, z6, z7⟩ := eight_cells hr
            obtain ⟨g0, g1, g2, g3, g4, g5, g6, g7⟩ := eight_frozen hr
            clear hr
            have HK3 := Lib.hid kk
            have HP3 := Lib.hid P
            clear k P h kk
            go_wp2_with (fail)
            go_at_call 88
            refine (cp_num pb r3 en _ (by repeat (first | with_reducible exact HP3.out | with_reducible refine PSt.setNew ?_ (by omega) _ | with_reducible refine PSt.kept ?_ (World.grownBy_alloc _ _ none) (by simp)))).mono ?_
            rw [hq4]
            rintro e w4 h
            obtain ⟨k, P, v, rfl, rfl⟩ := h.ok
            have hz4 := k.size
            try simp at hz4
            have kk : KB w.heap.size pb w w4 := by refine KB.trans ?_ (k.mono (by (try simp) <;> omega)); (repeat (first | with_reducible exact HK3.out | with_reducible refine KB.setNew ?_ (by omega) _ | with_reducible refine KB.alloc ?_ _ (by (try simp) <;> omega)))
            have hr : w4.heap[w.heap.size]? = some (.cells #[.int .u8 0, .slice none 0 0, .int .u8 0, .int .i64 0, .int .i64 0, .int .i64 0, .slice none 0 0, .int .i64 0] 36 (0, 0)) := ObjRow.keep k (by repeat (first | with_reducible exact Hhr.out | with_reducible refine row_other ?_ (by omega) _ | with_reducible apply row8_1 | with_reducible apply row8_2 | with_reducible apply row8_3 | with_reducible apply row8_4 | with_reducible apply row8_5 | with_reducible apply row8_6 | with_reducible apply row8_7 | with_reducible exact row_new _ _ _ (by simp) | with_reducible refine row_alloc ?_ _)) (by (try simp) <;> omega) (by omega)
            have Hhr := Lib.hid hr
            have hc : w4.heap[w.heap.size + 1]? = some (.cells #[.int .u8 5, .slice none 0 0, .int .u8 0, .int .i64 n2, .int .i64 0, .int .i64 0, .slice none 0 0, .int .i64 0] 36 (0, 0)) := ObjRow.keep k (by repeat (first | with_reducible exact Hhc.out | with_reducible refine row_other ?_ (by omega) _ | with_reducible apply row8_1 | with_reducible apply row8_2 | with_reducible apply row8_3 | with_reducible apply row8_4 | with_reducible apply row8_5 | with_reducible apply row8_6 | with_reducible apply row8_7 | with_reducible exact row_new _ _ _ (by simp) | with_reducible refine row_alloc ?_ _)) (by (try simp) <;> omega) (by omega)
            have Hhc := Lib.hid hc
            obtain ⟨c0, c1, c2, c3, c4, c5, c6, c7⟩ := eight_cells hc
            obtain ⟨f0, f1, f2, f3, f4, f5, f6, f7⟩ := eight_frozen hc
            clear hc
            obtain ⟨z0, z1, z2, z3, z4, z5, z6, z7⟩ := eight_cells hr
            obtain ⟨g0, g1, g2, g3, g4, g5, g6, g7⟩ := eight_frozen hr
            clear hr
            have HK4 := Lib.hid kk
            have HP4 := Lib.hid P
            clear k P h kk
            go_wp2_with (fail)
            go_at_call 85
            refine (cp_lit pb ⟨#[59]⟩ (by simp [go_sem]) r4 en _ (by repeat (first | with_reducible exact HP4.out | with_reducible refine PSt.setNew ?_ (by omega) _ | with_reducible refine PSt.kept ?_ (World.grownBy_alloc _ _ none) (by simp)))).mono ?_
            rw [hq5]
            rintro e w5 h
            obtain ⟨k, P, rfl⟩ := h.error
            have hz5 := k.size
            try simp at hz5
            have kk : KB w.heap.size pb w w5 := by refine KB.trans ?_ (k.mono (by (try simp) <;> omega)); (repeat (first | with_reducible exact HK4.out | with_reducible refine KB.setNew ?_ (by omega) _ | with_reducible refine KB.alloc ?_ _ (by (try simp) <;> omega)))
            go_wp2_with (fail)
            exact ⟨rfl, kk, P, rfl⟩
          | ok y =>
            obtain ⟨_, r5⟩ := y
            simp only [bindR]
            go_enter Tryz.func68, Tryz.ntmps68
            go_wp2_with (fail)
            go_at_call 85
            refine (cp_lit pb ⟨#[102, 101, 101, 100]⟩ (by simp [go_sem]) l en _ (by repeat (first | with_reducible exact HP0.out | with_reducible refine PSt.setNew ?_ (by omega) _ | with_reducible refine PSt.kept ?_ (World.grownBy_alloc _ _ none) (by simp)))).mono ?_
            rw [hq1]
            rintro e w1 h
            obtain ⟨k, P, v, rfl, rfl⟩ := h.ok
            have hz1 := k.size
            try simp at hz1
            have kk : KB w.heap.size pb w w1 := by refine KB.trans ?_ (k.mono (by (try simp) <;> omega)); (repeat (first | with_reducible exact HK0.out | with_reducible refine KB.setNew ?_ (by omega) _ | with_reducible refine KB.alloc ?_ _ (by (try simp) <;> omega)))
            have hr : w1.heap[w.heap.size]? = some (.cells #[.int .u8 0, .slice none 0 0, .int .u8 0, .int .i64 0, .int .i64 0, .int .i64 0, .slice none 0 0, .int .i64 0] 36 (0, 0)) := ObjRow.keep k (by repeat (first | with_reducible exact HNONE.out | with_reducible refine row_other ?_ (by omega) _ | with_reducible apply row8_1 | with_reducible apply row8_2 | with_reducible apply row8_3 | with_reducible apply row8_4 | with_reducible apply row8_5 | with_reducible apply row8_6 | with_reducible apply row8_7 | with_reducible exact row_new _ _ _ (by simp) | with_reducible refine row_alloc ?_ _)) (by (try simp) <;> omega) (by omega)
            have Hhr := Lib.hid hr
            have hc : w1.heap[w.heap.size + 1]? = some (.cells #[.int .u8 5, .slice none 0 0, .int .u8 0, .int .i64 0, .int .i64 0, .int .i64 0, .slice none 0 0, .int .i64 0] 36 (0, 0)) := ObjRow.keep k (by repeat (first | with_reducible exact HNONE.out | with_reducible refine row_other ?_ (by omega) _ | with_reducible apply row8_1 | with_reducible apply row8_2 | with_reducible apply row8_3 | with_reducible apply row8_4 | with_reducible apply row8_5 | with_reducible apply row8_6 | with_reducible apply row8_7 | with_reducible exact row_new _ _ _ (by simp) | with_reducible refine row_alloc ?_ _)) (by (try simp) <;> omega) (by omega)
            have Hhc := Lib.hid hc
            obtain ⟨c0, c1, c2, c3, c4, c5, c6, c7⟩ := eight_cells hc
            obtain ⟨f0, f1, f2, f3, f4, f5, f6, f7⟩ := eight_frozen hc
            clear hc
            obtain ⟨z0, z1, z2, z3, z4, z5, z6, z7⟩ := eight_cells hr
            obtain ⟨g0, g1, g2, g3, g4, g5, g6, g7⟩ := eight_frozen hr
            clear hr
            have HK1 := Lib.hid kk
            have HP1 := Lib.hid P
            clear k P h kk
            go_wp2_with (fail)
            go_at_call 88
            refine (cp_num pb r1 en _ (by repeat (first | with_reducible exact HP1.out | with_reducible refine PSt.setNew ?_ (by omega) _ | with_reducible refine PSt.kept ?_ (World.grownBy_alloc _ _ none) (by simp)))).mono ?_
            rw [hq2]
            rintro e w2 h
            obtain ⟨k, P, v, rfl, rfl⟩ := h.ok
            have hz2 := k.size
            try simp at hz2
            have kk : KB w.heap.size pb w w2 := by refine KB.trans ?_ (k.mono (by (try simp) <;> omega)); (repeat (first | with_reducible exact HK1.out | with_reducible refine KB.setNew ?_ (by omega) _ | with_reducible refine KB.alloc ?_ _ (by (try simp) <;> omega)))
            have hr : w2.heap[w.heap.size]? = some (.cells #[.int .u8 0, .slice none 0 0, .int .u8 0, .int .i64 0, .int .i64 0, .int .i64 0, .slice none 0 0, .int .i64 0] 36 (0, 0)) := ObjRow.keep k (by repeat (first | with_reducible exact Hhr.out | with_reducible refine row_other ?_ (by omega) _ | with_reducible apply row8_1 | with_reducible apply row8_2 | with_reducible apply row8_3 | with_reducible apply row8_4 | with_reducible apply row8_5 | with_reducible apply row8_6 | with_reducible apply row8_7 | with_reducible exact row_new _ _ _ (by simp) | with_reducible refine row_alloc ?_ _)) (by (try simp) <;> omega) (by omega)
            have Hhr := Lib.hid hr
            have hc : w2.heap[w.heap.size + 1]? = some (.cells #[.int .u8 5, .slice none 0 0, .int .u8 0, .int .i64 0, .int .i64 0, .int .i64 0, .slice none 0 0, .int .i64 0] 36 (0, 0)) := ObjRow.keep k (by repeat (first | with_reducible exact Hhc.out | with_reducible refine row_other ?_ (by omega) _ | with_reducible apply row8_1 | with_reducible apply row8_2 | with_reducible apply row8_3 | with_reducible apply row8_4 | with_reducible apply row8_5 | with_reducible apply row8_6 | with_reducible apply row8_7 | with_reducible exact row_new _ _ _ (by simp) | with_reducible refine row_alloc ?_ _)) (by (try simp) <;> omega) (by omega)
            have Hhc := Lib.hid hc
            obtain ⟨c0, c1, c2, c3, c4, c5, c6, c7⟩ := eight_cells hc
            obtain ⟨f0, f1, f2, f3, f4, f5, f6, f7⟩ := eight_frozen hc
            clear hc
            obtain ⟨z0, z1, z2, z3, z4, z5, z6, z7⟩ := eight_cells hr
            obtain ⟨g0, g1, g2, g3, g4, g5, g6, g7⟩ := eight_frozen hr
            clear hr
            have HK2 := Lib.hid kk
            have HP2 := Lib.hid P
            clear k P h kk
            go_wp2_with (fail)
            go_at_call 85
            refine (cp_lit pb ⟨#[97, 116]⟩ (by simp [go_sem]) r2 en _ (by repeat (first | with_reducible exact HP2.out | with_reducible refine PSt.setNew ?_ (by omega) _ | with_reducible refine PSt.kept ?_ (World.grownBy_alloc _ _ none) (by simp)))).mono ?_
            rw [hq3]
            rintro e w3 h
            obtain ⟨k, P, v, rfl, rfl⟩ := h.ok
            have hz3 := k.size
            try simp at hz3
            have kk : KB w.heap.size pb w w3 := by refine KB.trans ?_ (k.mono (by (try simp) <;> omega)); (repeat (first | with_reducible exact HK2.out | with_reducible refine KB.setNew ?_ (by omega) _ | with_reducible refine KB.alloc ?_ _ (by (try simp) <;> omega)))
            have hr : w3.heap[w.heap.size]? = some (.cells #[.int .u8 0, .slice none 0 0, .int .u8 0, .int .i64 0, .int .i64 0, .int .i64 0, .slice none 0 0, .int .i64 0] 36 (0, 0)) := ObjRow.keep k (by repeat (first | with_reducible exact Hhr.out | with_reducible refine row_other ?_ (by omega) _ | with_reducible apply row8_1 | with_reducible apply row8_2 | with_reducible apply row8_3 | with_reducible apply row8_4 | with_reducible apply row8_5 | with_reducible apply row8_6 | with_reducible apply row8_7 | with_reducible exact row_new _ _ _ (by simp) | with_reducible refine row_alloc ?_ _)) (by (try simp) <;> omega) (by omega)
            have Hhr := Lib.hid hr
            have hc : w3.heap[w.heap.size + 1]? = some (.cells #[.int .u8 5, .slice none 0 0, .int .u8 0, .int .i64 n2, .int .i64 0, .int .i64 0, .slice none 0 0, .int .i64 0] 36 (0, 0)) := ObjRow.keep k (by repeat (first | with_reducible exact Hhc.out | with_reducible refine row_other ?_ (by omega) _ | with_reducible apply row8_1 | with_reducible apply row8_2 | with_reducible apply row8_3 | with_reducible apply row8_4 | with_reducible apply row8_5 | with_reducible apply row8_6 | with_reducible apply row8_7 | with_reducible exact row_new _ _ _ (by simp) | with_reducible refine row_alloc ?_ _)) (by (try simp) <;> omega) (by omega)
            have Hhc := Lib.hid hc
            obtain ⟨c0, c1, c2, c3, c4, c5, c6, c7⟩ := eight_cells hc
            obtain ⟨f0, f1, f2, f3, f4, f5, f6, f7⟩ := eight_frozen hc
            clear hc
            obtain ⟨z0, z1, z2, z3, z4, z5, z6, z7⟩ := eight_cells hr
            obtain ⟨g0, g1, g2, g3, g4, g5, g6, g7⟩ := eight_frozen hr
            clear hr
            have HK3 := Lib.hid kk
            have HP3 := Lib.hid P
            clear k P h kk
            go_wp2_with (fail)
            go_at_call 88
            refine (cp_num pb r3 en _ (by repeat (first | with_reducible exact HP3.out | with_reducible refine PSt.setNew ?_ (by omega) _ | with_reducible refine PSt.kept ?_ (World.grownBy_alloc _ _ none) (by simp)))).mono ?_
            rw [hq4]
            rintro e w4 h
            obtain ⟨k, P, v, rfl, rfl⟩ := h.ok
            have hz4 := k.size
            try simp at hz4
            have kk : KB w.heap.size pb w w4 := by refine KB.trans ?_ (k.mono (by (try simp) <;> omega)); (repeat (first | with_reducible exact HK3.out | with_reducible refine KB.setNew ?_ (by omega) _ | with_reducible refine KB.alloc ?_ _ (by (try simp) <;> omega)))
            have hr : w4.heap[w.heap.size]? = some (.cells #[.int .u8 0, .slice none 0 0, .int .u8 0, .int .i64 0, .int .i64 0, .int .i64 0, .slice none 0 0, .int .i64 0] 36 (0, 0)) := ObjRow.keep k (by repeat (first | with_reducible exact Hhr.out | with_reducible refine row_other ?_ (by omega) _ | with_reducible apply row8_1 | with_reducible apply row8_2 | with_reducible apply row8_3 | with_reducible apply row8_4 | with_reducible apply row8_5 | with_reducible apply row8_6 | with_reducible apply row8_7 | with_reducible exact row_new _ _ _ (by simp) | with_reducible refine row_alloc ?_ _)) (by (try simp) <;> omega) (by omega)
            have Hhr := Lib.hid hr
            have hc : w4.heap[w.heap.size + 1]? = some (.cells #[.int .u8 5, .slice none 0 0, .int .u8 0, .int .i64 n2, .int .i64 0, .int .i64 0, .slice none 0 0, .int .i64 0] 36 (0, 0)) := ObjRow.keep k (by repeat (first | with_reducible exact Hhc.out | with_reducible refine row_other ?_ (by omega) _ | with_reducible apply row8_1 | with_reducible apply row8_2 | with_reducible apply row8_3 | with_reducible apply row8_4 | with_reducible apply row8_5 | with_reducible apply row8_6 | with_reducible apply row8_7 | with_reducible exact row_new _ _ _ (by simp) | with_reducible refine row_alloc ?_ _)) (by (try simp) <;> omega) (by omega)
            have Hhc := Lib.hid hc
            obtain ⟨c0, c1, c2, c3, c4, c5, c6, c7⟩ := eight_cells hc
            obtain ⟨f0, f1, f2, f3, f4, f5, f6, f7⟩ := eight_frozen hc
            clear hc
            obtain ⟨z0, z1, z2, z3, z4, z5, z6, z7⟩ := eight_cells hr
            obtain ⟨g0, g1, g2, g3, g4, g5, g6, g7⟩ := eight_frozen hr
            clear hr
            have HK4 := Lib.hid kk
            have HP4 := Lib.hid P
            clear k P h kk
            go_wp2_with (fail)
            go_at_call 85
            refine (cp_lit pb ⟨#[59]⟩ (by simp [go_sem]) r4 en _ (by repeat (first | with_reducible exact HP4.out | with_reducible refine PSt.setNew ?_ (by omega) _ | with_reducible refine PSt.kept ?_ (World.grownBy_alloc _ _ none) (by simp)))).mono ?_
            rw [hq5]
            rintro e w5 h
            obtain ⟨k, P, v, rfl, rfl⟩ := h.ok
            have hz5 := k.size
            try simp at hz5
            have kk : KB w.heap.size pb w w5 := by refine KB.trans ?_ (k.mono (by (try simp) <;> omega)); (repeat (first | with_reducible exact HK4.out | with_reducible refine KB.setNew ?_ (by omega) _ | with_reducible refine KB.alloc ?_ _ (by (try simp) <;> omega)))
            have hr : w5.heap[w.heap.size]? = some (.cells #[.int .u8 0, .slice none 0 0, .int .u8 0, .int .i64 0, .int .i64 0, .int .i64 0, .slice none 0 0, .int .i64 0] 36 (0, 0)) := ObjRow.keep k (by repeat (first | with_reducible exact Hhr.out | with_reducible refine row_other ?_ (by omega) _ | with_reducible apply row8_1 | with_reducible apply row8_2 | with_reducible apply row8_3 | with_reducible apply row8_4 | with_reducible apply row8_5 | with_reducible apply row8_6 | with_reducible apply row8_7 | with_reducible exact row_new _ _ _ (by simp) | with_reducible refine row_alloc ?_ _)) (by (try simp) <;> omega) (by omega)
            have Hhr := Lib.hid hr
            have hc : w5.heap[w.heap.size + 1]? = some (.cells #[.int .u8 5, .slice none 0 0, .int .u8 0, .int .i64 n2, .int .i64 n4, .int .i64 0, .slice none 0 0, .int .i64 0] 36 (0, 0)) := ObjRow.keep k (by repeat (first | with_reducible exact Hhc.out | with_reducible refine row_other ?_ (by omega) _ | with_reducible apply row8_1 | with_reducible apply row8_2 | with_reducible apply row8_3 | with_reducible apply row8_4 | with_reducible apply row8_5 | with_reducible apply row8_6 | with_reducible apply row8_7 | with_reducible exact row_new _ _ _ (by simp) | with_reducible refine row_alloc ?_ _)) (by (try simp) <;> omega) (by omega)
            have Hhc := Lib.hid hc
            obtain ⟨c0, c1, c2, c3, c4, c5, c6, c7⟩ := eight_cells hc
            obtain ⟨f0, f1, f2, f3, f4, f5, f6, f7⟩ := eight_frozen hc
            clear hc
            obtain ⟨z0, z1, z2, z3, z4, z5, z6, z7⟩ := eight_cells hr
            obtain ⟨g0, g1, g2, g3, g4, g5, g6, g7⟩ := eight_frozen hr
            clear hr
            have HK5 := Lib.hid kk
            have HP5 := Lib.hid P
            clear k P h kk
            go_wp2_with (fail)
            refine ret8 (i := 2) (b := w.heap.size) rfl rfl rfl (row_store8 (by repeat (first | with_reducible exact Hhr.out | with_reducible refine row_other ?_ (by omega) _ | with_reducible apply row8_1 | with_reducible apply row8_2 | with_reducible apply row8_3 | with_reducible apply row8_4 | with_reducible apply row8_5 | with_reducible apply row8_6 | with_reducible apply row8_7 | with_reducible exact row_new _ _ _ (by simp) | with_reducible refine row_alloc ?_ _)) (.int .u8 5) (.slice none 0 0) (.int .u8 0) (.int .i64 n2) (.int .i64 n4) (.int .i64 0) (.slice none 0 0) (.int .i64 0)) ⟨?_, ?_, _, rfl, _, _, rfl, ?_, ClSl.nil _ _⟩
            · (repeat (first | with_reducible exact HK5.out | with_reducible refine KB.setNew ?_ (by omega) _ | with_reducible refine KB.alloc ?_ _ (by (try simp) <;> omega)))
            · exact (by repeat (first | with_reducible exact HP5.out | with_reducible refine PSt.setNew ?_ (by omega) _ | with_reducible refine PSt.kept ?_ (World.grownBy_alloc _ _ none) (by simp)))
            · exact StrSl.nil _ _
end Go.Proofs.YtplnnpkohdmiaaaGreatDoor

/- DERIVED. The landed parser's readers without loops: window. -/
namespace Go.Proofs.YtplnnpkohdmiaaaGreatDoor
open Go.RowKit
set_option maxRecDepth 100000

set_option maxHeartbeats 20000000 in
theorem cp_window (pb : Nat) (l : List Tok) (en : Int) (w : World) (h : PSt w pb l en) :
    Calls Tryz.prog 65 #[.pointer (some ⟨pb, 0, none⟩)] w (RdPost pb en w (ClV w.heap.size) (pWindow l)) := by
  have hlt := h.lt
  have HP0 := Lib.hid h
  have HK0 := Lib.hid (KB.refl w.heap.size pb w)
  clear h
  unfold pWindow
  cases hq1 : pArea l with
  | error r1 =>
    go_enter Tryz.func65, Tryz.ntmps65
    go_wp2_with (fail)
    go_at_call 87
    refine (cp_area pb l en _ (by repeat (first | with_reducible exact HP0.out | with_reducible refine PSt.setNew ?_ (by omega) _ | with_reducible refine PSt.kept ?_ (World.grownBy_alloc _ _ none) (by simp)))).mono ?_
    rw [hq1]
    rintro e w1 h
    obtain ⟨k, P, rfl⟩ := h.error
    have hz1 := k.size
    try simp at hz1
    have kk : KB w.heap.size pb w w1 := by refine KB.trans ?_ (k.mono (by (try simp) <;> omega)); (repeat (first | with_reducible exact HK0.out | with_reducible refine KB.setNew ?_ (by omega) _ | with_reducible refine KB.alloc ?_ _ (by (try simp) <;> omega)))
    go_wp2_with (fail)
    exact ⟨rfl, kk, P, rfl⟩
  | ok y =>
    obtain ⟨⟨d1, n1⟩, r1⟩ := y
    simp only [bindR]
    cases hq2 : pLit ⟨#[102, 114, 111, 109]⟩ r1 with
    | error r2 =>
      go_enter Tryz.func65, Tryz.ntmps65
      go_wp2_with (fail)
      go_at_call 87
      refine (cp_area pb l en _ (by repeat (first | with_reducible exact HP0.out | with_reducible refine PSt.setNew ?_ (by omega) _ | with_reducible refine PSt.kept ?_ (World.grownBy_alloc _ _ none) (by simp)))).mono ?_
      rw [hq1]
      rintro e w1 h
      obtain ⟨k, P, v, rfl, rfl⟩ := h.ok
      have hz1 := k.size
      try simp at hz1
      have kk : KB w.heap.size pb w w1 := by refine KB.trans ?_ (k.mono (by (try simp) <;> omega)); (repeat (first | with_reducible exact HK0.out | with_reducible refine KB.setNew ?_ (by omega) _ | with_reducible refine KB.alloc ?_ _ (by (try simp) <;> omega)))
      have hr : w1.heap[w.heap.size]? = some (.cells #[.int .u8 0, .slice none 0 0, .int .u8 0, .int .i64 0, .int .i64 0, .int .i64 0, .slice none 0 0, .int .i64 0] 36 (0, 0)) := ObjRow.keep k (by repeat (first | with_reducible exact HNONE.out | with_reducible refine row_other ?_ (by omega) _ | with_reducible apply row8_1 | with_reducible apply row8_2 | with_reducible apply row8_3 | with_reducible apply row8_4 | with_reducible apply row8_5 | with_reducible apply row8_6 | with_reducible apply row8_7 | with_reducible exact row_new _ _ _ (by simp) | with_reducible refine row_alloc ?_ _)) (by (try simp) <;> omega) (by omega)
      have Hhr := Lib.hid hr
      have hc : w1.heap[w.heap.size + 1]? = some (.cells #[.int .u8 2, .slice none 0 0, .int .u8 0, .int .i64 0, .int .i64 0, .int .i64 0, .slice none 0 0, .int .i64 0] 36 (0, 0)) := ObjRow.keep k (by repeat (first | with_reducible exact HNONE.out | with_reducible refine row_other ?_ (by omega) _ | with_reducible apply row8_1 | with_reducible apply row8_2 | with_reducible apply row8_3 | with_reducible apply row8_4 | with_reducible apply row8_5 | with_reducible apply row8_6 | with_reducible apply row8_7 | with_reducible exact row_new _ _ _ (by simp) | with_reducible refine row_alloc ?_ _)) (by (try simp) <;> omega) (by omega)
      have Hhc := Lib.hid hc
      obtain ⟨c0, c1, c2, c3, c4, c5, c6, c7⟩ := eight_cells hc
      obtain ⟨f0, f1, f2, f3, f4, f5, f6, f7⟩ := eight_frozen hc
      clear hc
      obtain ⟨z0, z1, z2, z3, z4, z5, z6, z7⟩ := eight_cells hr
      obtain ⟨g0, g1, g2, g3, g4, g5, g6, g7⟩ := eight_frozen hr
      clear hr
      have HK1 := Lib.hid kk
      have HP1 := Lib.hid P
      clear k P h kk
      go_wp2_with (fail)
      go_at_call 85
      refine (cp_lit pb ⟨#[102, 114, 111, 109]⟩ (by simp [go_sem]) r1 en _ (by repeat (first | with_reducible exact HP1.out | with_reducible refine PSt.setNew ?_ (by omega) _ | with_reducible refine PSt.kept ?_ (World.grownBy_alloc _ _ none) (by simp)))).mono ?_
      rw [hq2]
      rintro e w2 h
      obtain ⟨k, P, rfl⟩ := h.error
      have hz2 := k.size
      try simp at hz2
      have kk : KB w.heap.size pb w w2 := by refine KB.trans ?_ (k.mono (by (try simp) <;> omega)); (repeat (first | with_reducible exact HK1.out | with_reducible refine KB.setNew ?_ (by omega) _ | with_reducible refine KB.alloc ?_ _ (by (try simp) <;> omega)))
      go_wp2_with (fail)
      exact ⟨rfl, kk, P, rfl⟩
    | ok y =>
      obtain ⟨_, r2⟩ := y
      simp only [bindR]
      cases hq3 : pNum r2 with
      | error r3 =>
        go_enter Tryz.func65, Tryz.ntmps65
        go_wp2_with (fail)
        go_at_call 87
        refine (cp_area pb l en _ (by repeat (first | with_reducible exact HP0.out | with_reducible refine PSt.setNew ?_ (by omega) _ | with_reducible refine PSt.kept ?_ (World.grownBy_alloc _ _ none) (by simp)))).mono ?_
        rw [hq1]
        rintro e w1 h
        obtain ⟨k, P, v, rfl, rfl⟩ := h.ok
        have hz1 := k.size
        try simp at hz1
        have kk : KB w.heap.size pb w w1 := by refine KB.trans ?_ (k.mono (by (try simp) <;> omega)); (repeat (first | with_reducible exact HK0.out | with_reducible refine KB.setNew ?_ (by omega) _ | with_reducible refine KB.alloc ?_ _ (by (try simp) <;> omega)))
        have hr : w1.heap[w.heap.size]? = some (.cells #[.int .u8 0, .slice none 0 0, .int .u8 0, .int .i64 0, .int .i64 0, .int .i64 0, .slice none 0 0, .int .i64 0] 36 (0, 0)) := ObjRow.keep k (by repeat (first | with_reducible exact HNONE.out | with_reducible refine row_other ?_ (by omega) _ | with_reducible apply row8_1 | with_reducible apply row8_2 | with_reducible apply row8_3 | with_reducible apply row8_4 | with_reducible apply row8_5 | with_reducible apply row8_6 | with_reducible apply row8_7 | with_reducible exact row_new _ _ _ (by simp) | with_reducible refine row_alloc ?_ _)) (by (try simp) <;> omega) (by omega)
        have Hhr := Lib.hid hr
        have hc : w1.heap[w.heap.size + 1]? = some (.cells #[.int .u8 2, .slice none 0 0, .int .u8 0, .int .i64 0, .int .i64 0, .int .i64 0, .slice none 0 0, .int .i64 0] 36 (0, 0)) := ObjRow.keep k (by repeat (first | with_reducible exact HNONE.out | with_reducible refine row_other ?_ (by omega) _ | with_reducible apply row8_1 | with_reducible apply row8_2 | with_reducible apply row8_3 | with_reducible apply row8_4 | with_reducible apply row8_5 | with_reducible apply row8_6 | with_reducible apply row8_7 | with_reducible exact row_new _ _ _ (by simp) | with_reducible refine row_alloc ?_ _)) (by (try simp) <;> omega) (by omega)
        have Hhc := Lib.hid hc
        obtain ⟨c0, c1, c2, c3, c4, c5, c6, c7⟩ := eight_cells hc
        obtain ⟨f0, f1, f2, f3, f4, f5, f6, f7⟩ := eight_frozen hc
        clear hc
        obtain ⟨z0, z1, z2, z3, z4, z5, z6, z7⟩ := eight_cells hr
        obtain ⟨g0, g1, g2, g3, g4, g5, g6, g7⟩ := eight_frozen hr
        clear hr
        have HK1 := Lib.hid kk
        have HP1 := Lib.hid P
        clear k P h kk
        go_wp2_with (fail)
        go_at_call 85
        refine (cp_lit pb ⟨#[102, 114, 111, 109]⟩ (by simp [go_sem]) r1 en _ (by repeat (first | with_reducible exact HP1.out | with_reducible refine PSt.setNew ?_ (by omega) _ | with_reducible refine PSt.kept ?_ (World.grownBy_alloc _ _ none) (by simp)))).mono ?_
        rw [hq2]
        rintro e w2 h
        obtain ⟨k, P, v, rfl, rfl⟩ := h.ok
        have hz2 := k.size
        try simp at hz2
        have kk : KB w.heap.size pb w w2 := by refine KB.trans ?_ (k.mono (by (try simp) <;> omega)); (repeat (first | with_reducible exact HK1.out | with_reducible refine KB.setNew ?_ (by omega) _ | with_reducible refine KB.alloc ?_ _ (by (try simp) <;> omega)))
        have hr : w2.heap[w.heap.size]? = some (.cells #[.int .u8 0, .slice none 0 0, .int .u8 0, .int .i64 0, .int .i64 0, .int .i64 0, .slice none 0 0, .int .i64 0] 36 (0, 0)) := ObjRow.keep k (by repeat (first | with_reducible exact Hhr.out | with_reducible refine row_other ?_ (by omega) _ | with_reducible apply row8_1 | with_reducible apply row8_2 | with_reducible apply row8_3 | with_reducible apply row8_4 | with_reducible apply row8_5 | with_reducible apply row8_6 | with_reducible apply row8_7 | with_reducible exact row_new _ _ _ (by simp) | with_reducible refine row_alloc ?_ _)) (by (try simp) <;> omega) (by omega)
        have Hhr := Lib.hid hr
        have hc : w2.heap[w.heap.size + 1]? = some (.cells #[.int .u8 2, .slice none 0 0, .int .u8 d1, .int .i64 n1, .int .i64 0, .int .i64 0, .slice none 0 0, .int .i64 0] 36 (0, 0)) := ObjRow.keep k (by repeat (first | with_reducible exact Hhc.out | with_reducible refine row_other ?_ (by omega) _ | with_reducible apply row8_1 | with_reducible apply row8_2 | with_reducible apply row8_3 | with_reducible apply row8_4 | with_reducible apply row8_5 | with_reducible apply row8_6 | with_reducible apply row8_7 | with_reducible exact row_new _ _ _ (by simp) | with_reducible refine row_alloc ?_ _)) (by (try simp) <;> omega) (by omega)
        have Hhc := Lib.hid hc
        obtain ⟨c0, c1, c2, c3, c4, c5, c6, c7⟩ := eight_cells hc
        obtain ⟨f0, f1, f2, f3, f4, f5, f6, f7⟩ := eight_frozen hc
        clear hc
        obtain ⟨z0, z1, z2, z3, z4, z5, z6, z7⟩ := eight_cells hr
        obtain ⟨g0, g1, g2, g3, g4, g5, g6, g7⟩ := eight_frozen hr
        clear hr
        have HK2 := Lib.hid kk
        have HP2 := Lib.hid P
        clear k P h kk
        go_wp2_with (fail)
        go_at_call 88
        refine (cp_num pb r2 en _ (by repeat (first | with_reducible exact HP2.out | with_reducible refine PSt.setNew ?_ (by omega) _ | with_reducible refine PSt.kept ?_ (World.grownBy_alloc _ _ none) (by simp)))).mono ?_
        rw [hq3]
        rintro e w3 h
        obtain ⟨k, P, rfl⟩ := h.error
        have hz3 := k.size
        try simp at hz3
        have kk : KB w.heap.size pb w w3 := by refine KB.trans ?_ (k.mono (by (try simp) <;> omega)); (repeat (first | with_reducible exact HK2.out | with_reducible refine KB.setNew ?_ (by omega) _ | with_reducible refine KB.alloc ?_ _ (by (try simp) <;> omega)))
        go_wp2_with (fail)
        exact ⟨rfl, kk, P, rfl⟩
      | ok y =>
        obtain ⟨n3, r3⟩ := y
        simp only [bindR]
        cases hq4 : pLit ⟨#[116, 111]⟩ r3 with
        | error r4 =>
          go_enter Tryz.func65, Tryz.ntmps65
          go_wp2_with (fail)
          go_at_call 87
          refine (cp_area pb l en _ (by repeat (first | with_reducible exact HP0.out | with_reducible refine PSt.setNew ?_ (by omega) _ | with_reducible refine PSt.kept ?_ (World.grownBy_alloc _ _ none) (by simp)))).mono ?_
          rw [hq1]
          rintro e w1 h
          obtain ⟨k, P, v, rfl, rfl⟩ := h.ok
          have hz1 := k.size
          try simp at hz1
          have kk : KB w.heap.size pb w w1 := by refine KB.trans ?_ (k.mono (by (try simp) <;> omega)); (repeat (first | with_reducible exact HK0.out | with_reducible refine KB.setNew ?_ (by omega) _ | with_reducible refine KB.alloc ?_ _ (by (try simp) <;> omega)))
          have hr : w1.heap[w.heap.size]? = some (.cells #[.int .u8 0, .slice none 0 0, .int .u8 0, .int .i64 0, .int .i64 0, .int .i64 0, .slice none 0 0, .int .i64 0] 36 (0, 0)) := ObjRow.keep k (by repeat (first | with_reducible exact HNONE.out | with_reducible refine row_other ?_ (by omega) _ | with_reducible apply row8_1 | with_reducible apply row8_2 | with_reducible apply row8_3 | with_reducible apply row8_4 | with_reducible apply row8_5 | with_reducible apply row8_6 | with_reducible apply row8_7 | with_reducible exact row_new _ _ _ (by simp) | with_reducible refine row_alloc ?_ _)) (by (try simp) <;> omega) (by omega)
          have Hhr := Lib.hid hr
          have hc : w1.heap[w.heap.size + 1]? = some (.cells #[.int .u8 2, .slice none 0 0, .int .u8 0, .int .i64 0, .int .i64 0, .int .i64 0, .slice none 0 0, .int .i64 0] 36 (0, 0)) := ObjRow.keep k (by repeat (first | with_reducible exact HNONE.out | with_reducible refine row_other ?_ (by omega) _ | with_reducible apply row8_1 | with_reducible apply row8_2 | with_reducible apply row8_3 | with_reducible apply row8_4 | with_reducible apply row8_5 | with_reducible apply row8_6 | with_reducible apply row8_7 | with_reducible exact row_new _ _ _ (by simp) | with_reducible refine row_alloc ?_ _)) (by (try simp) <;> omega) (by omega)
          have Hhc := Lib.hid hc
          obtain ⟨c0, c1, c2, c3, c4, c5, c6, c7⟩ := eight_cells hc
          obtain ⟨f0, f1, f2, f3, f4, f5, f6, f7⟩ := eight_frozen hc
          clear hc
          obtain ⟨z0, z1, z2, z3, z4, z5, z6, z7⟩ := eight_cells hr
          obtain ⟨g0, g1, g2, g3, g4, g5, g6, g7⟩ := eight_frozen hr
          clear hr
          have HK1 := Lib.hid kk
          have HP1 := Lib.hid P
          clear k P h kk
          go_wp2_with (fail)
          go_at_call 85
          refine (cp_lit pb ⟨#[102, 114, 111, 109]⟩ (by simp [go_sem]) r1 en _ (by repeat (first | with_reducible exact HP1.out | with_reducible refine PSt.setNew ?_ (by omega) _ | with_reducible refine PSt.kept ?_ (World.grownBy_alloc _ _ none) (by simp)))).mono ?_
          rw [hq2]
          rintro e w2 h
          obtain ⟨k, P, v, rfl, rfl⟩ := h.ok
          have hz2 := k.size
          try simp at hz2
          have kk : KB w.heap.size pb w w2 := by refine KB.trans ?_ (k.mono (by (try simp) <;> omega)); (repeat (first | with_reducible exact HK1.out | with_reducible refine KB.setNew ?_ (by omega) _ | with_reducible refine KB.alloc ?_ _ (by (try simp) <;> omega)))
          have hr : w2.heap[w.heap.size]? = some (.cells #[.int .u8 0, .slice none 0 0, .int .u8 0, .int .i64 0, .int .i64 0, .int .i64 0, .slice none 0 0, .int .i64 0] 36 (0, 0)) := ObjRow.keep k (by repeat (first | with_reducible exact Hhr.out | with_reducible refine row_other ?_ (by omega) _ | with_reducible apply row8_1 | with_reducible apply row8_2 | with_reducible apply row8_3 | with_reducible apply row8_4 | with_reducible apply row8_5 | with_reducible apply row8_6 | with_reducible apply row8_7 | with_reducible exact row_new _ _ _ (by simp) | with_reducible refine row_alloc ?_ _)) (by (try simp) <;> omega) (by omega)
          have Hhr := Lib.hid hr
          have hc : w2.heap[w.heap.size + 1]? = some (.cells #[.int .u8 2, .slice none 0 0, .int .u8 d1, .int .i64 n1, .int .i64 0, .int .i64 0, .slice none 0 0, .int .i64 0] 36 (0, 0)) := ObjRow.keep k (by repeat (first | with_reducible exact Hhc.out | with_reducible refine row_other ?_ (by omega) _ | with_reducible apply row8_1 | with_reducible apply row8_2 | with_reducible apply row8_3 | with_reducible apply row8_4 | with_reducible apply row8_5 | with_reducible apply row8_6 | with_reducible apply row8_7 | with_reducible exact row_new _ _ _ (by simp) | with_reducible refine row_alloc ?_ _)) (by (try simp) <;> omega) (by omega)
          have Hhc := Lib.hid hc
          obtain ⟨c0, c1, c2, c3, c4, c5, c6, c7⟩ := eight_cells hc
          obtain ⟨f0, f1, f2, f3, f4, f5, f6, f7⟩ := eight_frozen hc
          clear hc
          obtain ⟨z0, z1, z2, z3, z4, z5, z6, z7⟩ := eight_cells hr
          obtain ⟨g0, g1, g2, g3, g4, g5, g6, g7⟩ := eight_frozen hr
          clear hr
          have HK2 := Lib.hid kk
          have HP2 := Lib.hid P
          clear k P h kk
          go_wp2_with (fail)
          go_at_call 88
          refine (cp_num pb r2 en _ (by repeat (first | with_reducible exact HP2.out | with_reducible refine PSt.setNew ?_ (by omega) _ | with_reducible refine PSt.kept ?_ (World.grownBy_alloc _ _ none) (by simp)))).mono ?_
          rw [hq3]
          rintro e w3 h
          obtain ⟨k, P, v, rfl, rfl⟩ := h.ok
          have hz3 := k.size
          try simp at hz3
          have kk : KB w.heap.size pb w w3 := by refine KB.trans ?_ (k.mono (by (try simp) <;> omega)); (repeat (first | with_reducible exact HK2.out | with_reducible refine KB.setNew ?_ (by omega) _ | with_reducible refine KB.alloc ?_ _ (by (try simp) <;> omega)))
          have hr : w3.heap[w.heap.size]? = some (.cells #[.int .u8 0, .slice none 0 0, .int .u8 0, .int .i64 0, .int .i64 0, .int .i64 0, .slice none 0 0, .int .i64 0] 36 (0, 0)) := ObjRow.keep k (by repeat (first | with_reducible exact Hhr.out | with_reducible refine row_other ?_ (by omega) _ | with_reducible apply row8_1 | with_reducible apply row8_2 | with_reducible apply row8_3 | with_reducible apply row8_4 | with_reducible apply row8_5 | with_reducible apply row8_6 | with_reducible apply row8_7 | with_reducible exact row_new _ _ _ (by simp) | with_reducible refine row_alloc ?_ _)) (by (try simp) <;> omega) (by omega)
          have Hhr := Lib.hid hr
          have hc : w3.heap[w.heap.size + 1]? = some (.cells #[.int .u8 2, .slice none 0 0, .int .u8 d1, .int .i64 n1, .int .i64 0, .int .i64 0, .slice none 0 0, .int .i64 0] 36 (0, 0)) := ObjRow.keep k (by repeat (first | with_reducible exact Hhc.out | with_reducible refine row_other ?_ (by omega) _ | with_reducible apply row8_1 | with_reducible apply row8_2 | with_reducible apply row8_3 | with_reducible apply row8_4 | with_reducible apply row8_5 | with_reducible apply row8_6 | with_reducible apply row8_7 | with_reducible exact row_new _ _ _ (by simp) | with_reducible refine row_alloc ?_ _)) (by (try simp) <;> omega) (by omega)
          have Hhc := Lib.hid hc
          obtain ⟨c0, c1, c2, c3, c4, c5, c6, c7⟩ := eight_cells hc
          obtain ⟨f0, f1, f2, f3, f4, f5, f6, f7⟩ := eight_frozen hc
          clear hc
          obtain ⟨z0, z1, z2, z3, z4, z5, z6, z7⟩ := eight_cells hr
          obtain ⟨g0, g1, g2, g3, g4, g5, g6, g7⟩ := eight_frozen hr
          clear hr
          have HK3 := Lib.hid kk
          have HP3 := Lib.hid P
          clear k P h kk
          go_wp2_with (fail)
          go_at_call 85
          refine (cp_lit pb ⟨#[116, 111]⟩ (by simp [go_sem]) r3 en _ (by repeat (first | with_reducible exact HP3.out | with_reducible refine PSt.setNew ?_ (by omega) _ | with_reducible refine PSt.kept ?_ (World.grownBy_alloc _ _ none) (by simp)))).mono ?_
          rw [hq4]
          rintro e w4 h
          obtain ⟨k, P, rfl⟩ := h.error
          have hz4 := k.size
          try simp at hz4
          have kk : KB w.heap.size pb w w4 := by refine KB.trans ?_ (k.mono (by (try simp) <;> omega)); (repeat (first | with_reducible exact HK3.out | with_reducible refine KB.setNew ?_ (by omega) _ | with_reducible refine KB.alloc ?_ _ (by (try simp) <;> omega)))
          go_wp2_with (fail)
          exact ⟨rfl, kk, P, rfl⟩
        | ok y =>
          obtain ⟨_, r4⟩ := y
          simp only [bindR]
          cases hq5 : pNum r4 with
          | error r5 =>
            go_enter Tryz.func65, Tryz.ntmps65
            go_wp2_with (fail)
            go_at_call 87
            refine (cp_area pb l en _ (by repeat (first | with_reducible exact HP0.out | with_reducible refine PSt.setNew ?_ (by omega) _ | with_reducible refine PSt.kept ?_ (World.grownBy_alloc _ _ none) (by simp)))).mono ?_
            rw [hq1]
            rintro e w1 h
            obtain ⟨k, P, v, rfl, rfl⟩ := h.ok
            have hz1 := k.size
            try simp at hz1
            have kk : KB w.heap.size pb w w1 := by refine KB.trans ?_ (k.mono (by (try simp) <;> omega)); (repeat (first | with_reducible exact HK0.out | with_reducible refine KB.setNew ?_ (by omega) _ | with_reducible refine KB.alloc ?_ _ (by (try simp) <;> omega)))
            have hr : w1.heap[w.heap.size]? = some (.cells #[.int .u8 0, .slice none 0 0, .int .u8 0, .int .i64 0, .int .i64 0, .int .i64 0, .slice none 0 0, .int .i64 0] 36 (0, 0)) := ObjRow.keep k (by repeat (first | with_reducible exact HNONE.out | with_reducible refine row_other ?_ (by omega) _ | with_reducible apply row8_1 | with_reducible apply row8_2 | with_reducible apply row8_3 | with_reducible apply row8_4 | with_reducible apply row8_5 | with_reducible apply row8_6 | with_reducible apply row8_7 | with_reducible exact row_new _ _ _ (by simp) | with_reducible refine row_alloc ?_ _)) (by (try simp) <;> omega) (by omega)
            have Hhr := Lib.hid hr
            have hc : w1.heap[w.heap.size + 1]? = some (.cells #[.int .u8 2, .slice none 0 0, .int .u8 0, .int .i64 0, .int .i64 0, .int .i64 0, .slice none 0 0, .int .i64 0] 36 (0, 0)) := ObjRow.keep k (by repeat (first | with_reducible exact HNONE.out | with_reducible refine row_other ?_ (by omega) _ | with_reducible apply row8_1 | with_reducible apply row8_2 | with_reducible apply row8_3 | with_reducible apply row8_4 | with_reducible apply row8_5 | with_reducible apply row8_6 | with_reducible apply row8_7 | with_reducible exact row_new _ _ _ (by simp) | with_reducible refine row_alloc ?_ _)) (by (try simp) <;> omega) (by omega)
            have Hhc := Lib.hid hc
            obtain ⟨c0, c1, c2, c3, c4, c5, c6, c7⟩ := eight_cells hc
            obtain ⟨f0, f1, f2, f3, f4, f5, f6, f7⟩ := eight_frozen hc
            clear hc
            obtain ⟨z0, z1, z2, z3, z4, z5, z6, z7⟩ := eight_cells hr
            obtain ⟨g0, g1, g2, g3, g4, g5, g6, g7⟩ := eight_frozen hr
            clear hr
            have HK1 := Lib.hid kk
            have HP1 := Lib.hid P
            clear k P h kk
            go_wp2_with (fail)
            go_at_call 85
            refine (cp_lit pb ⟨#[102, 114, 111, 109]⟩ (by simp [go_sem]) r1 en _ (by repeat (first | with_reducible exact HP1.out | with_reducible refine PSt.setNew ?_ (by omega) _ | with_reducible refine PSt.kept ?_ (World.grownBy_alloc _ _ none) (by simp)))).mono ?_
            rw [hq2]
            rintro e w2 h
            obtain ⟨k, P, v, rfl, rfl⟩ := h.ok
            have hz2 := k.size
            try simp at hz2
            have kk : KB w.heap.size pb w w2 := by refine KB.trans ?_ (k.mono (by (try simp) <;> omega)); (repeat (first | with_reducible exact HK1.out | with_reducible refine KB.setNew ?_ (by omega) _ | with_reducible refine KB.alloc ?_ _ (by (try simp) <;> omega)))
            have hr : w2.heap[w.heap.size]? = some (.cells #[.int .u8 0, .slice none 0 0, .int .u8 0, .int .i64 0, .int .i64 0, .int .i64 0, .slice none 0 0, .int .i64 0] 36 (0, 0)) := ObjRow.keep k (by repeat (first | with_reducible exact Hhr.out | with_reducible refine row_other ?_ (by omega) _ | with_reducible apply row8_1 | with_reducible apply row8_2 | with_reducible apply row8_3 | with_reducible apply row8_4 | with_reducible apply row8_5 | with_reducible apply row8_6 | with_reducible apply row8_7 | with_reducible exact row_new _ _ _ (by simp) | with_reducible refine row_alloc ?_ _)) (by (try simp) <;> omega) (by omega)
            have Hhr := Lib.hid hr
            have hc : w2.heap[w.heap.size + 1]? = some (.cells #[.int .u8 2, .slice none 0 0, .int .u8 d1, .int .i64 n1, .int .i64 0, .int .i64 0, .slice none 0 0, .int .i64 0] 36 (0, 0)) := ObjRow.keep k (by repeat (first | with_reducible exact Hhc.out | with_reducible refine row_other ?_ (by omega) _ | with_reducible apply row8_1 | with_reducible apply row8_2 | with_reducible apply row8_3 | with_reducible apply row8_4 | with_reducible apply row8_5 | with_reducible apply row8_6 | with_reducible apply row8_7 | with_reducible exact row_new _ _ _ (by simp) | with_reducible refine row_alloc ?_ _)) (by (try simp) <;> omega) (by omega)
            have Hhc := Lib.hid hc
            obtain ⟨c0, c1, c2, c3, c4, c5, c6, c7⟩ := eight_cells hc
            obtain ⟨f0, f1, f2, f3, f4, f5, f6, f7⟩ := eight_frozen hc
            clear hc
            obtain ⟨z0, z1, z2, z3, z4, z5, z6, z7⟩ := eight_cells hr
            obtain ⟨g0, g1, g2, g3, g4, g5, g6, g7⟩ := eight_frozen hr
            clear hr
            have HK2 := Lib.hid kk
            have HP2 := Lib.hid P
            clear k P h kk
            go_wp2_with (fail)
            go_at_call 88
            refine (cp_num pb r2 en _ (by repeat (first | with_reducible exact HP2.out | with_reducible refine PSt.setNew ?_ (by omega) _ | with_reducible refine PSt.kept ?_ (World.grownBy_alloc _ _ none) (by simp)))).mono ?_
            rw [hq3]
            rintro e w3 h
            obtain ⟨k, P, v, rfl, rfl⟩ := h.ok
            have hz3 := k.size
            try simp at hz3
            have kk : KB w.heap.size pb w w3 := by refine KB.trans ?_ (k.mono (by (try simp) <;> omega)); (repeat (first | with_reducible exact HK2.out | with_reducible refine KB.setNew ?_ (by omega) _ | with_reducible refine KB.alloc ?_ _ (by (try simp) <;> omega)))
            have hr : w3.heap[w.heap.size]? = some (.cells #[.int .u8 0, .slice none 0 0, .int .u8 0, .int .i64 0, .int .i64 0, .int .i64 0, .slice none 0 0, .int .i64 0] 36 (0, 0)) := ObjRow.keep k (by repeat (first | with_reducible exact Hhr.out | with_reducible refine row_other ?_ (by omega) _ | with_reducible apply row8_1 | with_reducible apply row8_2 | with_reducible apply row8_3 | with_reducible apply row8_4 | with_reducible apply row8_5 | with_reducible apply row8_6 | with_reducible apply row8_7 | with_reducible exact row_new _ _ _ (by simp) | with_reducible refine row_alloc ?_ _)) (by (try simp) <;> omega) (by omega)
            have Hhr := Lib.hid hr
            have hc : w3.heap[w.heap.size + 1]? = some (.cells #[.int .u8 2, .slice none 0 0, .int .u8 d1, .int .i64 n1, .int .i64 0, .int .i64 0, .slice none 0 0, .int .i64 0] 36 (0, 0)) := ObjRow.keep k (by repeat (first | with_reducible exact Hhc.out | with_reducible refine row_other ?_ (by omega) _ | with_reducible apply row8_1 | with_reducible apply row8_2 | with_reducible apply row8_3 | with_reducible apply row8_4 | with_reducible apply row8_5 | with_reducible apply row8_6 | with_reducible apply row8_7 | with_reducible exact row_new _ _ _ (by simp) | with_reducible refine row_alloc ?_ _)) (by (try simp) <;> omega) (by omega)
            have Hhc := Lib.hid hc
            obtain ⟨c0, c1, c2, c3, c4, c5, c6, c7⟩ := eight_cells hc
            obtain ⟨f0, f1, f2, f3, f4, f5, f6, f7⟩ := eight_frozen hc
            clear hc
            obtain ⟨z0, z1, z2, z3, z4, z5, z6, z7⟩ := eight_cells hr
            obtain ⟨g0, g1, g2, g3, g4, g5, g6, g7⟩ := eight_frozen hr
            clear hr
            have HK3 := Lib.hid kk
            have HP3 := Lib.hid P
            clear k P h kk
            go_wp2_with (fail)
            go_at_call 85
            refine (cp_lit pb ⟨#[116, 111]⟩ (by simp [go_sem]) r3 en _ (by repeat (first | with_reducible exact HP3.out | with_reducible refine PSt.setNew ?_ (by omega) _ | with_reducible refine PSt.kept ?_ (World.grownBy_alloc _ _ none) (by simp)))).mono ?_
            rw [hq4]
            rintro e w4 h
            obtain ⟨k, P, v, rfl, rfl⟩ := h.ok
            have hz4 := k.size
            try simp at hz4
            have kk : KB w.heap.size pb w w4 := by refine KB.trans ?_ (k.mono (by (try simp) <;> omega)); (repeat (first | with_reducible exact HK3.out | with_reducible refine KB.setNew ?_ (by omega) _ | with_reducible refine KB.alloc ?_ _ (by (try simp) <;> omega)))
            have hr : w4.heap[w.heap.size]? = some (.cells #[.int .u8 0, .slice none 0 0, .int .u8 0, .int .i64 0, .int .i64 0, .int .i64 0, .slice none 0 0, .int .i64 0] 36 (0, 0)) := ObjRow.keep k (by repeat (first | with_reducible exact Hhr.out | with_reducible refine row_other ?_ (by omega) _ | with_reducible apply row8_1 | with_reducible apply row8_2 | with_reducible apply row8_3 | with_reducible apply row8_4 | with_reducible apply row8_5 | with_reducible apply row8_6 | with_reducible apply row8_7 | with_reducible exact row_new _ _ _ (by simp) | with_reducible refine row_alloc ?_ _)) (by (try simp) <;> omega) (by omega)
            have Hhr := Lib.hid hr
            have hc : w4.heap[w.heap.size + 1]? = some (.cells #[.int .u8 2, .slice none 0 0, .int .u8 d1, .int .i64 n1, .int .i64 n3, .int .i64 0, .slice none 0 0, .int .i64 0] 36 (0, 0)) := ObjRow.keep k (by repeat (first | with_reducible exact Hhc.out | with_reducible refine row_other ?_ (by omega) _ | with_reducible apply row8_1 | with_reducible apply row8_2 | with_reducible apply row8_3 | with_reducible apply row8_4 | with_reducible apply row8_5 | with_reducible apply row8_6 | with_reducible apply row8_7 | with_reducible exact row_new _ _ _ (by simp) | with_reducible refine row_alloc ?_ _)) (by (try simp) <;> omega) (by omega)
            have Hhc := Lib.hid hc
            obtain ⟨c0, c1, c2, c3, c4, c5, c6, c7⟩ := eight_cells hc
            obtain ⟨f0, f1, f2, f3, f4, f5, f6, f7⟩ := eight_frozen hc
            clear hc
            obtain ⟨z0, z1, z2, z3, z4, z5, z6, z7⟩ := eight_cells hr
            obtain ⟨g0, g1, g2, g3, g4, g5, g6, g7⟩ := eight_frozen hr
            clear hr
            have HK4 := Lib.hid kk
            have HP4 := Lib.hid P
            clear k P h kk
            go_wp2_with (fail)
            go_at_call 88
            refine (cp_num pb r4 en _ (by repeat (first | with_reducible exact HP4.out | with_reducible refine PSt.setNew ?_ (by omega) _ | with_reducible refine PSt.kept ?_ (World.grownBy_alloc _ _ none) (by simp)))).mono ?_
            rw [hq5]
            rintro e w5 h
            obtain ⟨k, P, rfl⟩ := h.error
            have hz5 := k.size
            try simp at hz5
            have kk : KB w.heap.size pb w w5 := by refine KB.trans ?_ (k.mono (by (try simp) <;> omega)); (repeat (first | with_reducible exact HK4.out | with_reducible refine KB.setNew ?_ (by omega) _ | with_reducible refine KB.alloc ?_ _ (by (try simp) <;> omega)))
            go_wp2_with (fail)
            exact ⟨rfl, kk, P, rfl⟩
          | ok y =>
            obtain ⟨n5, r5⟩ := y
            simp only [bindR]
            cases hq6 : pLit ⟨#[59]⟩ r5 with
            | error r6 =>
              go_enter Tryz.func65, Tryz.ntmps65
              go_wp2_with (fail)
              go_at_call 87
              refine (cp_area pb l en _ (by repeat (first | with_reducible exact HP0.out | with_reducible refine PSt.setNew ?_ (by omega) _ | with_reducible refine PSt.kept ?_ (World.grownBy_alloc _ _ none) (by simp)))).mono ?_
              rw [hq1]
              rintro e w1 h
              obtain ⟨k, P, v, rfl, rfl⟩ := h.ok
              have hz1 := k.size
              try simp at hz1
              have kk : KB w.heap.size pb w w1 := by refine KB.trans ?_ (k.mono (by (try simp) <;> omega)); (repeat (first | with_reducible exact HK0.out | with_reducible refine KB.setNew ?_ (by omega) _ | with_reducible refine KB.alloc ?_ _ (by (try simp) <;> omega)))
              have hr : w1.heap[w.heap.size]? = some (.cells #[.int .u8 0, .slice none 0 0, .int .u8 0, .int .i64 0, .int .i64 0, .int .i64 0, .slice none 0 0, .int .i64 0] 36 (0, 0)) := ObjRow.keep k (by repeat (first | with_reducible exact HNONE.out | with_reducible refine row_other ?_ (by omega) _ | with_reducible apply row8_1 | with_reducible apply row8_2 | with_reducible apply row8_3 | with_reducible apply row8_4 | with_reducible apply row8_5 | with_reducible apply row8_6 | with_reducible apply row8_7 | with_reducible exact row_new _ _ _ (by simp) | with_reducible refine row_alloc ?_ _)) (by (try simp) <;> omega) (by omega)
              have Hhr := Lib.hid hr
              have hc : w1.heap[w.heap.size + 1]? = some (.cells #[.int .u8 2, .slice none 0 0, .int .u8 0, .int .i64 0, .int .i64 0, .int .i64 0, .slice none 0 0, .int .i64 0] 36 (0, 0)) := ObjRow.keep k (by repeat (first | with_reducible exact HNONE.out | with_reducible refine row_other ?_ (by omega) _ | with_reducible apply row8_1 | with_reducible apply row8_2 | with_reducible apply row8_3 | with_reducible apply row8_4 | with_reducible apply row8_5 | with_reducible apply row8_6 | with_reducible apply row8_7 | with_reducible exact row_new _ _ _ (by simp) | with_reducible refine row_alloc ?_ _)) (by (try simp) <;> omega) (by omega)
              have Hhc := Lib.hid hc
              obtain ⟨c0, c1, c2, c3, c4, c5, c6, c7⟩ := eight_cells hc
              obtain ⟨f0, f1, f2, f3, f4, f5, f6, f7⟩ := eight_frozen hc
              clear hc
              obtain ⟨z0, z1, z2, z3, z4, z5, z6, z7⟩ := eight_cells hr
              obtain ⟨g0, g1, g2, g3, g4, g5, g6, g7⟩ := eight_frozen hr
              clear hr
              have HK1 := Lib.hid kk
              have HP1 := Lib.hid P
              clear k P h kk
              go_wp2_with (fail)
              go_at_call 85
              refine (cp_lit pb ⟨#[102, 114, 111, 109]⟩ (by simp [go_sem]) r1 en _ (by repeat (first | with_reducible exact HP1.out | with_reducible refine PSt.setNew ?_ (by omega) _ | with_reducible refine PSt.kept ?_ (World.grownBy_alloc _ _ none) (by simp)))).mono ?_
              rw [hq2]
              rintro e w2 h
              obtain ⟨k, P, v, rfl, rfl⟩ := h.ok
              have hz2 := k.size
              try simp at hz2
              have kk : KB w.heap.size pb w w2 := by refine KB.trans ?_ (k.mono (by (try simp) <;> omega)); (repeat (first | with_reducible exact HK1.out | with_reducible refine KB.setNew ?_ (by omega) _ | with_reducible refine KB.alloc ?_ _ (by (try simp) <;> omega)))
              have hr : w2.heap[w.heap.size]? = some (.cells #[.int .u8 0, .slice none 0 0, .int .u8 0, .int .i64 0, .int .i64 0, .int .i64 0, .slice none 0 0, .int .i64 0] 36 (0, 0)) := ObjRow.keep k (by repeat (first | with_reducible exact Hhr.out | with_reducible refine row_other ?_ (by omega) _ | with_reducible apply row8_1 | with_reducible apply row8_2 | with_reducible apply row8_3 | with_reducible apply row8_4 | with_reducible apply row8_5 | with_reducible apply row8_6 | with_reducible apply row8_7 | with_reducible exact row_new _ _ _ (by simp) | with_reducible refine row_alloc ?_ _)) (by (try simp) <;> omega) (by omega)
              have Hhr := Lib.hid hr
              have hc : w2.heap[w.heap.size + 1]? = some (.cells #[.int .u8 2, .slice none 0 0, .int .u8 d1, .int .i64 n1, .int .i64 0, .int .i64 0, .slice none 0 0, .int .i64 0] 36 (0, 0)) := ObjRow.keep k (by repeat (first | with_reducible exact Hhc.out | with_reducible refine row_other ?_ (by omega) _ | with_reducible apply row8_1 | with_reducible apply row8_2 | with_reducible apply row8_3 | with_reducible apply row8_4 | with_reducible apply row8_5 | with_reducible apply row8_6 | with_reducible apply row8_7 | with_reducible exact row_new _ _ _ (by simp) | with_reducible refine row_alloc ?_ _)) (by (try simp) <;> omega) (by omega)
              have Hhc := Lib.hid hc
              obtain ⟨c0, c1, c2, c3, c4, c5, c6, c7⟩ := eight_cells hc
              obtain ⟨f0, f1, f2, f3, f4, f5, f6, f7⟩ := eight_frozen hc
              clear hc
              obtain ⟨z0, z1, z2, z3, z4, z5, z6, z7⟩ := eight_cells hr
              obtain ⟨g0, g1, g2, g3, g4, g5, g6, g7⟩ := eight_frozen hr
              clear hr
              have HK2 := Lib.hid kk
              have HP2 := Lib.hid P
              clear k P h kk
              go_wp2_with (fail)
              go_at_call 88
              refine (cp_num pb r2 en _ (by repeat (first | with_reducible exact HP2.out | with_reducible refine PSt.setNew ?_ (by omega) _ | with_reducible refine PSt.kept ?_ (World.grownBy_alloc _ _ none) (by simp)))).mono ?_
              rw [hq3]
              rintro e w3 h
              obtain ⟨k, P, v, rfl, rfl⟩ := h.ok
              have hz3 := k.size
              try simp at hz3
              have kk : KB w.heap.size pb w w3 := by refine KB.trans ?_ (k.mono (by (try simp) <;> omega)); (repeat (first | with_reducible exact HK2.out | with_reducible refine KB.setNew ?_ (by omega) _ | with_reducible refine KB.alloc ?_ _ (by (try simp) <;> omega)))
              have hr : w3.heap[w.heap.size]? = some (.cells #[.int .u8 0, .slice none 0 0, .int .u8 0, .int .i64 0, .int .i64 0, .int .i64 0, .slice none 0 0, .int .i64 0] 36 (0, 0)) := ObjRow.keep k (by repeat (first | with_reducible exact Hhr.out | with_reducible refine row_other ?_ (by omega) _ | with_reducible apply row8_1 | with_reducible apply row8_2 | with_reducible apply row8_3 | with_reducible apply row8_4 | with_reducible apply row8_5 | with_reducible apply row8_6 | with_reducible apply row8_7 | with_reducible exact row_new _ _ _ (by simp) | with_reducible refine row_alloc ?_ _)) (by (try simp) <;> omega) (by omega)
              have Hhr := Lib.hid hr
              have hc : w3.heap[w.heap.size + 1]? = some (.cells #[.int .u8 2, .slice none 0 0, .int .u8 d1, .int .i64 n1, .int .i64 0, .int .i64 0, .slice none 0 0, .int .i64 0] 36 (0, 0)) := ObjRow.keep k (by repeat (first | with_reducible exact Hhc.out | with_reducible refine row_other ?_ (by omega) _ | with_reducible apply row8_1 | with_reducible apply row8_2 | with_reducible apply row8_3 | with_reducible apply row8_4 | with_reducible apply row8_5 | with_reducible apply row8_6 | with_reducible apply row8_7 | with_reducible exact row_new _ _ _ (by simp) | with_reducible refine row_alloc ?_ _)) (by (try simp) <;> omega) (by omega)
              have Hhc := Lib.hid hc
              obtain ⟨c0, c1, c2, c3, c4, c5, c6, c7⟩ := eight_cells hc
              obtain ⟨f0, f1, f2, f3, f4, f5, f6, f7⟩ := eight_frozen hc
              clear hc
              obtain ⟨z0, z1, z2, z3, z4, z5, z6, z7⟩ := eight_cells hr
              obtain ⟨g0, g1, g2, g3, g4, g5, g6, g7⟩ := eight_frozen hr
              clear hr
              have HK3 := Lib.hid kk
              have HP3 := Lib.hid P
              clear k P h kk
              go_wp2_with (fail)
              go_at_call 85
              refine (cp_lit pb ⟨#[116, 111]⟩ (by simp [go_sem]) r3 en _ (by repeat (first | with_reducible exact HP3.out | with_reducible refine PSt.setNew ?_ (by omega) _ | with_reducible refine PSt.kept ?_ (World.grownBy_alloc _ _ none) (by simp)))).mono ?_
              rw [hq4]
              rintro e w4 h
              obtain ⟨k, P, v, rfl, rfl⟩ := h.ok
              have hz4 := k.size
              try simp at hz4
              have kk : KB w.heap.size pb w w4 := by refine KB.trans ?_ (k.mono (by (try simp) <;> omega)); (repeat (first | with_reducible exact HK3.out | with_reducible refine KB.setNew ?_ (by omega) _ | with_reducible refine KB.alloc ?_ _ (by (try simp) <;> omega)))
              have hr : w4.heap[w.heap.size]? = some (.cells #[.int .u8 0, .slice none 0 0, .int .u8 0, .int .i64 0, .int .i64 0, .int .i64 0, .slice none 0 0, .int .i64 0] 36 (0, 0)) := ObjRow.keep k (by repeat (first | with_reducible exact Hhr.out | with_reducible refine row_other ?_ (by omega) _ | with_reducible apply row8_1 | with_reducible apply row8_2 | with_reducible apply row8_3 | with_reducible apply row8_4 | with_reducible apply row8_5 | with_reducible apply row8_6 | with_reducible apply row8_7 | with_reducible exact row_new _ _ _ (by simp) | with_reducible refine row_alloc ?_ _)) (by (try simp) <;> omega) (by omega)
              have Hhr := Lib.hid hr
              have hc : w4.heap[w.heap.size + 1]? = some (.cells #[.int .u8 2, .slice none 0 0, .int .u8 d1, .int .i64 n1, .int .i64 n3, .int .i64 0, .slice none 0 0, .int .i64 0] 36 (0, 0)) := ObjRow.keep k (by repeat (first | with_reducible exact Hhc.out | with_reducible refine row_other ?_ (by omega) _ | with_reducible apply row8_1 | with_reducible apply row8_2 | with_reducible apply row8_3 | with_reducible apply row8_4 | with_reducible apply row8_5 | with_reducible apply row8_6 | with_reducible apply row8_7 | with_reducible exact row_new _ _ _ (by simp) | with_reducible refine row_alloc ?_ _)) (by (try simp) <;> omega) (by omega)
              have Hhc := Lib.hid hc
              obtain ⟨c0, c1, c2, c3, c4, c5, c6, c7⟩ := eight_cells hc
              obtain ⟨f0, f1, f2, f3, f4, f5, f6, f7⟩ := eight_frozen hc
              clear hc
              obtain ⟨z0, z1, z2, z3, z4, z5, z6, z7⟩ := eight_cells hr
              obtain ⟨g0, g1, g2, g3, g4, g5, g6, g7⟩ := eight_frozen hr
              clear hr
              have HK4 := Lib.hid kk
              have HP4 := Lib.hid P
              clear k P h kk
              go_wp2_with (fail)
              go_at_call 88
              refine (cp_num pb r4 en _ (by repeat (first | with_reducible exact HP4.out | with_reducible refine PSt.setNew ?_ (by omega) _ | with_reducible refine PSt.kept ?_ (World.grownBy_alloc _ _ none) (by simp)))).mono ?_
              rw [hq5]
              rintro e w5 h
              obtain ⟨k, P, v, rfl, rfl⟩ := h.ok
              have hz5 := k.size
              try simp at hz5
              have kk : KB w.heap.size pb w w5 := by refine KB.trans ?_ (k.mono (by (try simp) <;> omega)); (repeat (first | with_reducible exact HK4.out | with_reducible refine KB.setNew ?_ (by omega) _ | with_reducible refine KB.alloc ?_ _ (by (try simp) <;> omega)))
              have hr : w5.heap[w.heap.size]? = some (.cells #[.int .u8 0, .slice none 0 0, .int .u8 0, .int .i64 0, .int .i64 0, .int .i64 0, .slice none 0 0, .int .i64 0] 36 (0, 0)) := ObjRow.keep k (by repeat (first | with_reducible exact Hhr.out | with_reducible refine row_other ?_ (by omega) _ | with_reducible apply row8_1 | with_reducible apply row8_2 | with_reducible apply row8_3 | with_reducible apply row8_4 | with_reducible apply row8_5 | with_reducible apply row8_6 | with_reducible apply row8_7 | with_reducible exact row_new _ _ _ (by simp) | with_reducible refine row_alloc ?_ _)) (by (try simp) <;> omega) (by omega)
              have Hhr := Lib.hid hr
              have hc : w5.heap[w.heap.size + 1]? = some (.cells #[.int .u8 2, .slice none 0 0, .int .u8 d1, .int .i64 n1, .int .i64 n3, .int .i64 0, .slice none 0 0, .int .i64 0] 36 (0, 0)) := ObjRow.keep k (by repeat (first | with_reducible exact Hhc.out | with_reducible refine row_other ?_ (by omega) _ | with_reducible apply row8_1 | with_reducible apply row8_2 | with_reducible apply row8_3 | with_reducible apply row8_4 | with_reducible apply row8_5 | with_reducible apply row8_6 | with_reducible apply row8_7 | with_reducible exact row_new _ _ _ (by simp) | with_reducible refine row_alloc ?_ _)) (by (try simp) <;> omega) (by omega)
              have Hhc := Lib.hid hc
              obtain ⟨c0, c1, c2, c3, c4, c5, c6, c7⟩ := eight_cells hc
              obtain ⟨f0, f1, f2, f3, f4, f5, f6, f7⟩ := eight_frozen hc
              clear hc
              obtain ⟨z0, z1, z2, z3, z4, z5, z6, z7⟩ := eight_cells hr
              obtain ⟨g0, g1, g2, g3, g4, g5, g6, g7⟩ := eight_frozen hr
              clear hr
              have HK5 := Lib.hid kk
              have HP5 := Lib.hid P
              clear k P h kk
              go_wp2_with (fail)
              go_at_call 85
              refine (cp_lit pb ⟨#[59]⟩ (by simp [go_sem]) r5 en _ (by repeat (first | with_reducible exact HP5.out | with_reducible refine PSt.setNew ?_ (by omega) _ | with_reducible refine PSt.kept ?_ (World.grownBy_alloc _ _ none) (by simp)))).mono ?_
              rw [hq6]
              rintro e w6 h
              obtain ⟨k, P, rfl⟩ := h.error
              have hz6 := k.size
              try simp at hz6
              have kk : KB w.heap.size pb w w6 := by refine KB.trans ?_ (k.mono (by (try simp) <;> omega)); (repeat (first | with_reducible exact HK5.out | with_reducible refine KB.setNew ?_ (by omega) _ | with_reducible refine KB.alloc ?_ _ (by (try simp) <;> omega)))
              go_wp2_with (fail)
              exact ⟨rfl, kk, P, rfl⟩
            | ok y =>
              obtain ⟨_, r6⟩ := y
              simp only [bindR]
              go_enter Tryz.func65, Tryz.ntmps65
              go_wp2_with (fail)
              go_at_call 87
              refine (cp_area pb l en _ (by repeat (first | with_reducible exact HP0.out | with_reducible refine PSt.setNew ?_ (by omega) _ | with_reducible refine PSt.kept ?_ (World.grownBy_alloc _ _ none) (by simp)))).mono ?_
              rw [hq1]
              rintro e w1 h
              obtain ⟨k, P, v, rfl, rfl⟩ := h.ok
              have hz1 := k.size
              try simp at hz1
              have kk : KB w.heap.size pb w w1 := by refine KB.trans ?_ (k.mono (by (try simp) <;> omega)); (repeat (first | with_reducible exact HK0.out | with_reducible refine KB.setNew ?_ (by omega) _ | with_reducible refine KB.alloc ?_ _ (by (try simp) <;> omega)))
              have hr : w1.heap[w.heap.size]? = some (.cells #[.int .u8 0, .slice none 0 0, .int .u8 0, .int .i64 0, .int .i64 0, .int .i64 0, .slice none 0 0, .int .i64 0] 36 (0, 0)) := ObjRow.keep k (by repeat (first | with_reducible exact HNONE.out | with_reducible refine row_other ?_ (by omega) _ | with_reducible apply row8_1 | with_reducible apply row8_2 | with_reducible apply row8_3 | with_reducible apply row8_4 | with_reducible apply row8_5 | with_reducible apply row8_6 | with_reducible apply row8_7 | with_reducible exact row_new _ _ _ (by simp) | with_reducible refine row_alloc ?_ _)) (by (try simp) <;> omega) (by omega)
              have Hhr := Lib.hid hr
              have hc : w1.heap[w.heap.size + 1]? = some (.cells #[.int .u8 2, .slice none 0 0, .int .u8 0, .int .i64 0, .int .i64 0, .int .i64 0, .slice none 0 0, .int .i64 0] 36 (0, 0)) := ObjRow.keep k (by repeat (first | with_reducible exact HNONE.out | with_reducible refine row_other ?_ (by omega) _ | with_reducible apply row8_1 | with_reducible apply row8_2 | with_reducible apply row8_3 | with_reducible apply row8_4 | with_reducible apply row8_5 | with_reducible apply row8_6 | with_reducible apply row8_7 | with_reducible exact row_new _ _ _ (by simp) | with_reducible refine row_alloc ?_ _)) (by (try simp) <;> omega) (by omega)
              have Hhc := Lib.hid hc
              obtain ⟨c0, c1, c2, c3, c4, c5, c6, c7⟩ := eight_cells hc
              obtain ⟨f0, f1, f2, f3, f4, f5, f6, f7⟩ := eight_frozen hc
              clear hc
              obtain ⟨z0, z1, z2, z3, z4, z5, z6, z7⟩ := eight_cells hr
              obtain ⟨g0, g1, g2, g3, g4, g5, g6, g7⟩ := eight_frozen hr
              clear hr
              have HK1 := Lib.hid kk
              have HP1 := Lib.hid P
              clear k P h kk
              go_wp2_with (fail)
              go_at_call 85
              refine (cp_lit pb ⟨#[102, 114, 111, 109]⟩ (by simp [go_sem]) r1 en _ (by repeat (first | with_reducible exact HP1.out | with_reducible refine PSt.setNew ?_ (by omega) _ | with_reducible refine PSt.kept ?_ (World.grownBy_alloc _ _ none) (by simp)))).mono ?_
              rw [hq2]
              rintro e w2 h
              obtain ⟨k, P, v, rfl, rfl⟩ := h.ok
              have hz2 := k.size
              try simp at hz2
              have kk : KB w.heap.size pb w w2 := by refine KB.trans ?_ (k.mono (by (try simp) <;> omega)); (repeat (first | with_reducible exact HK1.out | with_reducible refine KB.setNew ?_ (by omega) _ | with_reducible refine KB.alloc ?_ _ (by (try simp) <;> omega)))
              have hr : w2.heap[w.heap.size]? = some (.cells #[.int .u8 0, .slice none 0 0, .int .u8 0, .int .i64 0, .int .i64 0, .int .i64 0, .slice none 0 0, .int .i64 0] 36 (0, 0)) := ObjRow.keep k (by repeat (first | with_reducible exact Hhr.out | with_reducible refine row_other ?_ (by omega) _ | with_reducible apply row8_1 | with_reducible apply row8_2 | with_reducible apply row8_3 | with_reducible apply row8_4 | with_reducible apply row8_5 | with_reducible apply row8_6 | with_reducible apply row8_7 | with_reducible exact row_new _ _ _ (by simp) | with_reducible refine row_alloc ?_ _)) (by (try simp) <;> omega) (by omega)
              have Hhr := Lib.hid hr
              have hc : w2.heap[w.heap.size + 1]? = some (.cells #[.int .u8 2, .slice none 0 0, .int .u8 d1, .int .i64 n1, .int .i64 0, .int .i64 0, .slice none 0 0, .int .i64 0] 36 (0, 0)) := ObjRow.keep k (by repeat (first | with_reducible exact Hhc.out | with_reducible refine row_other ?_ (by omega) _ | with_reducible apply row8_1 | with_reducible apply row8_2 | with_reducible apply row8_3 | with_reducible apply row8_4 | with_reducible apply row8_5 | with_reducible apply row8_6 | with_reducible apply row8_7 | with_reducible exact row_new _ _ _ (by simp) | with_reducible refine row_alloc ?_ _)) (by (try simp) <;> omega) (by omega)
              have Hhc := Lib.hid hc
              obtain ⟨c0, c1, c2, c3, c4, c5, c6, c7⟩ := eight_cells hc
              obtain ⟨f0, f1, f2, f3, f4, f5, f6, f7⟩ := eight_frozen hc
              clear hc
              obtain ⟨z0, z1, z2, z3, z4, z5, z6, z7⟩ := eight_cells hr
              obtain ⟨g0, g1, g2, g3, g4, g5, g6, g7⟩ := eight_frozen hr
              clear hr
              have HK2 := Lib.hid kk
              have HP2 := Lib.hid P
              clear k P h kk
              go_wp2_with (fail)
              go_at_call 88
              refine (cp_num pb r2 en _ (by repeat (first | with_reducible exact HP2.out | with_reducible refine PSt.setNew ?_ (by omega) _ | with_reducible refine PSt.kept ?_ (World.grownBy_alloc _ _ none) (by simp)))).mono ?_
              rw [hq3]
              rintro e w3 h
              obtain ⟨k, P, v, rfl, rfl⟩ := h.ok
              have hz3 := k.size
              try simp at hz3
              have kk : KB w.heap.size pb w w3 := by refine KB.trans ?_ (k.mono (by (try simp) <;> omega)); (repeat (first | with_reducible exact HK2.out | with_reducible refine KB.setNew ?_ (by omega) _ | with_reducible refine KB.alloc ?_ _ (by (try simp) <;> omega)))
              have hr : w3.heap[w.heap.size]? = some (.cells #[.int .u8 0, .slice none 0 0, .int .u8 0, .int .i64 0, .int .i64 0, .int .i64 0, .slice none 0 0, .int .i64 0] 36 (0, 0)) := ObjRow.keep k (by repeat (first | with_reducible exact Hhr.out | with_reducible refine row_other ?_ (by omega) _ | with_reducible apply row8_1 | with_reducible apply row8_2 | with_reducible apply row8_3 | with_reducible apply row8_4 | with_reducible apply row8_5 | with_reducible apply row8_6 | with_reducible apply row8_7 | with_reducible exact row_new _ _ _ (by simp) | with_reducible refine row_alloc ?_ _)) (by (try simp) <;> omega) (by omega)
              have Hhr := Lib.hid hr
              have hc : w3.heap[w.heap.size + 1]? = some (.cells #[.int .u8 2, .slice none 0 0, .int .u8 d1, .int .i64 n1, .int .i64 0, .int .i64 0, .slice none 0 0, .int .i64 0] 36 (0, 0)) := ObjRow.keep k (by repeat (first | with_reducible exact Hhc.out | with_reducible refine row_other ?_ (by omega) _ | with_reducible apply row8_1 | with_reducible apply row8_2 | with_reducible apply row8_3 | with_reducible apply row8_4 | with_reducible apply row8_5 | with_reducible apply row8_6 | with_reducible apply row8_7 | with_reducible exact row_new _ _ _ (by simp) | with_reducible refine row_alloc ?_ _)) (by (try simp) <;> omega) (by omega)
              have Hhc := Lib.hid hc
              obtain ⟨c0, c1, c2, c3, c4, c5, c6, c7⟩ := eight_cells hc
              obtain ⟨f0, f1, f2, f3, f4, f5, f6, f7⟩ := eight_frozen hc
              clear hc
              obtain ⟨z0, z1, z2, z3, z4, z5, z6, z7⟩ := eight_cells hr
              obtain ⟨g0, g1, g2, g3, g4, g5, g6, g7⟩ := eight_frozen hr
              clear hr
              have HK3 := Lib.hid kk
              have HP3 := Lib.hid P
              clear k P h kk
              go_wp2_with (fail)
              go_at_call 85
              refine (cp_lit pb ⟨#[116, 111]⟩ (by simp [go_sem]) r3 en _ (by repeat (first | with_reducible exact HP3.out | with_reducible refine PSt.setNew ?_ (by omega) _ | with_reducible refine PSt.kept ?_ (World.grownBy_alloc _ _ none) (by simp)))).mono ?_
              rw [hq4]
              rintro e w4 h
              obtain ⟨k, P, v, rfl, rfl⟩ := h.ok
              have hz4 := k.size
              try simp at hz4
              have kk : KB w.heap.size pb w w4 := by refine KB.trans ?_ (k.mono (by (try simp) <;> omega)); (repeat (first | with_reducible exact HK3.out | with_reducible refine KB.setNew ?_ (by omega) _ | with_reducible refine KB.alloc ?_ _ (by (try simp) <;> omega)))
              have hr : w4.heap[w.heap.size]? = some (.cells #[.int .u8 0, .slice none 0 0, .int .u8 0, .int .i64 0, .int .i64 0, .int .i64 0, .slice none 0 0, .int .i64 0] 36 (0, 0)) := ObjRow.keep k (by repeat (first | with_reducible exact Hhr.out | with_reducible refine row_other ?_ (by omega) _ | with_reducible apply row8_1 | with_reducible apply row8_2 | with_reducible apply row8_3 | with_reducible apply row8_4 | with_reducible apply row8_5 | with_reducible apply row8_6 | with_reducible apply row8_7 | with_reducible exact row_new _ _ _ (by simp) | with_reducible refine row_alloc ?_ _)) (by (try simp) <;> omega) (by omega)
              have Hhr := Lib.hid hr
              have hc : w4.heap[w.heap.size + 1]? = some (.cells #[.int .u8 2, .slice none 0 0, .int .u8 d1, .int .i64 n1, .int .i64 n3, .int .i64 0, .slice none 0 0, .int .i64 0] 36 (0, 0)) := ObjRow.keep k (by repeat (first | with_reducible exact Hhc.out | with_reducible refine row_other ?_ (by omega) _ | with_reducible apply row8_1 | with_reducible apply row8_2 | with_reducible apply row8_3 | with_reducible apply row8_4 | with_reducible apply row8_5 | with_reducible apply row8_6 | with_reducible apply row8_7 | with_reducible exact row_new _ _ _ (by simp) | with_reducible refine row_alloc ?_ _)) (by (try simp) <;> omega) (by omega)
              have Hhc := Lib.hid hc
              obtain ⟨c0, c1, c2, c3, c4, c5, c6, c7⟩ := eight_cells hc
              obtain ⟨f0, f1, f2, f3, f4, f5, f6, f7⟩ := eight_frozen hc
              clear hc
              obtain ⟨z0, z1, z2, z3, z4, z5, z6, z7⟩ := eight_cells hr
              obtain ⟨g0, g1, g2, g3, g4, g5, g6, g7⟩ := eight_frozen hr
              clear hr
              have HK4 := Lib.hid kk
              have HP4 := Lib.hid P
              clear k P h kk
              go_wp2_with (fail)
              go_at_call 88
              refine (cp_num pb r4 en _ (by repeat (first | with_reducible exact HP4.out | with_reducible refine PSt.setNew ?_ (by omega) _ | with_reducible refine PSt.kept ?_ (World.grownBy_alloc _ _ none) (by simp)))).mono ?_
              rw [hq5]
              rintro e w5 h
              obtain ⟨k, P, v, rfl, rfl⟩ := h.ok
              have hz5 := k.size
              try simp at hz5
              have kk : KB w.heap.size pb w w5 := by refine KB.trans ?_ (k.mono (by (try simp) <;> omega)); (repeat (first | with_reducible exact HK4.out | with_reducible refine KB.setNew ?_ (by omega) _ | with_reducible refine KB.alloc ?_ _ (by (try simp) <;> omega)))
              have hr : w5.heap[w.heap.size]? = some (.cells #[.int .u8 0, .slice none 0 0, .int .u8 0, .int .i64 0, .int .i64 0, .int .i64 0, .slice none 0 0, .int .i64 0] 36 (0, 0)) := ObjRow.keep k (by repeat (first | with_reducible exact Hhr.out | with_reducible refine row_other ?_ (by omega) _ | with_reducible apply row8_1 | with_reducible apply row8_2 | with_reducible apply row8_3 | with_reducible apply row8_4 | with_reducible apply row8_5 | with_reducible apply row8_6 | with_reducible apply row8_7 | with_reducible exact row_new _ _ _ (by simp) | with_reducible refine row_alloc ?_ _)) (by (try simp) <;> omega) (by omega)
              have Hhr := Lib.hid hr
              have hc : w5.heap[w.heap.size + 1]? = some (.cells #[.int .u8 2, .slice none 0 0, .int .u8 d1, .int .i64 n1, .int .i64 n3, .int .i64 0, .slice none 0 0, .int .i64 0] 36 (0, 0)) := ObjRow.keep k (by repeat (first | with_reducible exact Hhc.out | with_reducible refine row_other ?_ (by omega) _ | with_reducible apply row8_1 | with_reducible apply row8_2 | with_reducible apply row8_3 | with_reducible apply row8_4 | with_reducible apply row8_5 | with_reducible apply row8_6 | with_reducible apply row8_7 | with_reducible exact row_new _ _ _ (by simp) | with_reducible refine row_alloc ?_ _)) (by (try simp) <;> omega) (by omega)
              have Hhc := Lib.hid hc
              obtain ⟨c0, c1, c2, c3, c4, c5, c6, c7⟩ := eight_cells hc
              obtain ⟨f0, f1, f2, f3, f4, f5, f6, f7⟩ := eight_frozen hc
              clear hc
              obtain ⟨z0, z1, z2, z3, z4, z5, z6, z7⟩ := eight_cells hr
              obtain ⟨g0, g1, g2, g3, g4, g5, g6, g7⟩ := eight_frozen hr
              clear hr
              have HK5 := Lib.hid kk
              have HP5 := Lib.hid P
              clear k P h kk
              go_wp2_with (fail)
              go_at_call 85
              refine (cp_lit pb ⟨#[59]⟩ (by simp [go_sem]) r5 en _ (by repeat (first | with_reducible exact HP5.out | with_reducible refine PSt.setNew ?_ (by omega) _ | with_reducible refine PSt.kept ?_ (World.grownBy_alloc _ _ none) (by simp)))).mono ?_
              rw [hq6]
              rintro e w6 h
              obtain ⟨k, P, v, rfl, rfl⟩ := h.ok
              have hz6 := k.size
              try simp at hz6
              have kk : KB w.heap.size pb w w6 := by refine KB.trans ?_ (k.mono (by (try simp) <;> omega)); (repeat (first | with_reducible exact HK5.out | with_reducible refine KB.setNew ?_ (by omega) _ | with_reducible refine KB.alloc ?_ _ (by (try simp) <;> omega)))
              have hr : w6.heap[w.heap.size]? = some (.cells #[.int .u8 0, .slice none 0 0, .int .u8 0, .int .i64 0, .int .i64 0, .int .i64 0, .slice none 0 0, .int .i64 0] 36 (0, 0)) := ObjRow.keep k (by repeat (first | with_reducible exact Hhr.out | with_reducible refine row_other ?_ (by omega) _ | with_reducible apply row8_1 | with_reducible apply row8_2 | with_reducible apply row8_3 | with_reducible apply row8_4 | with_reducible apply row8_5 | with_reducible apply row8_6 | with_reducible apply row8_7 | with_reducible exact row_new _ _ _ (by simp) | with_reducible refine row_alloc ?_ _)) (by (try simp) <;> omega) (by omega)
              have Hhr := Lib.hid hr
              have hc : w6.heap[w.heap.size + 1]? = some (.cells #[.int .u8 2, .slice none 0 0, .int .u8 d1, .int .i64 n1, .int .i64 n3, .int .i64 n5, .slice none 0 0, .int .i64 0] 36 (0, 0)) := ObjRow.keep k (by repeat (first | with_reducible exact Hhc.out | with_reducible refine row_other ?_ (by omega) _ | with_reducible apply row8_1 | with_reducible apply row8_2 | with_reducible apply row8_3 | with_reducible apply row8_4 | with_reducible apply row8_5 | with_reducible apply row8_6 | with_reducible apply row8_7 | with_reducible exact row_new _ _ _ (by simp) | with_reducible refine row_alloc ?_ _)) (by (try simp) <;> omega) (by omega)
              have Hhc := Lib.hid hc
              obtain ⟨c0, c1, c2, c3, c4, c5, c6, c7⟩ := eight_cells hc
              obtain ⟨f0, f1, f2, f3, f4, f5, f6, f7⟩ := eight_frozen hc
              clear hc
              obtain ⟨z0, z1, z2, z3, z4, z5, z6, z7⟩ := eight_cells hr
              obtain ⟨g0, g1, g2, g3, g4, g5, g6, g7⟩ := eight_frozen hr
              clear hr
              have HK6 := Lib.hid kk
              have HP6 := Lib.hid P
              clear k P h kk
              go_wp2_with (fail)
              refine ret8 (i := 2) (b := w.heap.size) rfl rfl rfl (row_store8 (by repeat (first | with_reducible exact Hhr.out | with_reducible refine row_other ?_ (by omega) _ | with_reducible apply row8_1 | with_reducible apply row8_2 | with_reducible apply row8_3 | with_reducible apply row8_4 | with_reducible apply row8_5 | with_reducible apply row8_6 | with_reducible apply row8_7 | with_reducible exact row_new _ _ _ (by simp) | with_reducible refine row_alloc ?_ _)) (.int .u8 2) (.slice none 0 0) (.int .u8 d1) (.int .i64 n1) (.int .i64 n3) (.int .i64 n5) (.slice none 0 0) (.int .i64 0)) ⟨?_, ?_, _, rfl, _, _, rfl, ?_, ClSl.nil _ _⟩
              · (repeat (first | with_reducible exact HK6.out | with_reducible refine KB.setNew ?_ (by omega) _ | with_reducible refine KB.alloc ?_ _ (by (try simp) <;> omega)))
              · exact (by repeat (first | with_reducible exact HP6.out | with_reducible refine PSt.setNew ?_ (by omega) _ | with_reducible refine PSt.kept ?_ (World.grownBy_alloc _ _ none) (by simp)))
              · exact StrSl.nil _ _
end Go.Proofs.YtplnnpkohdmiaaaGreatDoor

/- DERIVED. The landed parser's readers without loops: counted, spread, near. -/
namespace Go.Proofs.YtplnnpkohdmiaaaGreatDoor
open Go.RowKit
set_option maxRecDepth 100000

set_option maxHeartbeats 20000000 in
theorem cp_counted (pb : Nat) (kk0 : Int) (l : List Tok) (en : Int) (w : World) (h : PSt w pb l en) :
    Calls Tryz.prog 89 #[.pointer (some ⟨pb, 0, none⟩), .int .u8 kk0] w (RdPost pb en w (ClV w.heap.size) (pCounted kk0 l)) := by
  have hlt := h.lt
  have HP0 := Lib.hid h
  have HK0 := Lib.hid (KB.refl w.heap.size pb w)
  clear h
  unfold pCounted
  cases hq1 : pNum l with
  | error r1 =>
    go_enter Tryz.func89, Tryz.ntmps89
    go_wp2_with (fail)
    go_at_call 88
    refine (cp_num pb l en _ (by repeat (first | with_reducible exact HP0.out | with_reducible refine PSt.setNew ?_ (by omega) _ | with_reducible refine PSt.kept ?_ (World.grownBy_alloc _ _ none) (by simp)))).mono ?_
    rw [hq1]
    rintro e w1 h
    obtain ⟨k, P, rfl⟩ := h.error
    have hz1 := k.size
    try simp at hz1
    have kk : KB w.heap.size pb w w1 := by refine KB.trans ?_ (k.mono (by (try simp) <;> omega)); (repeat (first | with_reducible exact HK0.out | with_reducible refine KB.setNew ?_ (by omega) _ | with_reducible refine KB.alloc ?_ _ (by (try simp) <;> omega)))
    go_wp2_with (fail)
    exact ⟨rfl, kk, P, rfl⟩
  | ok y =>
    obtain ⟨n1, r1⟩ := y
    simp only [bindR]
    cases hq2 : pLit ⟨#[59]⟩ r1 with
    | error r2 =>
      go_enter Tryz.func89, Tryz.ntmps89
      go_wp2_with (fail)
      go_at_call 88
      refine (cp_num pb l en _ (by repeat (first | with_reducible exact HP0.out | with_reducible refine PSt.setNew ?_ (by omega) _ | with_reducible refine PSt.kept ?_ (World.grownBy_alloc _ _ none) (by simp)))).mono ?_
      rw [hq1]
      rintro e w1 h
      obtain ⟨k, P, v, rfl, rfl⟩ := h.ok
      have hz1 := k.size
      try simp at hz1
      have kk : KB w.heap.size pb w w1 := by refine KB.trans ?_ (k.mono (by (try simp) <;> omega)); (repeat (first | with_reducible exact HK0.out | with_reducible refine KB.setNew ?_ (by omega) _ | with_reducible refine KB.alloc ?_ _ (by (try simp) <;> omega)))
      have hr : w1.heap[w.heap.size]? = some (.cells #[.int .u8 0, .slice none 0 0, .int .u8 0, .int .i64 0, .int .i64 0, .int .i64 0, .slice none 0 0, .int .i64 0] 36 (0, 0)) := ObjRow.keep k (by repeat (first | with_reducible exact HNONE.out | with_reducible refine row_other ?_ (by omega) _ | with_reducible apply row8_1 | with_reducible apply row8_2 | with_reducible apply row8_3 | with_reducible apply row8_4 | with_reducible apply row8_5 | with_reducible apply row8_6 | with_reducible apply row8_7 | with_reducible exact row_new _ _ _ (by simp) | with_reducible refine row_alloc ?_ _)) (by (try simp) <;> omega) (by omega)
      have Hhr := Lib.hid hr
      obtain ⟨z0, z1, z2, z3, z4, z5, z6, z7⟩ := eight_cells hr
      obtain ⟨g0, g1, g2, g3, g4, g5, g6, g7⟩ := eight_frozen hr
      clear hr
      have HK1 := Lib.hid kk
      have HP1 := Lib.hid P
      clear k P h kk
      go_wp2_with (fail)
      go_at_call 85
      refine (cp_lit pb ⟨#[59]⟩ (by simp [go_sem]) r1 en _ (by repeat (first | with_reducible exact HP1.out | with_reducible refine PSt.setNew ?_ (by omega) _ | with_reducible refine PSt.kept ?_ (World.grownBy_alloc _ _ none) (by simp)))).mono ?_
      rw [hq2]
      rintro e w2 h
      obtain ⟨k, P, rfl⟩ := h.error
      have hz2 := k.size
      try simp at hz2
      have kk : KB w.heap.size pb w w2 := by refine KB.trans ?_ (k.mono (by (try simp) <;> omega)); (repeat (first | with_reducible exact HK1.out | with_reducible refine KB.setNew ?_ (by omega) _ | with_reducible refine KB.alloc ?_ _ (by (try simp) <;> omega)))
      go_wp2_with (fail)
      exact ⟨rfl, kk, P, rfl⟩
    | ok y =>
      obtain ⟨_, r2⟩ := y
      simp only [bindR]
      go_enter Tryz.func89, Tryz.ntmps89
      go_wp2_with (fail)
      go_at_call 88
      refine (cp_num pb l en _ (by repeat (first | with_reducible exact HP0.out | with_reducible refine PSt.setNew ?_ (by omega) _ | with_reducible refine PSt.kept ?_ (World.grownBy_alloc _ _ none) (by simp)))).mono ?_
      rw [hq1]
      rintro e w1 h
      obtain ⟨k, P, v, rfl, rfl⟩ := h.ok
      have hz1 := k.size
      try simp at hz1
      have kk : KB w.heap.size pb w w1 := by refine KB.trans ?_ (k.mono (by (try simp) <;> omega)); (repeat (first | with_reducible exact HK0.out | with_reducible refine KB.setNew ?_ (by omega) _ | with_reducible refine KB.alloc ?_ _ (by (try simp) <;> omega)))
      have hr : w1.heap[w.heap.size]? = some (.cells #[.int .u8 0, .slice none 0 0, .int .u8 0, .int .i64 0, .int .i64 0, .int .i64 0, .slice none 0 0, .int .i64 0] 36 (0, 0)) := ObjRow.keep k (by repeat (first | with_reducible exact HNONE.out | with_reducible refine row_other ?_ (by omega) _ | with_reducible apply row8_1 | with_reducible apply row8_2 | with_reducible apply row8_3 | with_reducible apply row8_4 | with_reducible apply row8_5 | with_reducible apply row8_6 | with_reducible apply row8_7 | with_reducible exact row_new _ _ _ (by simp) | with_reducible refine row_alloc ?_ _)) (by (try simp) <;> omega) (by omega)
      have Hhr := Lib.hid hr
      obtain ⟨z0, z1, z2, z3, z4, z5, z6, z7⟩ := eight_cells hr
      obtain ⟨g0, g1, g2, g3, g4, g5, g6, g7⟩ := eight_frozen hr
      clear hr
      have HK1 := Lib.hid kk
      have HP1 := Lib.hid P
      clear k P h kk
      go_wp2_with (fail)
      go_at_call 85
      refine (cp_lit pb ⟨#[59]⟩ (by simp [go_sem]) r1 en _ (by repeat (first | with_reducible exact HP1.out | with_reducible refine PSt.setNew ?_ (by omega) _ | with_reducible refine PSt.kept ?_ (World.grownBy_alloc _ _ none) (by simp)))).mono ?_
      rw [hq2]
      rintro e w2 h
      obtain ⟨k, P, v, rfl, rfl⟩ := h.ok
      have hz2 := k.size
      try simp at hz2
      have kk : KB w.heap.size pb w w2 := by refine KB.trans ?_ (k.mono (by (try simp) <;> omega)); (repeat (first | with_reducible exact HK1.out | with_reducible refine KB.setNew ?_ (by omega) _ | with_reducible refine KB.alloc ?_ _ (by (try simp) <;> omega)))
      have hr : w2.heap[w.heap.size]? = some (.cells #[.int .u8 0, .slice none 0 0, .int .u8 0, .int .i64 0, .int .i64 0, .int .i64 0, .slice none 0 0, .int .i64 0] 36 (0, 0)) := ObjRow.keep k (by repeat (first | with_reducible exact Hhr.out | with_reducible refine row_other ?_ (by omega) _ | with_reducible apply row8_1 | with_reducible apply row8_2 | with_reducible apply row8_3 | with_reducible apply row8_4 | with_reducible apply row8_5 | with_reducible apply row8_6 | with_reducible apply row8_7 | with_reducible exact row_new _ _ _ (by simp) | with_reducible refine row_alloc ?_ _)) (by (try simp) <;> omega) (by omega)
      have Hhr := Lib.hid hr
      have hc : w2.heap[w1.heap.size]? = some (.cells #[.int .u8 kk0, .slice none 0 0, .int .u8 0, .int .i64 0, .int .i64 n1, .int .i64 0, .slice none 0 0, .int .i64 0] 36 (0, 0)) := ObjRow.keep k (by repeat (first | with_reducible exact HNONE.out | with_reducible refine row_other ?_ (by omega) _ | with_reducible apply row8_1 | with_reducible apply row8_2 | with_reducible apply row8_3 | with_reducible apply row8_4 | with_reducible apply row8_5 | with_reducible apply row8_6 | with_reducible apply row8_7 | with_reducible exact row_new _ _ _ (by simp) | with_reducible refine row_alloc ?_ _)) (by (try simp) <;> omega) (by omega)
      have Hhc := Lib.hid hc
      obtain ⟨c0, c1, c2, c3, c4, c5, c6, c7⟩ := eight_cells hc
      obtain ⟨f0, f1, f2, f3, f4, f5, f6, f7⟩ := eight_frozen hc
      clear hc
      obtain ⟨z0, z1, z2, z3, z4, z5, z6, z7⟩ := eight_cells hr
      obtain ⟨g0, g1, g2, g3, g4, g5, g6, g7⟩ := eight_frozen hr
      clear hr
      have HK2 := Lib.hid kk
      have HP2 := Lib.hid P
      clear k P h kk
      go_wp2_with (fail)
      refine ret8 (i := 4) (b := w.heap.size) rfl rfl rfl (row_store8 (by repeat (first | with_reducible exact Hhr.out | with_reducible refine row_other ?_ (by omega) _ | with_reducible apply row8_1 | with_reducible apply row8_2 | with_reducible apply row8_3 | with_reducible apply row8_4 | with_reducible apply row8_5 | with_reducible apply row8_6 | with_reducible apply row8_7 | with_reducible exact row_new _ _ _ (by simp) | with_reducible refine row_alloc ?_ _)) (.int .u8 kk0) (.slice none 0 0) (.int .u8 0) (.int .i64 0) (.int .i64 n1) (.int .i64 0) (.slice none 0 0) (.int .i64 0)) ⟨?_, ?_, _, rfl, _, _, rfl, ?_, ClSl.nil _ _⟩
      · (repeat (first | with_reducible exact HK2.out | with_reducible refine KB.setNew ?_ (by omega) _ | with_reducible refine KB.alloc ?_ _ (by (try simp) <;> omega)))
      · exact (by repeat (first | with_reducible exact HP2.out | with_reducible refine PSt.setNew ?_ (by omega) _ | with_reducible refine PSt.kept ?_ (World.grownBy_alloc _ _ none) (by simp)))
      · exact StrSl.nil _ _

set_option maxHeartbeats 20000000 in
theorem cp_spread (pb : Nat) (l : List Tok) (en : Int) (w : World) (h : PSt w pb l en) :
    Calls Tryz.prog 103 #[.pointer (some ⟨pb, 0, none⟩)] w (RdPost pb en w (ClV w.heap.size) (pSpread l)) := by
  have hlt := h.lt
  have HP0 := Lib.hid h
  have HK0 := Lib.hid (KB.refl w.heap.size pb w)
  clear h
  unfold pSpread
  cases hq1 : pNum l with
  | error r1 =>
    go_enter Tryz.func103, Tryz.ntmps103
    go_wp2_with (fail)
    go_at_call 88
    refine (cp_num pb l en _ (by repeat (first | with_reducible exact HP0.out | with_reducible refine PSt.setNew ?_ (by omega) _ | with_reducible refine PSt.kept ?_ (World.grownBy_alloc _ _ none) (by simp)))).mono ?_
    rw [hq1]
    rintro e w1 h
    obtain ⟨k, P, rfl⟩ := h.error
    have hz1 := k.size
    try simp at hz1
    have kk : KB w.heap.size pb w w1 := by refine KB.trans ?_ (k.mono (by (try simp) <;> omega)); (repeat (first | with_reducible exact HK0.out | with_reducible refine KB.setNew ?_ (by omega) _ | with_reducible refine KB.alloc ?_ _ (by (try simp) <;> omega)))
    go_wp2_with (fail)
    exact ⟨rfl, kk, P, rfl⟩
  | ok y =>
    obtain ⟨n1, r1⟩ := y
    simp only [bindR]
    cases hq2 : pLit ⟨#[112, 101, 114]⟩ r1 with
    | error r2 =>
      go_enter Tryz.func103, Tryz.ntmps103
      go_wp2_with (fail)
      go_at_call 88
      refine (cp_num pb l en _ (by repeat (first | with_reducible exact HP0.out | with_reducible refine PSt.setNew ?_ (by omega) _ | with_reducible refine PSt.kept ?_ (World.grownBy_alloc _ _ none) (by simp)))).mono ?_
      rw [hq1]
      rintro e w1 h
      obtain ⟨k, P, v, rfl, rfl⟩ := h.ok
      have hz1 := k.size
      try simp at hz1
      have kk : KB w.heap.size pb w w1 := by refine KB.trans ?_ (k.mono (by (try simp) <;> omega)); (repeat (first | with_reducible exact HK0.out | with_reducible refine KB.setNew ?_ (by omega) _ | with_reducible refine KB.alloc ?_ _ (by (try simp) <;> omega)))
      have hr : w1.heap[w.heap.size]? = some (.cells #[.int .u8 0, .slice none 0 0, .int .u8 0, .int .i64 0, .int .i64 0, .int .i64 0, .slice none 0 0, .int .i64 0] 36 (0, 0)) := ObjRow.keep k (by repeat (first | with_reducible exact HNONE.out | with_reducible refine row_other ?_ (by omega) _ | with_reducible apply row8_1 | with_reducible apply row8_2 | with_reducible apply row8_3 | with_reducible apply row8_4 | with_reducible apply row8_5 | with_reducible apply row8_6 | with_reducible apply row8_7 | with_reducible exact row_new _ _ _ (by simp) | with_reducible refine row_alloc ?_ _)) (by (try simp) <;> omega) (by omega)
      have Hhr := Lib.hid hr
      obtain ⟨z0, z1, z2, z3, z4, z5, z6, z7⟩ := eight_cells hr
      obtain ⟨g0, g1, g2, g3, g4, g5, g6, g7⟩ := eight_frozen hr
      clear hr
      have HK1 := Lib.hid kk
      have HP1 := Lib.hid P
      clear k P h kk
      go_wp2_with (fail)
      go_at_call 85
      refine (cp_lit pb ⟨#[112, 101, 114]⟩ (by simp [go_sem]) r1 en _ (by repeat (first | with_reducible exact HP1.out | with_reducible refine PSt.setNew ?_ (by omega) _ | with_reducible refine PSt.kept ?_ (World.grownBy_alloc _ _ none) (by simp)))).mono ?_
      rw [hq2]
      rintro e w2 h
      obtain ⟨k, P, rfl⟩ := h.error
      have hz2 := k.size
      try simp at hz2
      have kk : KB w.heap.size pb w w2 := by refine KB.trans ?_ (k.mono (by (try simp) <;> omega)); (repeat (first | with_reducible exact HK1.out | with_reducible refine KB.setNew ?_ (by omega) _ | with_reducible refine KB.alloc ?_ _ (by (try simp) <;> omega)))
      go_wp2_with (fail)
      exact ⟨rfl, kk, P, rfl⟩
    | ok y =>
      obtain ⟨_, r2⟩ := y
      simp only [bindR]
      cases hq3 : pScope r2 with
      | error r3 =>
        go_enter Tryz.func103, Tryz.ntmps103
        go_wp2_with (fail)
        go_at_call 88
        refine (cp_num pb l en _ (by repeat (first | with_reducible exact HP0.out | with_reducible refine PSt.setNew ?_ (by omega) _ | with_reducible refine PSt.kept ?_ (World.grownBy_alloc _ _ none) (by simp)))).mono ?_
        rw [hq1]
        rintro e w1 h
        obtain ⟨k, P, v, rfl, rfl⟩ := h.ok
        have hz1 := k.size
        try simp at hz1
        have kk : KB w.heap.size pb w w1 := by refine KB.trans ?_ (k.mono (by (try simp) <;> omega)); (repeat (first | with_reducible exact HK0.out | with_reducible refine KB.setNew ?_ (by omega) _ | with_reducible refine KB.alloc ?_ _ (by (try simp) <;> omega)))
        have hr : w1.heap[w.heap.size]? = some (.cells #[.int .u8 0, .slice none 0 0, .int .u8 0, .int .i64 0, .int .i64 0, .int .i64 0, .slice none 0 0, .int .i64 0] 36 (0, 0)) := ObjRow.keep k (by repeat (first | with_reducible exact HNONE.out | with_reducible refine row_other ?_ (by omega) _ | with_reducible apply row8_1 | with_reducible apply row8_2 | with_reducible apply row8_3 | with_reducible apply row8_4 | with_reducible apply row8_5 | with_reducible apply row8_6 | with_reducible apply row8_7 | with_reducible exact row_new _ _ _ (by simp) | with_reducible refine row_alloc ?_ _)) (by (try simp) <;> omega) (by omega)
        have Hhr := Lib.hid hr
        obtain ⟨z0, z1, z2, z3, z4, z5, z6, z7⟩ := eight_cells hr
        obtain ⟨g0, g1, g2, g3, g4, g5, g6, g7⟩ := eight_frozen hr
        clear hr
        have HK1 := Lib.hid kk
        have HP1 := Lib.hid P
        clear k P h kk
        go_wp2_with (fail)
        go_at_call 85
        refine (cp_lit pb ⟨#[112, 101, 114]⟩ (by simp [go_sem]) r1 en _ (by repeat (first | with_reducible exact HP1.out | with_reducible refine PSt.setNew ?_ (by omega) _ | with_reducible refine PSt.kept ?_ (World.grownBy_alloc _ _ none) (by simp)))).mono ?_
        rw [hq2]
        rintro e w2 h
        obtain ⟨k, P, v, rfl, rfl⟩ := h.ok
        have hz2 := k.size
        try simp at hz2
        have kk : KB w.heap.size pb w w2 := by refine KB.trans ?_ (k.mono (by (try simp) <;> omega)); (repeat (first | with_reducible exact HK1.out | with_reducible refine KB.setNew ?_ (by omega) _ | with_reducible refine KB.alloc ?_ _ (by (try simp) <;> omega)))
        have hr : w2.heap[w.heap.size]? = some (.cells #[.int .u8 0, .slice none 0 0, .int .u8 0, .int .i64 0, .int .i64 0, .int .i64 0, .slice none 0 0, .int .i64 0] 36 (0, 0)) := ObjRow.keep k (by repeat (first | with_reducible exact Hhr.out | with_reducible refine row_other ?_ (by omega) _ | with_reducible apply row8_1 | with_reducible apply row8_2 | with_reducible apply row8_3 | with_reducible apply row8_4 | with_reducible apply row8_5 | with_reducible apply row8_6 | with_reducible apply row8_7 | with_reducible exact row_new _ _ _ (by simp) | with_reducible refine row_alloc ?_ _)) (by (try simp) <;> omega) (by omega)
        have Hhr := Lib.hid hr
        have hc : w2.heap[w1.heap.size]? = some (.cells #[.int .u8 9, .slice none 0 0, .int .u8 0, .int .i64 0, .int .i64 n1, .int .i64 0, .slice none 0 0, .int .i64 0] 36 (0, 0)) := ObjRow.keep k (by repeat (first | with_reducible exact HNONE.out | with_reducible refine row_other ?_ (by omega) _ | with_reducible apply row8_1 | with_reducible apply row8_2 | with_reducible apply row8_3 | with_reducible apply row8_4 | with_reducible apply row8_5 | with_reducible apply row8_6 | with_reducible apply row8_7 | with_reducible exact row_new _ _ _ (by simp) | with_reducible refine row_alloc ?_ _)) (by (try simp) <;> omega) (by omega)
        have Hhc := Lib.hid hc
        obtain ⟨c0, c1, c2, c3, c4, c5, c6, c7⟩ := eight_cells hc
        obtain ⟨f0, f1, f2, f3, f4, f5, f6, f7⟩ := eight_frozen hc
        clear hc
        obtain ⟨z0, z1, z2, z3, z4, z5, z6, z7⟩ := eight_cells hr
        obtain ⟨g0, g1, g2, g3, g4, g5, g6, g7⟩ := eight_frozen hr
        clear hr
        have HK2 := Lib.hid kk
        have HP2 := Lib.hid P
        clear k P h kk
        go_wp2_with (fail)
        go_at_call 107
        refine (cp_scope pb r2 en _ (by repeat (first | with_reducible exact HP2.out | with_reducible refine PSt.setNew ?_ (by omega) _ | with_reducible refine PSt.kept ?_ (World.grownBy_alloc _ _ none) (by simp)))).mono ?_
        rw [hq3]
        rintro e w3 h
        obtain ⟨k, P, rfl⟩ := h.error
        have hz3 := k.size
        try simp at hz3
        have kk : KB w.heap.size pb w w3 := by refine KB.trans ?_ (k.mono (by (try simp) <;> omega)); (repeat (first | with_reducible exact HK2.out | with_reducible refine KB.setNew ?_ (by omega) _ | with_reducible refine KB.alloc ?_ _ (by (try simp) <;> omega)))
        go_wp2_with (fail)
        exact ⟨rfl, kk, P, rfl⟩
      | ok y =>
        obtain ⟨d3, r3⟩ := y
        simp only [bindR]
        cases hq4 : pLit ⟨#[59]⟩ r3 with
        | error r4 =>
          go_enter Tryz.func103, Tryz.ntmps103
          go_wp2_with (fail)
          go_at_call 88
          refine (cp_num pb l en _ (by repeat (first | with_reducible exact HP0.out | with_reducible refine PSt.setNew ?_ (by omega) _ | with_reducible refine PSt.kept ?_ (World.grownBy_alloc _ _ none) (by simp)))).mono ?_
          rw [hq1]
          rintro e w1 h
          obtain ⟨k, P, v, rfl, rfl⟩ := h.ok
          have hz1 := k.size
          try simp at hz1
          have kk : KB w.heap.size pb w w1 := by refine KB.trans ?_ (k.mono (by (try simp) <;> omega)); (repeat (first | with_reducible exact HK0.out | with_reducible refine KB.setNew ?_ (by omega) _ | with_reducible refine KB.alloc ?_ _ (by (try simp) <;> omega)))
          have hr : w1.heap[w.heap.size]? = some (.cells #[.int .u8 0, .slice none 0 0, .int .u8 0, .int .i64 0, .int .i64 0, .int .i64 0, .slice none 0 0, .int .i64 0] 36 (0, 0)) := ObjRow.keep k (by repeat (first | with_reducible exact HNONE.out | with_reducible refine row_other ?_ (by omega) _ | with_reducible apply row8_1 | with_reducible apply row8_2 | with_reducible apply row8_3 | with_reducible apply row8_4 | with_reducible apply row8_5 | with_reducible apply row8_6 | with_reducible apply row8_7 | with_reducible exact row_new _ _ _ (by simp) | with_reducible refine row_alloc ?_ _)) (by (try simp) <;> omega) (by omega)
          have Hhr := Lib.hid hr
          obtain ⟨z0, z1, z2, z3, z4, z5, z6, z7⟩ := eight_cells hr
          obtain ⟨g0, g1, g2, g3, g4, g5, g6, g7⟩ := eight_frozen hr
          clear hr
          have HK1 := Lib.hid kk
          have HP1 := Lib.hid P
          clear k P h kk
          go_wp2_with (fail)
          go_at_call 85
          refine (cp_lit pb ⟨#[112, 101, 114]⟩ (by simp [go_sem]) r1 en _ (by repeat (first | with_reducible exact HP1.out | with_reducible refine PSt.setNew ?_ (by omega) _ | with_reducible refine PSt.kept ?_ (World.grownBy_alloc _ _ none) (by simp)))).mono ?_
          rw [hq2]
          rintro e w2 h
          obtain ⟨k, P, v, rfl, rfl⟩ := h.ok
          have hz2 := k.size
          try simp at hz2
          have kk : KB w.heap.size pb w w2 := by refine KB.trans ?_ (k.mono (by (try simp) <;> omega)); (repeat (first | with_reducible exact HK1.out | with_reducible refine KB.setNew ?_ (by omega) _ | with_reducible refine KB.alloc ?_ _ (by (try simp) <;> omega)))
          have hr : w2.heap[w.heap.size]? = some (.cells #[.int .u8 0, .slice none 0 0, .int .u8 0, .int .i64 0, .int .i64 0, .int .i64 0, .slice none 0 0, .int .i64 0] 36 (0, 0)) := ObjRow.keep k (by repeat (first | with_reducible exact Hhr.out | with_reducible refine row_other ?_ (by omega) _ | with_reducible apply row8_1 | with_reducible apply row8_2 | with_reducible apply row8_3 | with_reducible apply row8_4 | with_reducible apply row8_5 | with_reducible apply row8_6 | with_reducible apply row8_7 | with_reducible exact row_new _ _ _ (by simp) | with_reducible refine row_alloc ?_ _)) (by (try simp) <;> omega) (by omega)
          have Hhr := Lib.hid hr
          have hc : w2.heap[w1.heap.size]? = some (.cells #[.int .u8 9, .slice none 0 0, .int .u8 0, .int .i64 0, .int .i64 n1, .int .i64 0, .slice none 0 0, .int .i64 0] 36 (0, 0)) := ObjRow.keep k (by repeat (first | with_reducible exact HNONE.out | with_reducible refine row_other ?_ (by omega) _ | with_reducible apply row8_1 | with_reducible apply row8_2 | with_reducible apply row8_3 | with_reducible apply row8_4 | with_reducible apply row8_5 | with_reducible apply row8_6 | with_reducible apply row8_7 | with_reducible exact row_new _ _ _ (by simp) | with_reducible refine row_alloc ?_ _)) (by (try simp) <;> omega) (by omega)
          have Hhc := Lib.hid hc
          obtain ⟨c0, c1, c2, c3, c4, c5, c6, c7⟩ := eight_cells hc
          obtain ⟨f0, f1, f2, f3, f4, f5, f6, f7⟩ := eight_frozen hc
          clear hc
          obtain ⟨z0, z1, z2, z3, z4, z5, z6, z7⟩ := eight_cells hr
          obtain ⟨g0, g1, g2, g3, g4, g5, g6, g7⟩ := eight_frozen hr
          clear hr
          have HK2 := Lib.hid kk
          have HP2 := Lib.hid P
          clear k P h kk
          go_wp2_with (fail)
          go_at_call 107
          refine (cp_scope pb r2 en _ (by repeat (first | with_reducible exact HP2.out | with_reducible refine PSt.setNew ?_ (by omega) _ | with_reducible refine PSt.kept ?_ (World.grownBy_alloc _ _ none) (by simp)))).mono ?_
          rw [hq3]
          rintro e w3 h
          obtain ⟨k, P, v, rfl, rfl⟩ := h.ok
          have hz3 := k.size
          try simp at hz3
          have kk : KB w.heap.size pb w w3 := by refine KB.trans ?_ (k.mono (by (try simp) <;> omega)); (repeat (first | with_reducible exact HK2.out | with_reducible refine KB.setNew ?_ (by omega) _ | with_reducible refine KB.alloc ?_ _ (by (try simp) <;> omega)))
          have hr : w3.heap[w.heap.size]? = some (.cells #[.int .u8 0, .slice none 0 0, .int .u8 0, .int .i64 0, .int .i64 0, .int .i64 0, .slice none 0 0, .int .i64 0] 36 (0, 0)) := ObjRow.keep k (by repeat (first | with_reducible exact Hhr.out | with_reducible refine row_other ?_ (by omega) _ | with_reducible apply row8_1 | with_reducible apply row8_2 | with_reducible apply row8_3 | with_reducible apply row8_4 | with_reducible apply row8_5 | with_reducible apply row8_6 | with_reducible apply row8_7 | with_reducible exact row_new _ _ _ (by simp) | with_reducible refine row_alloc ?_ _)) (by (try simp) <;> omega) (by omega)
          have Hhr := Lib.hid hr
          have hc : w3.heap[w1.heap.size]? = some (.cells #[.int .u8 9, .slice none 0 0, .int .u8 0, .int .i64 0, .int .i64 n1, .int .i64 0, .slice none 0 0, .int .i64 0] 36 (0, 0)) := ObjRow.keep k (by repeat (first | with_reducible exact Hhc.out | with_reducible refine row_other ?_ (by omega) _ | with_reducible apply row8_1 | with_reducible apply row8_2 | with_reducible apply row8_3 | with_reducible apply row8_4 | with_reducible apply row8_5 | with_reducible apply row8_6 | with_reducible apply row8_7 | with_reducible exact row_new _ _ _ (by simp) | with_reducible refine row_alloc ?_ _)) (by (try simp) <;> omega) (by omega)
          have Hhc := Lib.hid hc
          obtain ⟨c0, c1, c2, c3, c4, c5, c6, c7⟩ := eight_cells hc
          obtain ⟨f0, f1, f2, f3, f4, f5, f6, f7⟩ := eight_frozen hc
          clear hc
          obtain ⟨z0, z1, z2, z3, z4, z5, z6, z7⟩ := eight_cells hr
          obtain ⟨g0, g1, g2, g3, g4, g5, g6, g7⟩ := eight_frozen hr
          clear hr
          have HK3 := Lib.hid kk
          have HP3 := Lib.hid P
          clear k P h kk
          go_wp2_with (fail)
          go_at_call 85
          refine (cp_lit pb ⟨#[59]⟩ (by simp [go_sem]) r3 en _ (by repeat (first | with_reducible exact HP3.out | with_reducible refine PSt.setNew ?_ (by omega) _ | with_reducible refine PSt.kept ?_ (World.grownBy_alloc _ _ none) (by simp)))).mono ?_
          rw [hq4]
          rintro e w4 h
          obtain ⟨k, P, rfl⟩ := h.error
          have hz4 := k.size
          try simp at hz4
          have kk : KB w.heap.size pb w w4 := by refine KB.trans ?_ (k.mono (by (try simp) <;> omega)); (repeat (first | with_reducible exact HK3.out | with_reducible refine KB.setNew ?_ (by omega) _ | with_reducible refine KB.alloc ?_ _ (by (try simp) <;> omega)))
          go_wp2_with (fail)
          exact ⟨rfl, kk, P, rfl⟩
        | ok y =>
          obtain ⟨_, r4⟩ := y
          simp only [bindR]
          go_enter Tryz.func103, Tryz.ntmps103
          go_wp2_with (fail)
          go_at_call 88
          refine (cp_num pb l en _ (by repeat (first | with_reducible exact HP0.out | with_reducible refine PSt.setNew ?_ (by omega) _ | with_reducible refine PSt.kept ?_ (World.grownBy_alloc _ _ none) (by simp)))).mono ?_
          rw [hq1]
          rintro e w1 h
          obtain ⟨k, P, v, rfl, rfl⟩ := h.ok
          have hz1 := k.size
          try simp at hz1
          have kk : KB w.heap.size pb w w1 := by refine KB.trans ?_ (k.mono (by (try simp) <;> omega)); (repeat (first | with_reducible exact HK0.out | with_reducible refine KB.setNew ?_ (by omega) _ | with_reducible refine KB.alloc ?_ _ (by (try simp) <;> omega)))
          have hr : w1.heap[w.heap.size]? = some (.cells #[.int .u8 0, .slice none 0 0, .int .u8 0, .int .i64 0, .int .i64 0, .int .i64 0, .slice none 0 0, .int .i64 0] 36 (0, 0)) := ObjRow.keep k (by repeat (first | with_reducible exact HNONE.out | with_reducible refine row_other ?_ (by omega) _ | with_reducible apply row8_1 | with_reducible apply row8_2 | with_reducible apply row8_3 | with_reducible apply row8_4 | with_reducible apply row8_5 | with_reducible apply row8_6 | with_reducible apply row8_7 | with_reducible exact row_new _ _ _ (by simp) | with_reducible refine row_alloc ?_ _)) (by (try simp) <;> omega) (by omega)
          have Hhr := Lib.hid hr
          obtain ⟨z0, z1, z2, z3, z4, z5, z6, z7⟩ := eight_cells hr
          obtain ⟨g0, g1, g2, g3, g4, g5, g6, g7⟩ := eight_frozen hr
          clear hr
          have HK1 := Lib.hid kk
          have HP1 := Lib.hid P
          clear k P h kk
          go_wp2_with (fail)
          go_at_call 85
          refine (cp_lit pb ⟨#[112, 101, 114]⟩ (by simp [go_sem]) r1 en _ (by repeat (first | with_reducible exact HP1.out | with_reducible refine PSt.setNew ?_ (by omega) _ | with_reducible refine PSt.kept ?_ (World.grownBy_alloc _ _ none) (by simp)))).mono ?_
          rw [hq2]
          rintro e w2 h
          obtain ⟨k, P, v, rfl, rfl⟩ := h.ok
          have hz2 := k.size
          try simp at hz2
          have kk : KB w.heap.size pb w w2 := by refine KB.trans ?_ (k.mono (by (try simp) <;> omega)); (repeat (first | with_reducible exact HK1.out | with_reducible refine KB.setNew ?_ (by omega) _ | with_reducible refine KB.alloc ?_ _ (by (try simp) <;> omega)))
          have hr : w2.heap[w.heap.size]? = some (.cells #[.int .u8 0, .slice none 0 0, .int .u8 0, .int .i64 0, .int .i64 0, .int .i64 0, .slice none 0 0, .int .i64 0] 36 (0, 0)) := ObjRow.keep k (by repeat (first | with_reducible exact Hhr.out | with_reducible refine row_other ?_ (by omega) _ | with_reducible apply row8_1 | with_reducible apply row8_2 | with_reducible apply row8_3 | with_reducible apply row8_4 | with_reducible apply row8_5 | with_reducible apply row8_6 | with_reducible apply row8_7 | with_reducible exact row_new _ _ _ (by simp) | with_reducible refine row_alloc ?_ _)) (by (try simp) <;> omega) (by omega)
          have Hhr := Lib.hid hr
          have hc : w2.heap[w1.heap.size]? = some (.cells #[.int .u8 9, .slice none 0 0, .int .u8 0, .int .i64 0, .int .i64 n1, .int .i64 0, .slice none 0 0, .int .i64 0] 36 (0, 0)) := ObjRow.keep k (by repeat (first | with_reducible exact HNONE.out | with_reducible refine row_other ?_ (by omega) _ | with_reducible apply row8_1 | with_reducible apply row8_2 | with_reducible apply row8_3 | with_reducible apply row8_4 | with_reducible apply row8_5 | with_reducible apply row8_6 | with_reducible apply row8_7 | with_reducible exact row_new _ _ _ (by simp) | with_reducible refine row_alloc ?_ _)) (by (try simp) <;> omega) (by omega)
          have Hhc := Lib.hid hc
          obtain ⟨c0, c1, c2, c3, c4, c5, c6, c7⟩ := eight_cells hc
          obtain ⟨f0, f1, f2, f3, f4, f5, f6, f7⟩ := eight_frozen hc
          clear hc
          obtain ⟨z0, z1, z2, z3, z4, z5, z6, z7⟩ := eight_cells hr
          obtain ⟨g0, g1, g2, g3, g4, g5, g6, g7⟩ := eight_frozen hr
          clear hr
          have HK2 := Lib.hid kk
          have HP2 := Lib.hid P
          clear k P h kk
          go_wp2_with (fail)
          go_at_call 107
          refine (cp_scope pb r2 en _ (by repeat (first | with_reducible exact HP2.out | with_reducible refine PSt.setNew ?_ (by omega) _ | with_reducible refine PSt.kept ?_ (World.grownBy_alloc _ _ none) (by simp)))).mono ?_
          rw [hq3]
          rintro e w3 h
          obtain ⟨k, P, v, rfl, rfl⟩ := h.ok
          have hz3 := k.size
          try simp at hz3
          have kk : KB w.heap.size pb w w3 := by refine KB.trans ?_ (k.mono (by (try simp) <;> omega)); (repeat (first | with_reducible exact HK2.out | with_reducible refine KB.setNew ?_ (by omega) _ | with_reducible refine KB.alloc ?_ _ (by (try simp) <;> omega)))
          have hr : w3.heap[w.heap.size]? = some (.cells #[.int .u8 0, .slice none 0 0, .int .u8 0, .int .i64 0, .int .i64 0, .int .i64 0, .slice none 0 0, .int .i64 0] 36 (0, 0)) := ObjRow.keep k (by repeat (first | with_reducible exact Hhr.out | with_reducible refine row_other ?_ (by omega) _ | with_reducible apply row8_1 | with_reducible apply row8_2 | with_reducible apply row8_3 | with_reducible apply row8_4 | with_reducible apply row8_5 | with_reducible apply row8_6 | with_reducible apply row8_7 | with_reducible exact row_new _ _ _ (by simp) | with_reducible refine row_alloc ?_ _)) (by (try simp) <;> omega) (by omega)
          have Hhr := Lib.hid hr
          have hc : w3.heap[w1.heap.size]? = some (.cells #[.int .u8 9, .slice none 0 0, .int .u8 0, .int .i64 0, .int .i64 n1, .int .i64 0, .slice none 0 0, .int .i64 0] 36 (0, 0)) := ObjRow.keep k (by repeat (first | with_reducible exact Hhc.out | with_reducible refine row_other ?_ (by omega) _ | with_reducible apply row8_1 | with_reducible apply row8_2 | with_reducible apply row8_3 | with_reducible apply row8_4 | with_reducible apply row8_5 | with_reducible apply row8_6 | with_reducible apply row8_7 | with_reducible exact row_new _ _ _ (by simp) | with_reducible refine row_alloc ?_ _)) (by (try simp) <;> omega) (by omega)
          have Hhc := Lib.hid hc
          obtain ⟨c0, c1, c2, c3, c4, c5, c6, c7⟩ := eight_cells hc
          obtain ⟨f0, f1, f2, f3, f4, f5, f6, f7⟩ := eight_frozen hc
          clear hc
          obtain ⟨z0, z1, z2, z3, z4, z5, z6, z7⟩ := eight_cells hr
          obtain ⟨g0, g1, g2, g3, g4, g5, g6, g7⟩ := eight_frozen hr
          clear hr
          have HK3 := Lib.hid kk
          have HP3 := Lib.hid P
          clear k P h kk
          go_wp2_with (fail)
          go_at_call 85
          refine (cp_lit pb ⟨#[59]⟩ (by simp [go_sem]) r3 en _ (by repeat (first | with_reducible exact HP3.out | with_reducible refine PSt.setNew ?_ (by omega) _ | with_reducible refine PSt.kept ?_ (World.grownBy_alloc _ _ none) (by simp)))).mono ?_
          rw [hq4]
          rintro e w4 h
          obtain ⟨k, P, v, rfl, rfl⟩ := h.ok
          have hz4 := k.size
          try simp at hz4
          have kk : KB w.heap.size pb w w4 := by refine KB.trans ?_ (k.mono (by (try simp) <;> omega)); (repeat (first | with_reducible exact HK3.out | with_reducible refine KB.setNew ?_ (by omega) _ | with_reducible refine KB.alloc ?_ _ (by (try simp) <;> omega)))
          have hr : w4.heap[w.heap.size]? = some (.cells #[.int .u8 0, .slice none 0 0, .int .u8 0, .int .i64 0, .int .i64 0, .int .i64 0, .slice none 0 0, .int .i64 0] 36 (0, 0)) := ObjRow.keep k (by repeat (first | with_reducible exact Hhr.out | with_reducible refine row_other ?_ (by omega) _ | with_reducible apply row8_1 | with_reducible apply row8_2 | with_reducible apply row8_3 | with_reducible apply row8_4 | with_reducible apply row8_5 | with_reducible apply row8_6 | with_reducible apply row8_7 | with_reducible exact row_new _ _ _ (by simp) | with_reducible refine row_alloc ?_ _)) (by (try simp) <;> omega) (by omega)
          have Hhr := Lib.hid hr
          have hc : w4.heap[w1.heap.size]? = some (.cells #[.int .u8 9, .slice none 0 0, .int .u8 d3, .int .i64 0, .int .i64 n1, .int .i64 0, .slice none 0 0, .int .i64 0] 36 (0, 0)) := ObjRow.keep k (by repeat (first | with_reducible exact Hhc.out | with_reducible refine row_other ?_ (by omega) _ | with_reducible apply row8_1 | with_reducible apply row8_2 | with_reducible apply row8_3 | with_reducible apply row8_4 | with_reducible apply row8_5 | with_reducible apply row8_6 | with_reducible apply row8_7 | with_reducible exact row_new _ _ _ (by simp) | with_reducible refine row_alloc ?_ _)) (by (try simp) <;> omega) (by omega)
          have Hhc := Lib.hid hc
          obtain ⟨c0, c1, c2, c3, c4, c5, c6, c7⟩ := eight_cells hc
          obtain ⟨f0, f1, f2, f3, f4, f5, f6, f7⟩ := eight_frozen hc
          clear hc
          obtain ⟨z0, z1, z2, z3, z4, z5, z6, z7⟩ := eight_cells hr
          obtain ⟨g0, g1, g2, g3, g4, g5, g6, g7⟩ := eight_frozen hr
          clear hr
          have HK4 := Lib.hid kk
          have HP4 := Lib.hid P
          clear k P h kk
          go_wp2_with (fail)
          refine ret8 (i := 2) (b := w.heap.size) rfl rfl rfl (row_store8 (by repeat (first | with_reducible exact Hhr.out | with_reducible refine row_other ?_ (by omega) _ | with_reducible apply row8_1 | with_reducible apply row8_2 | with_reducible apply row8_3 | with_reducible apply row8_4 | with_reducible apply row8_5 | with_reducible apply row8_6 | with_reducible apply row8_7 | with_reducible exact row_new _ _ _ (by simp) | with_reducible refine row_alloc ?_ _)) (.int .u8 9) (.slice none 0 0) (.int .u8 d3) (.int .i64 0) (.int .i64 n1) (.int .i64 0) (.slice none 0 0) (.int .i64 0)) ⟨?_, ?_, _, rfl, _, _, rfl, ?_, ClSl.nil _ _⟩
          · (repeat (first | with_reducible exact HK4.out | with_reducible refine KB.setNew ?_ (by omega) _ | with_reducible refine KB.alloc ?_ _ (by (try simp) <;> omega)))
          · exact (by repeat (first | with_reducible exact HP4.out | with_reducible refine PSt.setNew ?_ (by omega) _ | with_reducible refine PSt.kept ?_ (World.grownBy_alloc _ _ none) (by simp)))
          · exact StrSl.nil _ _

set_option maxHeartbeats 20000000 in
theorem cp_near (pb : Nat) (l : List Tok) (en : Int) (w : World) (h : PSt w pb l en) :
    Calls Tryz.prog 105 #[.pointer (some ⟨pb, 0, none⟩)] w (RdPost pb en w (ClV w.heap.size) (pNear l)) := by
  have hlt := h.lt
  have HP0 := Lib.hid h
  have HK0 := Lib.hid (KB.refl w.heap.size pb w)
  clear h
  unfold pNear
  cases hq1 : pName l with
  | error r1 =>
    go_enter Tryz.func105, Tryz.ntmps105
    go_wp2_with (fail)
    go_at_call 84
    refine (cp_name pb l en _ (by repeat (first | with_reducible exact HP0.out | with_reducible refine PSt.setNew ?_ (by omega) _ | with_reducible refine PSt.kept ?_ (World.grownBy_alloc _ _ none) (by simp)))).mono ?_
    rw [hq1]
    rintro e w1 h
    obtain ⟨k, P, rfl⟩ := h.error
    have hz1 := k.size
    try simp at hz1
    have kk : KB w.heap.size pb w w1 := by refine KB.trans ?_ (k.mono (by (try simp) <;> omega)); (repeat (first | with_reducible exact HK0.out | with_reducible refine KB.setNew ?_ (by omega) _ | with_reducible refine KB.alloc ?_ _ (by (try simp) <;> omega)))
    go_wp2_with (fail)
    exact ⟨rfl, kk, P, rfl⟩
  | ok y =>
    obtain ⟨n1, r1⟩ := y
    simp only [bindR]
    cases hq2 : pLit ⟨#[119, 105, 116, 104, 105, 110]⟩ r1 with
    | error r2 =>
      go_enter Tryz.func105, Tryz.ntmps105
      go_wp2_with (fail)
      go_at_call 84
      refine (cp_name pb l en _ (by repeat (first | with_reducible exact HP0.out | with_reducible refine PSt.setNew ?_ (by omega) _ | with_reducible refine PSt.kept ?_ (World.grownBy_alloc _ _ none) (by simp)))).mono ?_
      rw [hq1]
      rintro e w1 h
      obtain ⟨k, P, v, rfl, rfl⟩ := h.ok
      have hz1 := k.size
      try simp at hz1
      have kk : KB w.heap.size pb w w1 := by refine KB.trans ?_ (k.mono (by (try simp) <;> omega)); (repeat (first | with_reducible exact HK0.out | with_reducible refine KB.setNew ?_ (by omega) _ | with_reducible refine KB.alloc ?_ _ (by (try simp) <;> omega)))
      have hr : w1.heap[w.heap.size]? = some (.cells #[.int .u8 0, .slice none 0 0, .int .u8 0, .int .i64 0, .int .i64 0, .int .i64 0, .slice none 0 0, .int .i64 0] 36 (0, 0)) := ObjRow.keep k (by repeat (first | with_reducible exact HNONE.out | with_reducible refine row_other ?_ (by omega) _ | with_reducible apply row8_1 | with_reducible apply row8_2 | with_reducible apply row8_3 | with_reducible apply row8_4 | with_reducible apply row8_5 | with_reducible apply row8_6 | with_reducible apply row8_7 | with_reducible exact row_new _ _ _ (by simp) | with_reducible refine row_alloc ?_ _)) (by (try simp) <;> omega) (by omega)
      have Hhr := Lib.hid hr
      obtain ⟨z0, z1, z2, z3, z4, z5, z6, z7⟩ := eight_cells hr
      obtain ⟨g0, g1, g2, g3, g4, g5, g6, g7⟩ := eight_frozen hr
      clear hr
      have HK1 := Lib.hid kk
      have HP1 := Lib.hid P
      clear k P h kk
      go_wp2_with (fail)
      go_at_call 85
      refine (cp_lit pb ⟨#[119, 105, 116, 104, 105, 110]⟩ (by simp [go_sem]) r1 en _ (by repeat (first | with_reducible exact HP1.out | with_reducible refine PSt.setNew ?_ (by omega) _ | with_reducible refine PSt.kept ?_ (World.grownBy_alloc _ _ none) (by simp)))).mono ?_
      rw [hq2]
      rintro e w2 h
      obtain ⟨k, P, rfl⟩ := h.error
      have hz2 := k.size
      try simp at hz2
      have kk : KB w.heap.size pb w w2 := by refine KB.trans ?_ (k.mono (by (try simp) <;> omega)); (repeat (first | with_reducible exact HK1.out | with_reducible refine KB.setNew ?_ (by omega) _ | with_reducible refine KB.alloc ?_ _ (by (try simp) <;> omega)))
      go_wp2_with (fail)
      exact ⟨rfl, kk, P, rfl⟩
    | ok y =>
      obtain ⟨_, r2⟩ := y
      simp only [bindR]
      cases hq3 : pNum r2 with
      | error r3 =>
        go_enter Tryz.func105, Tryz.ntmps105
        go_wp2_with (fail)
        go_at_call 84
        refine (cp_name pb l en _ (by repeat (first | with_reducible exact HP0.out | with_reducible refine PSt.setNew ?_ (by omega) _ | with_reducible refine PSt.kept ?_ (World.grownBy_alloc _ _ none) (by simp)))).mono ?_
        rw [hq1]
        rintro e w1 h
        obtain ⟨k, P, v, rfl, rfl⟩ := h.ok
        have hz1 := k.size
        try simp at hz1
        have kk : KB w.heap.size pb w w1 := by refine KB.trans ?_ (k.mono (by (try simp) <;> omega)); (repeat (first | with_reducible exact HK0.out | with_reducible refine KB.setNew ?_ (by omega) _ | with_reducible refine KB.alloc ?_ _ (by (try simp) <;> omega)))
        have hr : w1.heap[w.heap.size]? = some (.cells #[.int .u8 0, .slice none 0 0, .int .u8 0, .int .i64 0, .int .i64 0, .int .i64 0, .slice none 0 0, .int .i64 0] 36 (0, 0)) := ObjRow.keep k (by repeat (first | with_reducible exact HNONE.out | with_reducible refine row_other ?_ (by omega) _ | with_reducible apply row8_1 | with_reducible apply row8_2 | with_reducible apply row8_3 | with_reducible apply row8_4 | with_reducible apply row8_5 | with_reducible apply row8_6 | with_reducible apply row8_7 | with_reducible exact row_new _ _ _ (by simp) | with_reducible refine row_alloc ?_ _)) (by (try simp) <;> omega) (by omega)
        have Hhr := Lib.hid hr
        obtain ⟨z0, z1, z2, z3, z4, z5, z6, z7⟩ := eight_cells hr
        obtain ⟨g0, g1, g2, g3, g4, g5, g6, g7⟩ := eight_frozen hr
        clear hr
        have HK1 := Lib.hid kk
        have HP1 := Lib.hid P
        clear k P h kk
        go_wp2_with (fail)
        go_at_call 85
        refine (cp_lit pb ⟨#[119, 105, 116, 104, 105, 110]⟩ (by simp [go_sem]) r1 en _ (by repeat (first | with_reducible exact HP1.out | with_reducible refine PSt.setNew ?_ (by omega) _ | with_reducible refine PSt.kept ?_ (World.grownBy_alloc _ _ none) (by simp)))).mono ?_
        rw [hq2]
        rintro e w2 h
        obtain ⟨k, P, v, rfl, rfl⟩ := h.ok
        have hz2 := k.size
        try simp at hz2
        have kk : KB w.heap.size pb w w2 := by refine KB.trans ?_ (k.mono (by (try simp) <;> omega)); (repeat (first | with_reducible exact HK1.out | with_reducible refine KB.setNew ?_ (by omega) _ | with_reducible refine KB.alloc ?_ _ (by (try simp) <;> omega)))
        have hr : w2.heap[w.heap.size]? = some (.cells #[.int .u8 0, .slice none 0 0, .int .u8 0, .int .i64 0, .int .i64 0, .int .i64 0, .slice none 0 0, .int .i64 0] 36 (0, 0)) := ObjRow.keep k (by repeat (first | with_reducible exact Hhr.out | with_reducible refine row_other ?_ (by omega) _ | with_reducible apply row8_1 | with_reducible apply row8_2 | with_reducible apply row8_3 | with_reducible apply row8_4 | with_reducible apply row8_5 | with_reducible apply row8_6 | with_reducible apply row8_7 | with_reducible exact row_new _ _ _ (by simp) | with_reducible refine row_alloc ?_ _)) (by (try simp) <;> omega) (by omega)
        have Hhr := Lib.hid hr
        have hc : w2.heap[w1.heap.size + 1]? = some (.cells #[.int .u8 11, .slice (some ⟨w1.heap.size, 0, none⟩) 1 1, .int .u8 0, .int .i64 0, .int .i64 0, .int .i64 0, .slice none 0 0, .int .i64 0] 36 (0, 0)) := ObjRow.keep k (by repeat (first | with_reducible exact HNONE.out | with_reducible refine row_other ?_ (by omega) _ | with_reducible apply row8_1 | with_reducible apply row8_2 | with_reducible apply row8_3 | with_reducible apply row8_4 | with_reducible apply row8_5 | with_reducible apply row8_6 | with_reducible apply row8_7 | with_reducible exact row_new _ _ _ (by simp) | with_reducible refine row_alloc ?_ _)) (by (try simp) <;> omega) (by omega)
        have Hhc := Lib.hid hc
        obtain ⟨c0, c1, c2, c3, c4, c5, c6, c7⟩ := eight_cells hc
        obtain ⟨f0, f1, f2, f3, f4, f5, f6, f7⟩ := eight_frozen hc
        clear hc
        have hs : w2.heap[w1.heap.size]? = some (.cells #[.string n1] 9 (0, 0)) := ObjRow.keep k (by repeat (first | with_reducible exact HNONE.out | with_reducible refine row_other ?_ (by omega) _ | with_reducible apply row8_1 | with_reducible apply row8_2 | with_reducible apply row8_3 | with_reducible apply row8_4 | with_reducible apply row8_5 | with_reducible apply row8_6 | with_reducible apply row8_7 | with_reducible exact row_new _ _ _ (by simp) | with_reducible refine row_alloc ?_ _)) (by (try simp) <;> omega) (by omega)
        have Hhs := Lib.hid hs
        clear hs
        obtain ⟨z0, z1, z2, z3, z4, z5, z6, z7⟩ := eight_cells hr
        obtain ⟨g0, g1, g2, g3, g4, g5, g6, g7⟩ := eight_frozen hr
        clear hr
        have HK2 := Lib.hid kk
        have HP2 := Lib.hid P
        clear k P h kk
        go_wp2_with (fail)
        go_at_call 88
        refine (cp_num pb r2 en _ (by repeat (first | with_reducible exact HP2.out | with_reducible refine PSt.setNew ?_ (by omega) _ | with_reducible refine PSt.kept ?_ (World.grownBy_alloc _ _ none) (by simp)))).mono ?_
        rw [hq3]
        rintro e w3 h
        obtain ⟨k, P, rfl⟩ := h.error
        have hz3 := k.size
        try simp at hz3
        have kk : KB w.heap.size pb w w3 := by refine KB.trans ?_ (k.mono (by (try simp) <;> omega)); (repeat (first | with_reducible exact HK2.out | with_reducible refine KB.setNew ?_ (by omega) _ | with_reducible refine KB.alloc ?_ _ (by (try simp) <;> omega)))
        go_wp2_with (fail)
        exact ⟨rfl, kk, P, rfl⟩
      | ok y =>
        obtain ⟨n3, r3⟩ := y
        simp only [bindR]
        cases hq4 : pLit ⟨#[59]⟩ r3 with
        | error r4 =>
          go_enter Tryz.func105, Tryz.ntmps105
          go_wp2_with (fail)
          go_at_call 84
          refine (cp_name pb l en _ (by repeat (first | with_reducible exact HP0.out | with_reducible refine PSt.setNew ?_ (by omega) _ | with_reducible refine PSt.kept ?_ (World.grownBy_alloc _ _ none) (by simp)))).mono ?_
          rw [hq1]
          rintro e w1 h
          obtain ⟨k, P, v, rfl, rfl⟩ := h.ok
          have hz1 := k.size
          try simp at hz1
          have kk : KB w.heap.size pb w w1 := by refine KB.trans ?_ (k.mono (by (try simp) <;> omega)); (repeat (first | with_reducible exact HK0.out | with_reducible refine KB.setNew ?_ (by omega) _ | with_reducible refine KB.alloc ?_ _ (by (try simp) <;> omega)))
          have hr : w1.heap[w.heap.size]? = some (.cells #[.int .u8 0, .slice none 0 0, .int .u8 0, .int .i64 0, .int .i64 0, .int .i64 0, .slice none 0 0, .int .i64 0] 36 (0, 0)) := ObjRow.keep k (by repeat (first | with_reducible exact HNONE.out | with_reducible refine row_other ?_ (by omega) _ | with_reducible apply row8_1 | with_reducible apply row8_2 | with_reducible apply row8_3 | with_reducible apply row8_4 | with_reducible apply row8_5 | with_reducible apply row8_6 | with_reducible apply row8_7 | with_reducible exact row_new _ _ _ (by simp) | with_reducible refine row_alloc ?_ _)) (by (try simp) <;> omega) (by omega)
          have Hhr := Lib.hid hr
          obtain ⟨z0, z1, z2, z3, z4, z5, z6, z7⟩ := eight_cells hr
          obtain ⟨g0, g1, g2, g3, g4, g5, g6, g7⟩ := eight_frozen hr
          clear hr
          have HK1 := Lib.hid kk
          have HP1 := Lib.hid P
          clear k P h kk
          go_wp2_with (fail)
          go_at_call 85
          refine (cp_lit pb ⟨#[119, 105, 116, 104, 105, 110]⟩ (by simp [go_sem]) r1 en _ (by repeat (first | with_reducible exact HP1.out | with_reducible refine PSt.setNew ?_ (by omega) _ | with_reducible refine PSt.kept ?_ (World.grownBy_alloc _ _ none) (by simp)))).mono ?_
          rw [hq2]
          rintro e w2 h
          obtain ⟨k, P, v, rfl, rfl⟩ := h.ok
          have hz2 := k.size
          try simp at hz2
          have kk : KB w.heap.size pb w w2 := by refine KB.trans ?_ (k.mono (by (try simp) <;> omega)); (repeat (first | with_reducible exact HK1.out | with_reducible refine KB.setNew ?_ (by omega) _ | with_reducible refine KB.alloc ?_ _ (by (try simp) <;> omega)))
          have hr : w2.heap[w.heap.size]? = some (.cells #[.int .u8 0, .slice none 0 0, .int .u8 0, .int .i64 0, .int .i64 0, .int .i64 0, .slice none 0 0, .int .i64 0] 36 (0, 0)) := ObjRow.keep k (by repeat (first | with_reducible exact Hhr.out | with_reducible refine row_other ?_ (by omega) _ | with_reducible apply row8_1 | with_reducible apply row8_2 | with_reducible apply row8_3 | with_reducible apply row8_4 | with_reducible apply row8_5 | with_reducible apply row8_6 | with_reducible apply row8_7 | with_reducible exact row_new _ _ _ (by simp) | with_reducible refine row_alloc ?_ _)) (by (try simp) <;> omega) (by omega)
          have Hhr := Lib.hid hr
          have hc : w2.heap[w1.heap.size + 1]? = some (.cells #[.int .u8 11, .slice (some ⟨w1.heap.size, 0, none⟩) 1 1, .int .u8 0, .int .i64 0, .int .i64 0, .int .i64 0, .slice none 0 0, .int .i64 0] 36 (0, 0)) := ObjRow.keep k (by repeat (first | with_reducible exact HNONE.out | with_reducible refine row_other ?_ (by omega) _ | with_reducible apply row8_1 | with_reducible apply row8_2 | with_reducible apply row8_3 | with_reducible apply row8_4 | with_reducible apply row8_5 | with_reducible apply row8_6 | with_reducible apply row8_7 | with_reducible exact row_new _ _ _ (by simp) | with_reducible refine row_alloc ?_ _)) (by (try simp) <;> omega) (by omega)
          have Hhc := Lib.hid hc
          obtain ⟨c0, c1, c2, c3, c4, c5, c6, c7⟩ := eight_cells hc
          obtain ⟨f0, f1, f2, f3, f4, f5, f6, f7⟩ := eight_frozen hc
          clear hc
          have hs : w2.heap[w1.heap.size]? = some (.cells #[.string n1] 9 (0, 0)) := ObjRow.keep k (by repeat (first | with_reducible exact HNONE.out | with_reducible refine row_other ?_ (by omega) _ | with_reducible apply row8_1 | with_reducible apply row8_2 | with_reducible apply row8_3 | with_reducible apply row8_4 | with_reducible apply row8_5 | with_reducible apply row8_6 | with_reducible apply row8_7 | with_reducible exact row_new _ _ _ (by simp) | with_reducible refine row_alloc ?_ _)) (by (try simp) <;> omega) (by omega)
          have Hhs := Lib.hid hs
          clear hs
          obtain ⟨z0, z1, z2, z3, z4, z5, z6, z7⟩ := eight_cells hr
          obtain ⟨g0, g1, g2, g3, g4, g5, g6, g7⟩ := eight_frozen hr
          clear hr
          have HK2 := Lib.hid kk
          have HP2 := Lib.hid P
          clear k P h kk
          go_wp2_with (fail)
          go_at_call 88
          refine (cp_num pb r2 en _ (by repeat (first | with_reducible exact HP2.out | with_reducible refine PSt.setNew ?_ (by omega) _ | with_reducible refine PSt.kept ?_ (World.grownBy_alloc _ _ none) (by simp)))).mono ?_
          rw [hq3]
          rintro e w3 h
          obtain ⟨k, P, v, rfl, rfl⟩ := h.ok
          have hz3 := k.size
          try simp at hz3
          have kk : KB w.heap.size pb w w3 := by refine KB.trans ?_ (k.mono (by (try simp) <;> omega)); (repeat (first | with_reducible exact HK2.out | with_reducible refine KB.setNew ?_ (by omega) _ | with_reducible refine KB.alloc ?_ _ (by (try simp) <;> omega)))
          have hr : w3.heap[w.heap.size]? = some (.cells #[.int .u8 0, .slice none 0 0, .int .u8 0, .int .i64 0, .int .i64 0, .int .i64 0, .slice none 0 0, .int .i64 0] 36 (0, 0)) := ObjRow.keep k (by repeat (first | with_reducible exact Hhr.out | with_reducible refine row_other ?_ (by omega) _ | with_reducible apply row8_1 | with_reducible apply row8_2 | with_reducible apply row8_3 | with_reducible apply row8_4 | with_reducible apply row8_5 | with_reducible apply row8_6 | with_reducible apply row8_7 | with_reducible exact row_new _ _ _ (by simp) | with_reducible refine row_alloc ?_ _)) (by (try simp) <;> omega) (by omega)
          have Hhr := Lib.hid hr
          have hc : w3.heap[w1.heap.size + 1]? = some (.cells #[.int .u8 11, .slice (some ⟨w1.heap.size, 0, none⟩) 1 1, .int .u8 0, .int .i64 0, .int .i64 0, .int .i64 0, .slice none 0 0, .int .i64 0] 36 (0, 0)) := ObjRow.keep k (by repeat (first | with_reducible exact Hhc.out | with_reducible refine row_other ?_ (by omega) _ | with_reducible apply row8_1 | with_reducible apply row8_2 | with_reducible apply row8_3 | with_reducible apply row8_4 | with_reducible apply row8_5 | with_reducible apply row8_6 | with_reducible apply row8_7 | with_reducible exact row_new _ _ _ (by simp) | with_reducible refine row_alloc ?_ _)) (by (try simp) <;> omega) (by omega)
          have Hhc := Lib.hid hc
          obtain ⟨c0, c1, c2, c3, c4, c5, c6, c7⟩ := eight_cells hc
          obtain ⟨f0, f1, f2, f3, f4, f5, f6, f7⟩ := eight_frozen hc
          clear hc
          have hs : w3.heap[w1.heap.size]? = some (.cells #[.string n1] 9 (0, 0)) := ObjRow.keep k (by repeat (first | with_reducible exact Hhs.out | with_reducible refine row_other ?_ (by omega) _ | with_reducible apply row8_1 | with_reducible apply row8_2 | with_reducible apply row8_3 | with_reducible apply row8_4 | with_reducible apply row8_5 | with_reducible apply row8_6 | with_reducible apply row8_7 | with_reducible exact row_new _ _ _ (by simp) | with_reducible refine row_alloc ?_ _)) (by (try simp) <;> omega) (by omega)
          have Hhs := Lib.hid hs
          clear hs
          obtain ⟨z0, z1, z2, z3, z4, z5, z6, z7⟩ := eight_cells hr
          obtain ⟨g0, g1, g2, g3, g4, g5, g6, g7⟩ := eight_frozen hr
          clear hr
          have HK3 := Lib.hid kk
          have HP3 := Lib.hid P
          clear k P h kk
          go_wp2_with (fail)
          go_at_call 85
          refine (cp_lit pb ⟨#[59]⟩ (by simp [go_sem]) r3 en _ (by repeat (first | with_reducible exact HP3.out | with_reducible refine PSt.setNew ?_ (by omega) _ | with_reducible refine PSt.kept ?_ (World.grownBy_alloc _ _ none) (by simp)))).mono ?_
          rw [hq4]
          rintro e w4 h
          obtain ⟨k, P, rfl⟩ := h.error
          have hz4 := k.size
          try simp at hz4
          have kk : KB w.heap.size pb w w4 := by refine KB.trans ?_ (k.mono (by (try simp) <;> omega)); (repeat (first | with_reducible exact HK3.out | with_reducible refine KB.setNew ?_ (by omega) _ | with_reducible refine KB.alloc ?_ _ (by (try simp) <;> omega)))
          go_wp2_with (fail)
          exact ⟨rfl, kk, P, rfl⟩
        | ok y =>
          obtain ⟨_, r4⟩ := y
          simp only [bindR]
          go_enter Tryz.func105, Tryz.ntmps105
          go_wp2_with (fail)
          go_at_call 84
          refine (cp_name pb l en _ (by repeat (first | with_reducible exact HP0.out | with_reducible refine PSt.setNew ?_ (by omega) _ | with_reducible refine PSt.kept ?_ (World.grownBy_alloc _ _ none) (by simp)))).mono ?_
          rw [hq1]
          rintro e w1 h
          obtain ⟨k, P, v, rfl, rfl⟩ := h.ok
          have hz1 := k.size
          try simp at hz1
          have kk : KB w.heap.size pb w w1 := by refine KB.trans ?_ (k.mono (by (try simp) <;> omega)); (repeat (first | with_reducible exact HK0.out | with_reducible refine KB.setNew ?_ (by omega) _ | with_reducible refine KB.alloc ?_ _ (by (try simp) <;> omega)))
          have hr : w1.heap[w.heap.size]? = some (.cells #[.int .u8 0, .slice none 0 0, .int .u8 0, .int .i64 0, .int .i64 0, .int .i64 0, .slice none 0 0, .int .i64 0] 36 (0, 0)) := ObjRow.keep k (by repeat (first | with_reducible exact HNONE.out | with_reducible refine row_other ?_ (by omega) _ | with_reducible apply row8_1 | with_reducible apply row8_2 | with_reducible apply row8_3 | with_reducible apply row8_4 | with_reducible apply row8_5 | with_reducible apply row8_6 | with_reducible apply row8_7 | with_reducible exact row_new _ _ _ (by simp) | with_reducible refine row_alloc ?_ _)) (by (try simp) <;> omega) (by omega)
          have Hhr := Lib.hid hr
          obtain ⟨z0, z1, z2, z3, z4, z5, z6, z7⟩ := eight_cells hr
          obtain ⟨g0, g1, g2, g3, g4, g5, g6, g7⟩ := eight_frozen hr
          clear hr
          have HK1 := Lib.hid kk
          have HP1 := Lib.hid P
          clear k P h kk
          go_wp2_with (fail)
          go_at_call 85
          refine (cp_lit pb ⟨#[119, 105, 116, 104, 105, 110]⟩ (by simp [go_sem]) r1 en _ (by repeat (first | with_reducible exact HP1.out | with_reducible refine PSt.setNew ?_ (by omega) _ | with_reducible refine PSt.kept ?_ (World.grownBy_alloc _ _ none) (by simp)))).mono ?_
          rw [hq2]
          rintro e w2 h
          obtain ⟨k, P, v, rfl, rfl⟩ := h.ok
          have hz2 := k.size
          try simp at hz2
          have kk : KB w.heap.size pb w w2 := by refine KB.trans ?_ (k.mono (by (try simp) <;> omega)); (repeat (first | with_reducible exact HK1.out | with_reducible refine KB.setNew ?_ (by omega) _ | with_reducible refine KB.alloc ?_ _ (by (try simp) <;> omega)))
          have hr : w2.heap[w.heap.size]? = some (.cells #[.int .u8 0, .slice none 0 0, .int .u8 0, .int .i64 0, .int .i64 0, .int .i64 0, .slice none 0 0, .int .i64 0] 36 (0, 0)) := ObjRow.keep k (by repeat (first | with_reducible exact Hhr.out | with_reducible refine row_other ?_ (by omega) _ | with_reducible apply row8_1 | with_reducible apply row8_2 | with_reducible apply row8_3 | with_reducible apply row8_4 | with_reducible apply row8_5 | with_reducible apply row8_6 | with_reducible apply row8_7 | with_reducible exact row_new _ _ _ (by simp) | with_reducible refine row_alloc ?_ _)) (by (try simp) <;> omega) (by omega)
          have Hhr := Lib.hid hr
          have hc : w2.heap[w1.heap.size + 1]? = some (.cells #[.int .u8 11, .slice (some ⟨w1.heap.size, 0, none⟩) 1 1, .int .u8 0, .int .i64 0, .int .i64 0, .int .i64 0, .slice none 0 0, .int .i64 0] 36 (0, 0)) := ObjRow.keep k (by repeat (first | with_reducible exact HNONE.out | with_reducible refine row_other ?_ (by omega) _ | with_reducible apply row8_1 | with_reducible apply row8_2 | with_reducible apply row8_3 | with_reducible apply row8_4 | with_reducible apply row8_5 | with_reducible apply row8_6 | with_reducible apply row8_7 | with_reducible exact row_new _ _ _ (by simp) | with_reducible refine row_alloc ?_ _)) (by (try simp) <;> omega) (by omega)
          have Hhc := Lib.hid hc
          obtain ⟨c0, c1, c2, c3, c4, c5, c6, c7⟩ := eight_cells hc
          obtain ⟨f0, f1, f2, f3, f4, f5, f6, f7⟩ := eight_frozen hc
          clear hc
          have hs : w2.heap[w1.heap.size]? = some (.cells #[.string n1] 9 (0, 0)) := ObjRow.keep k (by repeat (first | with_reducible exact HNONE.out | with_reducible refine row_other ?_ (by omega) _ | with_reducible apply row8_1 | with_reducible apply row8_2 | with_reducible apply row8_3 | with_reducible apply row8_4 | with_reducible apply row8_5 | with_reducible apply row8_6 | with_reducible apply row8_7 | with_reducible exact row_new _ _ _ (by simp) | with_reducible refine row_alloc ?_ _)) (by (try simp) <;> omega) (by omega)
          have Hhs := Lib.hid hs
          clear hs
          obtain ⟨z0, z1, z2, z3, z4, z5, z6, z7⟩ := eight_cells hr
          obtain ⟨g0, g1, g2, g3, g4, g5, g6, g7⟩ := eight_frozen hr
          clear hr
          have HK2 := Lib.hid kk
          have HP2 := Lib.hid P
          clear k P h kk
          go_wp2_with (fail)
          go_at_call 88
          refine (cp_num pb r2 en _ (by repeat (first | with_reducible exact HP2.out | with_reducible refine PSt.setNew ?_ (by omega) _ | with_reducible refine PSt.kept ?_ (World.grownBy_alloc _ _ none) (by simp)))).mono ?_
          rw [hq3]
          rintro e w3 h
          obtain ⟨k, P, v, rfl, rfl⟩ := h.ok
          have hz3 := k.size
          try simp at hz3
          have kk : KB w.heap.size pb w w3 := by refine KB.trans ?_ (k.mono (by (try simp) <;> omega)); (repeat (first | with_reducible exact HK2.out | with_reducible refine KB.setNew ?_ (by omega) _ | with_reducible refine KB.alloc ?_ _ (by (try simp) <;> omega)))
          have hr : w3.heap[w.heap.size]? = some (.cells #[.int .u8 0, .slice none 0 0, .int .u8 0, .int .i64 0, .int .i64 0, .int .i64 0, .slice none 0 0, .int .i64 0] 36 (0, 0)) := ObjRow.keep k (by repeat (first | with_reducible exact Hhr.out | with_reducible refine row_other ?_ (by omega) _ | with_reducible apply row8_1 | with_reducible apply row8_2 | with_reducible apply row8_3 | with_reducible apply row8_4 | with_reducible apply row8_5 | with_reducible apply row8_6 | with_reducible apply row8_7 | with_reducible exact row_new _ _ _ (by simp) | with_reducible refine row_alloc ?_ _)) (by (try simp) <;> omega) (by omega)
          have Hhr := Lib.hid hr
          have hc : w3.heap[w1.heap.size + 1]? = some (.cells #[.int .u8 11, .slice (some ⟨w1.heap.size, 0, none⟩) 1 1, .int .u8 0, .int .i64 0, .int .i64 0, .int .i64 0, .slice none 0 0, .int .i64 0] 36 (0, 0)) := ObjRow.keep k (by repeat (first | with_reducible exact Hhc.out | with_reducible refine row_other ?_ (by omega) _ | with_reducible apply row8_1 | with_reducible apply row8_2 | with_reducible apply row8_3 | with_reducible apply row8_4 | with_reducible apply row8_5 | with_reducible apply row8_6 | with_reducible apply row8_7 | with_reducible exact row_new _ _ _ (by simp) | with_reducible refine row_alloc ?_ _)) (by (try simp) <;> omega) (by omega)
          have Hhc := Lib.hid hc
          obtain ⟨c0, c1, c2, c3, c4, c5, c6, c7⟩ := eight_cells hc
          obtain ⟨f0, f1, f2, f3, f4, f5, f6, f7⟩ := eight_frozen hc
          clear hc
          have hs : w3.heap[w1.heap.size]? = some (.cells #[.string n1] 9 (0, 0)) := ObjRow.keep k (by repeat (first | with_reducible exact Hhs.out | with_reducible refine row_other ?_ (by omega) _ | with_reducible apply row8_1 | with_reducible apply row8_2 | with_reducible apply row8_3 | with_reducible apply row8_4 | with_reducible apply row8_5 | with_reducible apply row8_6 | with_reducible apply row8_7 | with_reducible exact row_new _ _ _ (by simp) | with_reducible refine row_alloc ?_ _)) (by (try simp) <;> omega) (by omega)
          have Hhs := Lib.hid hs
          clear hs
          obtain ⟨z0, z1, z2, z3, z4, z5, z6, z7⟩ := eight_cells hr
          obtain ⟨g0, g1, g2, g3, g4, g5, g6, g7⟩ := eight_frozen hr
          clear hr
          have HK3 := Lib.hid kk
          have HP3 := Lib.hid P
          clear k P h kk
          go_wp2_with (fail)
          go_at_call 85
          refine (cp_lit pb ⟨#[59]⟩ (by simp [go_sem]) r3 en _ (by repeat (first | with_reducible exact HP3.out | with_reducible refine PSt.setNew ?_ (by omega) _ | with_reducible refine PSt.kept ?_ (World.grownBy_alloc _ _ none) (by simp)))).mono ?_
          rw [hq4]
          rintro e w4 h
          obtain ⟨k, P, v, rfl, rfl⟩ := h.ok
          have hz4 := k.size
          try simp at hz4
          have kk : KB w.heap.size pb w w4 := by refine KB.trans ?_ (k.mono (by (try simp) <;> omega)); (repeat (first | with_reducible exact HK3.out | with_reducible refine KB.setNew ?_ (by omega) _ | with_reducible refine KB.alloc ?_ _ (by (try simp) <;> omega)))
          have hr : w4.heap[w.heap.size]? = some (.cells #[.int .u8 0, .slice none 0 0, .int .u8 0, .int .i64 0, .int .i64 0, .int .i64 0, .slice none 0 0, .int .i64 0] 36 (0, 0)) := ObjRow.keep k (by repeat (first | with_reducible exact Hhr.out | with_reducible refine row_other ?_ (by omega) _ | with_reducible apply row8_1 | with_reducible apply row8_2 | with_reducible apply row8_3 | with_reducible apply row8_4 | with_reducible apply row8_5 | with_reducible apply row8_6 | with_reducible apply row8_7 | with_reducible exact row_new _ _ _ (by simp) | with_reducible refine row_alloc ?_ _)) (by (try simp) <;> omega) (by omega)
          have Hhr := Lib.hid hr
          have hc : w4.heap[w1.heap.size + 1]? = some (.cells #[.int .u8 11, .slice (some ⟨w1.heap.size, 0, none⟩) 1 1, .int .u8 0, .int .i64 0, .int .i64 n3, .int .i64 0, .slice none 0 0, .int .i64 0] 36 (0, 0)) := ObjRow.keep k (by repeat (first | with_reducible exact Hhc.out | with_reducible refine row_other ?_ (by omega) _ | with_reducible apply row8_1 | with_reducible apply row8_2 | with_reducible apply row8_3 | with_reducible apply row8_4 | with_reducible apply row8_5 | with_reducible apply row8_6 | with_reducible apply row8_7 | with_reducible exact row_new _ _ _ (by simp) | with_reducible refine row_alloc ?_ _)) (by (try simp) <;> omega) (by omega)
          have Hhc := Lib.hid hc
          obtain ⟨c0, c1, c2, c3, c4, c5, c6, c7⟩ := eight_cells hc
          obtain ⟨f0, f1, f2, f3, f4, f5, f6, f7⟩ := eight_frozen hc
          clear hc
          have hs : w4.heap[w1.heap.size]? = some (.cells #[.string n1] 9 (0, 0)) := ObjRow.keep k (by repeat (first | with_reducible exact Hhs.out | with_reducible refine row_other ?_ (by omega) _ | with_reducible apply row8_1 | with_reducible apply row8_2 | with_reducible apply row8_3 | with_reducible apply row8_4 | with_reducible apply row8_5 | with_reducible apply row8_6 | with_reducible apply row8_7 | with_reducible exact row_new _ _ _ (by simp) | with_reducible refine row_alloc ?_ _)) (by (try simp) <;> omega) (by omega)
          have Hhs := Lib.hid hs
          clear hs
          obtain ⟨z0, z1, z2, z3, z4, z5, z6, z7⟩ := eight_cells hr
          obtain ⟨g0, g1, g2, g3, g4, g5, g6, g7⟩ := eight_frozen hr
          clear hr
          have HK4 := Lib.hid kk
          have HP4 := Lib.hid P
          clear k P h kk
          go_wp2_with (fail)
          refine ret8 (i := 2) (b := w.heap.size) rfl rfl rfl (row_store8 (by repeat (first | with_reducible exact Hhr.out | with_reducible refine row_other ?_ (by omega) _ | with_reducible apply row8_1 | with_reducible apply row8_2 | with_reducible apply row8_3 | with_reducible apply row8_4 | with_reducible apply row8_5 | with_reducible apply row8_6 | with_reducible apply row8_7 | with_reducible exact row_new _ _ _ (by simp) | with_reducible refine row_alloc ?_ _)) (.int .u8 11) (.slice (some ⟨w1.heap.size, 0, none⟩) 1 1) (.int .u8 0) (.int .i64 0) (.int .i64 n3) (.int .i64 0) (.slice none 0 0) (.int .i64 0)) ⟨?_, ?_, _, rfl, _, _, rfl, ?_, ClSl.nil _ _⟩
          · (repeat (first | with_reducible exact HK4.out | with_reducible refine KB.setNew ?_ (by omega) _ | with_reducible refine KB.alloc ?_ _ (by (try simp) <;> omega)))
          · exact (by repeat (first | with_reducible exact HP4.out | with_reducible refine PSt.setNew ?_ (by omega) _ | with_reducible refine PSt.kept ?_ (World.grownBy_alloc _ _ none) (by simp)))
          · exact StrSl.one (by repeat (first | with_reducible exact Hhs.out | with_reducible refine row_other ?_ (by omega) _ | with_reducible apply row8_1 | with_reducible apply row8_2 | with_reducible apply row8_3 | with_reducible apply row8_4 | with_reducible apply row8_5 | with_reducible apply row8_6 | with_reducible apply row8_7 | with_reducible exact row_new _ _ _ (by simp) | with_reducible refine row_alloc ?_ _)) (by omega)
end Go.Proofs.YtplnnpkohdmiaaaGreatDoor
