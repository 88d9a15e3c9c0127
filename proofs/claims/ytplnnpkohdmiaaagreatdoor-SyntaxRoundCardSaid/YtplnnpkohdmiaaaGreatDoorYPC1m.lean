/-
  DERIVED. Several texts in one.
-/
import Derived.Test.YtplnnpkohdmiaaaGreatDoorYPMm
set_option linter.unusedVariables false
set_option linter.unusedSimpArgs false

/- DERIVED. The landed parser's clause at the readers: cores, replicas, least, spread. -/
namespace Go.Proofs.YtplnnpkohdmiaaaGreatDoor
open Go.RowKit
set_option maxRecDepth 100000

set_option maxHeartbeats 4000000 in
theorem cl_cores (pb mb : Nat) (tab : List (ByteArray × Value)) (htab : ∀ x ∈ tab, ∃ f, x.2 = .func (.func f) #[] #[]) (hz0 : (assocB ⟨#[]⟩ tab).isSome = false) (l r1 : List Tok) (t : Tok) (en : Int) (w : World) (h : PSt w pb l en) (hm : MapIs w mb tab) (hne : mb ≠ pb)
    (hq1 : pNext (fun t => (assocB t.text tab).isSome) l = .ok (t, r1)) (hlk : assocB t.text tab = some (.func (.func 100) #[] #[])) (R : Rd Cl)
    (hX : ∀ w1, PSt w1 pb r1 en → Calls Tryz.prog 100 #[.pointer (some ⟨pb, 0, none⟩)] w1 (RdPost pb en w1 (ClV w1.heap.size) R)) :
    Calls Tryz.prog 50 #[.pointer (some ⟨pb, 0, none⟩), .map (some mb)] w (RdPost pb en w (ClV w.heap.size) (bindR R fun c r => .ok (c.withOff t.off, r))) := by
  have hlt := h.lt
  have hml := hm.lt
  have HP0 := Lib.hid h
  have HK0 := Lib.hid (KB.refl w.heap.size pb w)
  have Hm0 := Lib.hid hm
  have Hlk := Lib.hid hlk
  have Hq1 := Lib.hid hq1
  have HX := Lib.hid hX
  clear h hm hlk hq1 hX
  obtain ⟨kd, tx, nm, off⟩ := t
  cases R with
  | error r =>
    go_enter Tryz.func50, Tryz.ntmps50
    go_wp2_with (fail)
    go_at_call 69
    refine (c_next_clause pb l en _ w.heap.size (by repeat (first | with_reducible exact HP0.out | with_reducible refine PSt.setNew ?_ (by omega) _ | with_reducible refine PSt.kept ?_ (World.grownBy_alloc _ _ none) (by simp))) (fun t => (assocB t.text tab).isSome) hz0 (fun t w1 hb => c_clause1 t w.heap.size mb tab htab w1 (one_cell ((hb.block _ (by (try simp) <;> omega)).trans (row_alloc (row_new _ _ _ rfl) _))) (Hm0.out.keep ((hb.block mb (by (try simp) <;> omega)).trans ((row_alloc_eq _ _ (by (try simp) <;> omega)).trans (row_alloc_eq _ _ hml)))))).mono ?_
    rw [Hq1.out]
    rintro e w1 h
    obtain ⟨k, P, v, rfl, rfl⟩ := h.ok
    have hz1 := k.size
    try simp at hz1
    have kk : KB w.heap.size pb w w1 := by refine KB.trans ?_ (k.mono (by (try simp) <;> omega)); (repeat (first | with_reducible exact HK0.out | with_reducible refine KB.setNew ?_ (by omega) _ | with_reducible refine KB.alloc ?_ _ (by (try simp) <;> omega)))
    have hr : w1.heap[w.heap.size + 1]? = some (.cells #[.int .u8 0, .slice none 0 0, .int .u8 0, .int .i64 0, .int .i64 0, .int .i64 0, .slice none 0 0, .int .i64 0] 36 (0, 0)) := ObjRow.keep k (row_new _ _ _ (by simp)) (by simp) (by omega)
    have hb0 : w1.heap[w.heap.size]? = some (.cells #[.map (some mb)] 83 (0, 0)) := ObjRow.keep k (row_alloc (row_new _ _ _ rfl) _) (by (try simp) <;> omega) (by omega)
    have hm1 := Hm0.out.keep ((k.block mb (by (try simp) <;> omega) hne).trans ((row_alloc_eq _ _ (by (try simp) <;> omega)).trans (row_alloc_eq _ _ hml)))
    have hlook := run_look Tryz.underlying83 Tryz.underlying9 (zeroRd _) (hm1.keep (row_alloc_eq w1 (.cells #[.int .u8 kd, .string tx, .int .i64 nm, .int .i64 off] 62) hm1.lt)) tx
    rw [show assocB tx tab = some (.func (.func 100) #[] #[]) from Hlk.out] at hlook
    dsimp only [Option.getD] at hlook
    have hc0 := one_cell hb0
    have hbl := cell_lt' hc0
    have Hhr := Lib.hid hr
    have HK1 := Lib.hid kk
    have HP1 := Lib.hid P
    clear k P h kk hr hb0 hm1
    unfold Tok.val
    go_wp2_with (fail)
    go_at_call 100
    refine (HX.out _ (by repeat (first | with_reducible exact HP1.out | with_reducible refine PSt.setNew ?_ (by omega) _ | with_reducible refine PSt.kept ?_ (World.grownBy_alloc _ _ none) (by simp)))).mono ?_
    rintro e w2 h
    obtain ⟨k, P, rfl⟩ := h.error
    have kk : KB w.heap.size pb w w2 := by refine KB.trans ?_ (k.mono (by (try simp) <;> omega)); (repeat (first | with_reducible exact HK1.out | with_reducible refine KB.setNew ?_ (by omega) _ | with_reducible refine KB.alloc ?_ _ (by (try simp) <;> omega)))
    go_wp2_with (fail)
    exact ⟨rfl, kk, P, rfl⟩
  | ok y =>
    obtain ⟨c, r2⟩ := y
    go_enter Tryz.func50, Tryz.ntmps50
    go_wp2_with (fail)
    go_at_call 69
    refine (c_next_clause pb l en _ w.heap.size (by repeat (first | with_reducible exact HP0.out | with_reducible refine PSt.setNew ?_ (by omega) _ | with_reducible refine PSt.kept ?_ (World.grownBy_alloc _ _ none) (by simp))) (fun t => (assocB t.text tab).isSome) hz0 (fun t w1 hb => c_clause1 t w.heap.size mb tab htab w1 (one_cell ((hb.block _ (by (try simp) <;> omega)).trans (row_alloc (row_new _ _ _ rfl) _))) (Hm0.out.keep ((hb.block mb (by (try simp) <;> omega)).trans ((row_alloc_eq _ _ (by (try simp) <;> omega)).trans (row_alloc_eq _ _ hml)))))).mono ?_
    rw [Hq1.out]
    rintro e w1 h
    obtain ⟨k, P, v, rfl, rfl⟩ := h.ok
    have hz1 := k.size
    try simp at hz1
    have kk : KB w.heap.size pb w w1 := by refine KB.trans ?_ (k.mono (by (try simp) <;> omega)); (repeat (first | with_reducible exact HK0.out | with_reducible refine KB.setNew ?_ (by omega) _ | with_reducible refine KB.alloc ?_ _ (by (try simp) <;> omega)))
    have hr : w1.heap[w.heap.size + 1]? = some (.cells #[.int .u8 0, .slice none 0 0, .int .u8 0, .int .i64 0, .int .i64 0, .int .i64 0, .slice none 0 0, .int .i64 0] 36 (0, 0)) := ObjRow.keep k (row_new _ _ _ (by simp)) (by simp) (by omega)
    have hb0 : w1.heap[w.heap.size]? = some (.cells #[.map (some mb)] 83 (0, 0)) := ObjRow.keep k (row_alloc (row_new _ _ _ rfl) _) (by (try simp) <;> omega) (by omega)
    have hm1 := Hm0.out.keep ((k.block mb (by (try simp) <;> omega) hne).trans ((row_alloc_eq _ _ (by (try simp) <;> omega)).trans (row_alloc_eq _ _ hml)))
    have hlook := run_look Tryz.underlying83 Tryz.underlying9 (zeroRd _) (hm1.keep (row_alloc_eq w1 (.cells #[.int .u8 kd, .string tx, .int .i64 nm, .int .i64 off] 62) hm1.lt)) tx
    rw [show assocB tx tab = some (.func (.func 100) #[] #[]) from Hlk.out] at hlook
    dsimp only [Option.getD] at hlook
    have hc0 := one_cell hb0
    have hbl := cell_lt' hc0
    have Hhr := Lib.hid hr
    have HK1 := Lib.hid kk
    have HP1 := Lib.hid P
    clear k P h kk hr hb0 hm1
    unfold Tok.val
    go_wp2_with (fail)
    go_at_call 100
    refine (HX.out _ (by repeat (first | with_reducible exact HP1.out | with_reducible refine PSt.setNew ?_ (by omega) _ | with_reducible refine PSt.kept ?_ (World.grownBy_alloc _ _ none) (by simp)))).mono ?_
    rintro e w2 h
    obtain ⟨k, P, v, rfl, vn, vi, rfl, hsn, hsi⟩ := h.ok
    have hz2 := k.size
    try simp at hz2
    have kk : KB w.heap.size pb w w2 := by refine KB.trans ?_ (k.mono (by (try simp) <;> omega)); (repeat (first | with_reducible exact HK1.out | with_reducible refine KB.setNew ?_ (by omega) _ | with_reducible refine KB.alloc ?_ _ (by (try simp) <;> omega)))
    have hr := ObjRow.keep k (row_alloc Hhr.out (.cells #[.int .u8 kd, .string tx, .int .i64 nm, .int .i64 off] 62)) (by (try simp) <;> omega) (by omega)
    have ht : w2.heap[w1.heap.size]? = some (.cells #[.int .u8 kd, .string tx, .int .i64 nm, .int .i64 off] 62 (0, 0)) := ObjRow.keep k (row_new _ _ _ rfl) (by simp) (by omega)
    obtain ⟨A1, m1, p1, rfl⟩ := hsn.shape
    obtain ⟨A2, m2, p2, rfl⟩ := hsi.shape
    obtain ⟨z0, z1, z2, z3, z4, z5, z6, z7⟩ := eight_cells hr
    obtain ⟨g0, g1, g2, g3, g4, g5, g6, g7⟩ := eight_frozen hr
    obtain ⟨t0, t1, t2, t3⟩ := four_cells ht
    have Hhr2 := Lib.hid hr
    have HK2 := Lib.hid kk
    have HP2 := Lib.hid P
    have Hsn := Lib.hid hsn
    have Hsi := Lib.hid hsi
    have hx1 : w1.heap.size < w2.heap.size := by omega
    have hx2 : w.heap.size + 1 < w2.heap.size := by omega
    have hlo : w1.heap.size < (w1.alloc (.cells #[.int .u8 kd, .string tx, .int .i64 nm, .int .i64 off] 62)).heap.size := by simp
    clear k P h kk hr ht hsn hsi hc0
    go_wp2_with (fail)
    refine ret8 (i := 4) (b := w.heap.size + 1) rfl rfl rfl (row_alloc (row_store8 Hhr2.out (.int .u8 c.kind) (.slice A1 m1 p1) (.int .u8 c.dom) (.int .i64 c.idx) (.int .i64 c.a) (.int .i64 c.b) (.slice A2 m2 p2) (.int .i64 off)) _) ⟨?_, ?_, _, rfl, _, _, rfl, ClV.lists Hsn.out Hsi.out (by omega) (by simp) (fun b hb hb2 => ?_)⟩
    · (repeat (first | with_reducible exact HK2.out | with_reducible refine KB.setNew ?_ (by omega) _ | with_reducible refine KB.alloc ?_ _ (by (try simp) <;> omega)))
    · exact (by repeat (first | with_reducible exact HP2.out | with_reducible refine PSt.setNew ?_ (by omega) _ | with_reducible refine PSt.kept ?_ (World.grownBy_alloc _ _ none) (by simp)))
    · have hne : b ≠ w.heap.size + 1 := by omega
      refine (row_alloc_eq _ _ (by simpa using hb2)).trans ?_
      simp only [heap_setCell_ne _ _ hne]

set_option maxHeartbeats 4000000 in
theorem cl_replicas (pb mb : Nat) (tab : List (ByteArray × Value)) (htab : ∀ x ∈ tab, ∃ f, x.2 = .func (.func f) #[] #[]) (hz0 : (assocB ⟨#[]⟩ tab).isSome = false) (l r1 : List Tok) (t : Tok) (en : Int) (w : World) (h : PSt w pb l en) (hm : MapIs w mb tab) (hne : mb ≠ pb)
    (hq1 : pNext (fun t => (assocB t.text tab).isSome) l = .ok (t, r1)) (hlk : assocB t.text tab = some (.func (.func 101) #[] #[])) (R : Rd Cl)
    (hX : ∀ w1, PSt w1 pb r1 en → Calls Tryz.prog 101 #[.pointer (some ⟨pb, 0, none⟩)] w1 (RdPost pb en w1 (ClV w1.heap.size) R)) :
    Calls Tryz.prog 50 #[.pointer (some ⟨pb, 0, none⟩), .map (some mb)] w (RdPost pb en w (ClV w.heap.size) (bindR R fun c r => .ok (c.withOff t.off, r))) := by
  have hlt := h.lt
  have hml := hm.lt
  have HP0 := Lib.hid h
  have HK0 := Lib.hid (KB.refl w.heap.size pb w)
  have Hm0 := Lib.hid hm
  have Hlk := Lib.hid hlk
  have Hq1 := Lib.hid hq1
  have HX := Lib.hid hX
  clear h hm hlk hq1 hX
  obtain ⟨kd, tx, nm, off⟩ := t
  cases R with
  | error r =>
    go_enter Tryz.func50, Tryz.ntmps50
    go_wp2_with (fail)
    go_at_call 69
    refine (c_next_clause pb l en _ w.heap.size (by repeat (first | with_reducible exact HP0.out | with_reducible refine PSt.setNew ?_ (by omega) _ | with_reducible refine PSt.kept ?_ (World.grownBy_alloc _ _ none) (by simp))) (fun t => (assocB t.text tab).isSome) hz0 (fun t w1 hb => c_clause1 t w.heap.size mb tab htab w1 (one_cell ((hb.block _ (by (try simp) <;> omega)).trans (row_alloc (row_new _ _ _ rfl) _))) (Hm0.out.keep ((hb.block mb (by (try simp) <;> omega)).trans ((row_alloc_eq _ _ (by (try simp) <;> omega)).trans (row_alloc_eq _ _ hml)))))).mono ?_
    rw [Hq1.out]
    rintro e w1 h
    obtain ⟨k, P, v, rfl, rfl⟩ := h.ok
    have hz1 := k.size
    try simp at hz1
    have kk : KB w.heap.size pb w w1 := by refine KB.trans ?_ (k.mono (by (try simp) <;> omega)); (repeat (first | with_reducible exact HK0.out | with_reducible refine KB.setNew ?_ (by omega) _ | with_reducible refine KB.alloc ?_ _ (by (try simp) <;> omega)))
    have hr : w1.heap[w.heap.size + 1]? = some (.cells #[.int .u8 0, .slice none 0 0, .int .u8 0, .int .i64 0, .int .i64 0, .int .i64 0, .slice none 0 0, .int .i64 0] 36 (0, 0)) := ObjRow.keep k (row_new _ _ _ (by simp)) (by simp) (by omega)
    have hb0 : w1.heap[w.heap.size]? = some (.cells #[.map (some mb)] 83 (0, 0)) := ObjRow.keep k (row_alloc (row_new _ _ _ rfl) _) (by (try simp) <;> omega) (by omega)
    have hm1 := Hm0.out.keep ((k.block mb (by (try simp) <;> omega) hne).trans ((row_alloc_eq _ _ (by (try simp) <;> omega)).trans (row_alloc_eq _ _ hml)))
    have hlook := run_look Tryz.underlying83 Tryz.underlying9 (zeroRd _) (hm1.keep (row_alloc_eq w1 (.cells #[.int .u8 kd, .string tx, .int .i64 nm, .int .i64 off] 62) hm1.lt)) tx
    rw [show assocB tx tab = some (.func (.func 101) #[] #[]) from Hlk.out] at hlook
    dsimp only [Option.getD] at hlook
    have hc0 := one_cell hb0
    have hbl := cell_lt' hc0
    have Hhr := Lib.hid hr
    have HK1 := Lib.hid kk
    have HP1 := Lib.hid P
    clear k P h kk hr hb0 hm1
    unfold Tok.val
    go_wp2_with (fail)
    go_at_call 101
    refine (HX.out _ (by repeat (first | with_reducible exact HP1.out | with_reducible refine PSt.setNew ?_ (by omega) _ | with_reducible refine PSt.kept ?_ (World.grownBy_alloc _ _ none) (by simp)))).mono ?_
    rintro e w2 h
    obtain ⟨k, P, rfl⟩ := h.error
    have kk : KB w.heap.size pb w w2 := by refine KB.trans ?_ (k.mono (by (try simp) <;> omega)); (repeat (first | with_reducible exact HK1.out | with_reducible refine KB.setNew ?_ (by omega) _ | with_reducible refine KB.alloc ?_ _ (by (try simp) <;> omega)))
    go_wp2_with (fail)
    exact ⟨rfl, kk, P, rfl⟩
  | ok y =>
    obtain ⟨c, r2⟩ := y
    go_enter Tryz.func50, Tryz.ntmps50
    go_wp2_with (fail)
    go_at_call 69
    refine (c_next_clause pb l en _ w.heap.size (by repeat (first | with_reducible exact HP0.out | with_reducible refine PSt.setNew ?_ (by omega) _ | with_reducible refine PSt.kept ?_ (World.grownBy_alloc _ _ none) (by simp))) (fun t => (assocB t.text tab).isSome) hz0 (fun t w1 hb => c_clause1 t w.heap.size mb tab htab w1 (one_cell ((hb.block _ (by (try simp) <;> omega)).trans (row_alloc (row_new _ _ _ rfl) _))) (Hm0.out.keep ((hb.block mb (by (try simp) <;> omega)).trans ((row_alloc_eq _ _ (by (try simp) <;> omega)).trans (row_alloc_eq _ _ hml)))))).mono ?_
    rw [Hq1.out]
    rintro e w1 h
    obtain ⟨k, P, v, rfl, rfl⟩ := h.ok
    have hz1 := k.size
    try simp at hz1
    have kk : KB w.heap.size pb w w1 := by refine KB.trans ?_ (k.mono (by (try simp) <;> omega)); (repeat (first | with_reducible exact HK0.out | with_reducible refine KB.setNew ?_ (by omega) _ | with_reducible refine KB.alloc ?_ _ (by (try simp) <;> omega)))
    have hr : w1.heap[w.heap.size + 1]? = some (.cells #[.int .u8 0, .slice none 0 0, .int .u8 0, .int .i64 0, .int .i64 0, .int .i64 0, .slice none 0 0, .int .i64 0] 36 (0, 0)) := ObjRow.keep k (row_new _ _ _ (by simp)) (by simp) (by omega)
    have hb0 : w1.heap[w.heap.size]? = some (.cells #[.map (some mb)] 83 (0, 0)) := ObjRow.keep k (row_alloc (row_new _ _ _ rfl) _) (by (try simp) <;> omega) (by omega)
    have hm1 := Hm0.out.keep ((k.block mb (by (try simp) <;> omega) hne).trans ((row_alloc_eq _ _ (by (try simp) <;> omega)).trans (row_alloc_eq _ _ hml)))
    have hlook := run_look Tryz.underlying83 Tryz.underlying9 (zeroRd _) (hm1.keep (row_alloc_eq w1 (.cells #[.int .u8 kd, .string tx, .int .i64 nm, .int .i64 off] 62) hm1.lt)) tx
    rw [show assocB tx tab = some (.func (.func 101) #[] #[]) from Hlk.out] at hlook
    dsimp only [Option.getD] at hlook
    have hc0 := one_cell hb0
    have hbl := cell_lt' hc0
    have Hhr := Lib.hid hr
    have HK1 := Lib.hid kk
    have HP1 := Lib.hid P
    clear k P h kk hr hb0 hm1
    unfold Tok.val
    go_wp2_with (fail)
    go_at_call 101
    refine (HX.out _ (by repeat (first | with_reducible exact HP1.out | with_reducible refine PSt.setNew ?_ (by omega) _ | with_reducible refine PSt.kept ?_ (World.grownBy_alloc _ _ none) (by simp)))).mono ?_
    rintro e w2 h
    obtain ⟨k, P, v, rfl, vn, vi, rfl, hsn, hsi⟩ := h.ok
    have hz2 := k.size
    try simp at hz2
    have kk : KB w.heap.size pb w w2 := by refine KB.trans ?_ (k.mono (by (try simp) <;> omega)); (repeat (first | with_reducible exact HK1.out | with_reducible refine KB.setNew ?_ (by omega) _ | with_reducible refine KB.alloc ?_ _ (by (try simp) <;> omega)))
    have hr := ObjRow.keep k (row_alloc Hhr.out (.cells #[.int .u8 kd, .string tx, .int .i64 nm, .int .i64 off] 62)) (by (try simp) <;> omega) (by omega)
    have ht : w2.heap[w1.heap.size]? = some (.cells #[.int .u8 kd, .string tx, .int .i64 nm, .int .i64 off] 62 (0, 0)) := ObjRow.keep k (row_new _ _ _ rfl) (by simp) (by omega)
    obtain ⟨A1, m1, p1, rfl⟩ := hsn.shape
    obtain ⟨A2, m2, p2, rfl⟩ := hsi.shape
    obtain ⟨z0, z1, z2, z3, z4, z5, z6, z7⟩ := eight_cells hr
    obtain ⟨g0, g1, g2, g3, g4, g5, g6, g7⟩ := eight_frozen hr
    obtain ⟨t0, t1, t2, t3⟩ := four_cells ht
    have Hhr2 := Lib.hid hr
    have HK2 := Lib.hid kk
    have HP2 := Lib.hid P
    have Hsn := Lib.hid hsn
    have Hsi := Lib.hid hsi
    have hx1 : w1.heap.size < w2.heap.size := by omega
    have hx2 : w.heap.size + 1 < w2.heap.size := by omega
    have hlo : w1.heap.size < (w1.alloc (.cells #[.int .u8 kd, .string tx, .int .i64 nm, .int .i64 off] 62)).heap.size := by simp
    clear k P h kk hr ht hsn hsi hc0
    go_wp2_with (fail)
    refine ret8 (i := 4) (b := w.heap.size + 1) rfl rfl rfl (row_alloc (row_store8 Hhr2.out (.int .u8 c.kind) (.slice A1 m1 p1) (.int .u8 c.dom) (.int .i64 c.idx) (.int .i64 c.a) (.int .i64 c.b) (.slice A2 m2 p2) (.int .i64 off)) _) ⟨?_, ?_, _, rfl, _, _, rfl, ClV.lists Hsn.out Hsi.out (by omega) (by simp) (fun b hb hb2 => ?_)⟩
    · (repeat (first | with_reducible exact HK2.out | with_reducible refine KB.setNew ?_ (by omega) _ | with_reducible refine KB.alloc ?_ _ (by (try simp) <;> omega)))
    · exact (by repeat (first | with_reducible exact HP2.out | with_reducible refine PSt.setNew ?_ (by omega) _ | with_reducible refine PSt.kept ?_ (World.grownBy_alloc _ _ none) (by simp)))
    · have hne : b ≠ w.heap.size + 1 := by omega
      refine (row_alloc_eq _ _ (by simpa using hb2)).trans ?_
      simp only [heap_setCell_ne _ _ hne]

set_option maxHeartbeats 4000000 in
theorem cl_least (pb mb : Nat) (tab : List (ByteArray × Value)) (htab : ∀ x ∈ tab, ∃ f, x.2 = .func (.func f) #[] #[]) (hz0 : (assocB ⟨#[]⟩ tab).isSome = false) (l r1 : List Tok) (t : Tok) (en : Int) (w : World) (h : PSt w pb l en) (hm : MapIs w mb tab) (hne : mb ≠ pb)
    (hq1 : pNext (fun t => (assocB t.text tab).isSome) l = .ok (t, r1)) (hlk : assocB t.text tab = some (.func (.func 102) #[] #[])) (R : Rd Cl)
    (hX : ∀ w1, PSt w1 pb r1 en → Calls Tryz.prog 102 #[.pointer (some ⟨pb, 0, none⟩)] w1 (RdPost pb en w1 (ClV w1.heap.size) R)) :
    Calls Tryz.prog 50 #[.pointer (some ⟨pb, 0, none⟩), .map (some mb)] w (RdPost pb en w (ClV w.heap.size) (bindR R fun c r => .ok (c.withOff t.off, r))) := by
  have hlt := h.lt
  have hml := hm.lt
  have HP0 := Lib.hid h
  have HK0 := Lib.hid (KB.refl w.heap.size pb w)
  have Hm0 := Lib.hid hm
  have Hlk := Lib.hid hlk
  have Hq1 := Lib.hid hq1
  have HX := Lib.hid hX
  clear h hm hlk hq1 hX
  obtain ⟨kd, tx, nm, off⟩ := t
  cases R with
  | error r =>
    go_enter Tryz.func50, Tryz.ntmps50
    go_wp2_with (fail)
    go_at_call 69
    refine (c_next_clause pb l en _ w.heap.size (by repeat (first | with_reducible exact HP0.out | with_reducible refine PSt.setNew ?_ (by omega) _ | with_reducible refine PSt.kept ?_ (World.grownBy_alloc _ _ none) (by simp))) (fun t => (assocB t.text tab).isSome) hz0 (fun t w1 hb => c_clause1 t w.heap.size mb tab htab w1 (one_cell ((hb.block _ (by (try simp) <;> omega)).trans (row_alloc (row_new _ _ _ rfl) _))) (Hm0.out.keep ((hb.block mb (by (try simp) <;> omega)).trans ((row_alloc_eq _ _ (by (try simp) <;> omega)).trans (row_alloc_eq _ _ hml)))))).mono ?_
    rw [Hq1.out]
    rintro e w1 h
    obtain ⟨k, P, v, rfl, rfl⟩ := h.ok
    have hz1 := k.size
    try simp at hz1
    have kk : KB w.heap.size pb w w1 := by refine KB.trans ?_ (k.mono (by (try simp) <;> omega)); (repeat (first | with_reducible exact HK0.out | with_reducible refine KB.setNew ?_ (by omega) _ | with_reducible refine KB.alloc ?_ _ (by (try simp) <;> omega)))
    have hr : w1.heap[w.heap.size + 1]? = some (.cells #[.int .u8 0, .slice none 0 0, .int .u8 0, .int .i64 0, .int .i64 0, .int .i64 0, .slice none 0 0, .int .i64 0] 36 (0, 0)) := ObjRow.keep k (row_new _ _ _ (by simp)) (by simp) (by omega)
    have hb0 : w1.heap[w.heap.size]? = some (.cells #[.map (some mb)] 83 (0, 0)) := ObjRow.keep k (row_alloc (row_new _ _ _ rfl) _) (by (try simp) <;> omega) (by omega)
    have hm1 := Hm0.out.keep ((k.block mb (by (try simp) <;> omega) hne).trans ((row_alloc_eq _ _ (by (try simp) <;> omega)).trans (row_alloc_eq _ _ hml)))
    have hlook := run_look Tryz.underlying83 Tryz.underlying9 (zeroRd _) (hm1.keep (row_alloc_eq w1 (.cells #[.int .u8 kd, .string tx, .int .i64 nm, .int .i64 off] 62) hm1.lt)) tx
    rw [show assocB tx tab = some (.func (.func 102) #[] #[]) from Hlk.out] at hlook
    dsimp only [Option.getD] at hlook
    have hc0 := one_cell hb0
    have hbl := cell_lt' hc0
    have Hhr := Lib.hid hr
    have HK1 := Lib.hid kk
    have HP1 := Lib.hid P
    clear k P h kk hr hb0 hm1
    unfold Tok.val
    go_wp2_with (fail)
    go_at_call 102
    refine (HX.out _ (by repeat (first | with_reducible exact HP1.out | with_reducible refine PSt.setNew ?_ (by omega) _ | with_reducible refine PSt.kept ?_ (World.grownBy_alloc _ _ none) (by simp)))).mono ?_
    rintro e w2 h
    obtain ⟨k, P, rfl⟩ := h.error
    have kk : KB w.heap.size pb w w2 := by refine KB.trans ?_ (k.mono (by (try simp) <;> omega)); (repeat (first | with_reducible exact HK1.out | with_reducible refine KB.setNew ?_ (by omega) _ | with_reducible refine KB.alloc ?_ _ (by (try simp) <;> omega)))
    go_wp2_with (fail)
    exact ⟨rfl, kk, P, rfl⟩
  | ok y =>
    obtain ⟨c, r2⟩ := y
    go_enter Tryz.func50, Tryz.ntmps50
    go_wp2_with (fail)
    go_at_call 69
    refine (c_next_clause pb l en _ w.heap.size (by repeat (first | with_reducible exact HP0.out | with_reducible refine PSt.setNew ?_ (by omega) _ | with_reducible refine PSt.kept ?_ (World.grownBy_alloc _ _ none) (by simp))) (fun t => (assocB t.text tab).isSome) hz0 (fun t w1 hb => c_clause1 t w.heap.size mb tab htab w1 (one_cell ((hb.block _ (by (try simp) <;> omega)).trans (row_alloc (row_new _ _ _ rfl) _))) (Hm0.out.keep ((hb.block mb (by (try simp) <;> omega)).trans ((row_alloc_eq _ _ (by (try simp) <;> omega)).trans (row_alloc_eq _ _ hml)))))).mono ?_
    rw [Hq1.out]
    rintro e w1 h
    obtain ⟨k, P, v, rfl, rfl⟩ := h.ok
    have hz1 := k.size
    try simp at hz1
    have kk : KB w.heap.size pb w w1 := by refine KB.trans ?_ (k.mono (by (try simp) <;> omega)); (repeat (first | with_reducible exact HK0.out | with_reducible refine KB.setNew ?_ (by omega) _ | with_reducible refine KB.alloc ?_ _ (by (try simp) <;> omega)))
    have hr : w1.heap[w.heap.size + 1]? = some (.cells #[.int .u8 0, .slice none 0 0, .int .u8 0, .int .i64 0, .int .i64 0, .int .i64 0, .slice none 0 0, .int .i64 0] 36 (0, 0)) := ObjRow.keep k (row_new _ _ _ (by simp)) (by simp) (by omega)
    have hb0 : w1.heap[w.heap.size]? = some (.cells #[.map (some mb)] 83 (0, 0)) := ObjRow.keep k (row_alloc (row_new _ _ _ rfl) _) (by (try simp) <;> omega) (by omega)
    have hm1 := Hm0.out.keep ((k.block mb (by (try simp) <;> omega) hne).trans ((row_alloc_eq _ _ (by (try simp) <;> omega)).trans (row_alloc_eq _ _ hml)))
    have hlook := run_look Tryz.underlying83 Tryz.underlying9 (zeroRd _) (hm1.keep (row_alloc_eq w1 (.cells #[.int .u8 kd, .string tx, .int .i64 nm, .int .i64 off] 62) hm1.lt)) tx
    rw [show assocB tx tab = some (.func (.func 102) #[] #[]) from Hlk.out] at hlook
    dsimp only [Option.getD] at hlook
    have hc0 := one_cell hb0
    have hbl := cell_lt' hc0
    have Hhr := Lib.hid hr
    have HK1 := Lib.hid kk
    have HP1 := Lib.hid P
    clear k P h kk hr hb0 hm1
    unfold Tok.val
    go_wp2_with (fail)
    go_at_call 102
    refine (HX.out _ (by repeat (first | with_reducible exact HP1.out | with_reducible refine PSt.setNew ?_ (by omega) _ | with_reducible refine PSt.kept ?_ (World.grownBy_alloc _ _ none) (by simp)))).mono ?_
    rintro e w2 h
    obtain ⟨k, P, v, rfl, vn, vi, rfl, hsn, hsi⟩ := h.ok
    have hz2 := k.size
    try simp at hz2
    have kk : KB w.heap.size pb w w2 := by refine KB.trans ?_ (k.mono (by (try simp) <;> omega)); (repeat (first | with_reducible exact HK1.out | with_reducible refine KB.setNew ?_ (by omega) _ | with_reducible refine KB.alloc ?_ _ (by (try simp) <;> omega)))
    have hr := ObjRow.keep k (row_alloc Hhr.out (.cells #[.int .u8 kd, .string tx, .int .i64 nm, .int .i64 off] 62)) (by (try simp) <;> omega) (by omega)
    have ht : w2.heap[w1.heap.size]? = some (.cells #[.int .u8 kd, .string tx, .int .i64 nm, .int .i64 off] 62 (0, 0)) := ObjRow.keep k (row_new _ _ _ rfl) (by simp) (by omega)
    obtain ⟨A1, m1, p1, rfl⟩ := hsn.shape
    obtain ⟨A2, m2, p2, rfl⟩ := hsi.shape
    obtain ⟨z0, z1, z2, z3, z4, z5, z6, z7⟩ := eight_cells hr
    obtain ⟨g0, g1, g2, g3, g4, g5, g6, g7⟩ := eight_frozen hr
    obtain ⟨t0, t1, t2, t3⟩ := four_cells ht
    have Hhr2 := Lib.hid hr
    have HK2 := Lib.hid kk
    have HP2 := Lib.hid P
    have Hsn := Lib.hid hsn
    have Hsi := Lib.hid hsi
    have hx1 : w1.heap.size < w2.heap.size := by omega
    have hx2 : w.heap.size + 1 < w2.heap.size := by omega
    have hlo : w1.heap.size < (w1.alloc (.cells #[.int .u8 kd, .string tx, .int .i64 nm, .int .i64 off] 62)).heap.size := by simp
    clear k P h kk hr ht hsn hsi hc0
    go_wp2_with (fail)
    refine ret8 (i := 4) (b := w.heap.size + 1) rfl rfl rfl (row_alloc (row_store8 Hhr2.out (.int .u8 c.kind) (.slice A1 m1 p1) (.int .u8 c.dom) (.int .i64 c.idx) (.int .i64 c.a) (.int .i64 c.b) (.slice A2 m2 p2) (.int .i64 off)) _) ⟨?_, ?_, _, rfl, _, _, rfl, ClV.lists Hsn.out Hsi.out (by omega) (by simp) (fun b hb hb2 => ?_)⟩
    · (repeat (first | with_reducible exact HK2.out | with_reducible refine KB.setNew ?_ (by omega) _ | with_reducible refine KB.alloc ?_ _ (by (try simp) <;> omega)))
    · exact (by repeat (first | with_reducible exact HP2.out | with_reducible refine PSt.setNew ?_ (by omega) _ | with_reducible refine PSt.kept ?_ (World.grownBy_alloc _ _ none) (by simp)))
    · have hne : b ≠ w.heap.size + 1 := by omega
      refine (row_alloc_eq _ _ (by simpa using hb2)).trans ?_
      simp only [heap_setCell_ne _ _ hne]

set_option maxHeartbeats 4000000 in
theorem cl_spread (pb mb : Nat) (tab : List (ByteArray × Value)) (htab : ∀ x ∈ tab, ∃ f, x.2 = .func (.func f) #[] #[]) (hz0 : (assocB ⟨#[]⟩ tab).isSome = false) (l r1 : List Tok) (t : Tok) (en : Int) (w : World) (h : PSt w pb l en) (hm : MapIs w mb tab) (hne : mb ≠ pb)
    (hq1 : pNext (fun t => (assocB t.text tab).isSome) l = .ok (t, r1)) (hlk : assocB t.text tab = some (.func (.func 103) #[] #[])) (R : Rd Cl)
    (hX : ∀ w1, PSt w1 pb r1 en → Calls Tryz.prog 103 #[.pointer (some ⟨pb, 0, none⟩)] w1 (RdPost pb en w1 (ClV w1.heap.size) R)) :
    Calls Tryz.prog 50 #[.pointer (some ⟨pb, 0, none⟩), .map (some mb)] w (RdPost pb en w (ClV w.heap.size) (bindR R fun c r => .ok (c.withOff t.off, r))) := by
  have hlt := h.lt
  have hml := hm.lt
  have HP0 := Lib.hid h
  have HK0 := Lib.hid (KB.refl w.heap.size pb w)
  have Hm0 := Lib.hid hm
  have Hlk := Lib.hid hlk
  have Hq1 := Lib.hid hq1
  have HX := Lib.hid hX
  clear h hm hlk hq1 hX
  obtain ⟨kd, tx, nm, off⟩ := t
  cases R with
  | error r =>
    go_enter Tryz.func50, Tryz.ntmps50
    go_wp2_with (fail)
    go_at_call 69
    refine (c_next_clause pb l en _ w.heap.size (by repeat (first | with_reducible exact HP0.out | with_reducible refine PSt.setNew ?_ (by omega) _ | with_reducible refine PSt.kept ?_ (World.grownBy_alloc _ _ none) (by simp))) (fun t => (assocB t.text tab).isSome) hz0 (fun t w1 hb => c_clause1 t w.heap.size mb tab htab w1 (one_cell ((hb.block _ (by (try simp) <;> omega)).trans (row_alloc (row_new _ _ _ rfl) _))) (Hm0.out.keep ((hb.block mb (by (try simp) <;> omega)).trans ((row_alloc_eq _ _ (by (try simp) <;> omega)).trans (row_alloc_eq _ _ hml)))))).mono ?_
    rw [Hq1.out]
    rintro e w1 h
    obtain ⟨k, P, v, rfl, rfl⟩ := h.ok
    have hz1 := k.size
    try simp at hz1
    have kk : KB w.heap.size pb w w1 := by refine KB.trans ?_ (k.mono (by (try simp) <;> omega)); (repeat (first | with_reducible exact HK0.out | with_reducible refine KB.setNew ?_ (by omega) _ | with_reducible refine KB.alloc ?_ _ (by (try simp) <;> omega)))
    have hr : w1.heap[w.heap.size + 1]? = some (.cells #[.int .u8 0, .slice none 0 0, .int .u8 0, .int .i64 0, .int .i64 0, .int .i64 0, .slice none 0 0, .int .i64 0] 36 (0, 0)) := ObjRow.keep k (row_new _ _ _ (by simp)) (by simp) (by omega)
    have hb0 : w1.heap[w.heap.size]? = some (.cells #[.map (some mb)] 83 (0, 0)) := ObjRow.keep k (row_alloc (row_new _ _ _ rfl) _) (by (try simp) <;> omega) (by omega)
    have hm1 := Hm0.out.keep ((k.block mb (by (try simp) <;> omega) hne).trans ((row_alloc_eq _ _ (by (try simp) <;> omega)).trans (row_alloc_eq _ _ hml)))
    have hlook := run_look Tryz.underlying83 Tryz.underlying9 (zeroRd _) (hm1.keep (row_alloc_eq w1 (.cells #[.int .u8 kd, .string tx, .int .i64 nm, .int .i64 off] 62) hm1.lt)) tx
    rw [show assocB tx tab = some (.func (.func 103) #[] #[]) from Hlk.out] at hlook
    dsimp only [Option.getD] at hlook
    have hc0 := one_cell hb0
    have hbl := cell_lt' hc0
    have Hhr := Lib.hid hr
    have HK1 := Lib.hid kk
    have HP1 := Lib.hid P
    clear k P h kk hr hb0 hm1
    unfold Tok.val
    go_wp2_with (fail)
    go_at_call 103
    refine (HX.out _ (by repeat (first | with_reducible exact HP1.out | with_reducible refine PSt.setNew ?_ (by omega) _ | with_reducible refine PSt.kept ?_ (World.grownBy_alloc _ _ none) (by simp)))).mono ?_
    rintro e w2 h
    obtain ⟨k, P, rfl⟩ := h.error
    have kk : KB w.heap.size pb w w2 := by refine KB.trans ?_ (k.mono (by (try simp) <;> omega)); (repeat (first | with_reducible exact HK1.out | with_reducible refine KB.setNew ?_ (by omega) _ | with_reducible refine KB.alloc ?_ _ (by (try simp) <;> omega)))
    go_wp2_with (fail)
    exact ⟨rfl, kk, P, rfl⟩
  | ok y =>
    obtain ⟨c, r2⟩ := y
    go_enter Tryz.func50, Tryz.ntmps50
    go_wp2_with (fail)
    go_at_call 69
    refine (c_next_clause pb l en _ w.heap.size (by repeat (first | with_reducible exact HP0.out | with_reducible refine PSt.setNew ?_ (by omega) _ | with_reducible refine PSt.kept ?_ (World.grownBy_alloc _ _ none) (by simp))) (fun t => (assocB t.text tab).isSome) hz0 (fun t w1 hb => c_clause1 t w.heap.size mb tab htab w1 (one_cell ((hb.block _ (by (try simp) <;> omega)).trans (row_alloc (row_new _ _ _ rfl) _))) (Hm0.out.keep ((hb.block mb (by (try simp) <;> omega)).trans ((row_alloc_eq _ _ (by (try simp) <;> omega)).trans (row_alloc_eq _ _ hml)))))).mono ?_
    rw [Hq1.out]
    rintro e w1 h
    obtain ⟨k, P, v, rfl, rfl⟩ := h.ok
    have hz1 := k.size
    try simp at hz1
    have kk : KB w.heap.size pb w w1 := by refine KB.trans ?_ (k.mono (by (try simp) <;> omega)); (repeat (first | with_reducible exact HK0.out | with_reducible refine KB.setNew ?_ (by omega) _ | with_reducible refine KB.alloc ?_ _ (by (try simp) <;> omega)))
    have hr : w1.heap[w.heap.size + 1]? = some (.cells #[.int .u8 0, .slice none 0 0, .int .u8 0, .int .i64 0, .int .i64 0, .int .i64 0, .slice none 0 0, .int .i64 0] 36 (0, 0)) := ObjRow.keep k (row_new _ _ _ (by simp)) (by simp) (by omega)
    have hb0 : w1.heap[w.heap.size]? = some (.cells #[.map (some mb)] 83 (0, 0)) := ObjRow.keep k (row_alloc (row_new _ _ _ rfl) _) (by (try simp) <;> omega) (by omega)
    have hm1 := Hm0.out.keep ((k.block mb (by (try simp) <;> omega) hne).trans ((row_alloc_eq _ _ (by (try simp) <;> omega)).trans (row_alloc_eq _ _ hml)))
    have hlook := run_look Tryz.underlying83 Tryz.underlying9 (zeroRd _) (hm1.keep (row_alloc_eq w1 (.cells #[.int .u8 kd, .string tx, .int .i64 nm, .int .i64 off] 62) hm1.lt)) tx
    rw [show assocB tx tab = some (.func (.func 103) #[] #[]) from Hlk.out] at hlook
    dsimp only [Option.getD] at hlook
    have hc0 := one_cell hb0
    have hbl := cell_lt' hc0
    have Hhr := Lib.hid hr
    have HK1 := Lib.hid kk
    have HP1 := Lib.hid P
    clear k P h kk hr hb0 hm1
    unfold Tok.val
    go_wp2_with (fail)
    go_at_call 103
    refine (HX.out _ (by repeat (first | with_reducible exact HP1.out | with_reducible refine PSt.setNew ?_ (by omega) _ | with_reducible refine PSt.kept ?_ (World.grownBy_alloc _ _ none) (by simp)))).mono ?_
    rintro e w2 h
    obtain ⟨k, P, v, rfl, vn, vi, rfl, hsn, hsi⟩ := h.ok
    have hz2 := k.size
    try simp at hz2
    have kk : KB w.heap.size pb w w2 := by refine KB.trans ?_ (k.mono (by (try simp) <;> omega)); (repeat (first | with_reducible exact HK1.out | with_reducible refine KB.setNew ?_ (by omega) _ | with_reducible refine KB.alloc ?_ _ (by (try simp) <;> omega)))
    have hr := ObjRow.keep k (row_alloc Hhr.out (.cells #[.int .u8 kd, .string tx, .int .i64 nm, .int .i64 off] 62)) (by (try simp) <;> omega) (by omega)
    have ht : w2.heap[w1.heap.size]? = some (.cells #[.int .u8 kd, .string tx, .int .i64 nm, .int .i64 off] 62 (0, 0)) := ObjRow.keep k (row_new _ _ _ rfl) (by simp) (by omega)
    obtain ⟨A1, m1, p1, rfl⟩ := hsn.shape
    obtain ⟨A2, m2, p2, rfl⟩ := hsi.shape
    obtain ⟨z0, z1, z2, z3, z4, z5, z6, z7⟩ := eight_cells hr
    obtain ⟨g0, g1, g2, g3, g4, g5, g6, g7⟩ := eight_frozen hr
    obtain ⟨t0, t1, t2, t3⟩ := four_cells ht
    have Hhr2 := Lib.hid hr
    have HK2 := Lib.hid kk
    have HP2 := Lib.hid P
    have Hsn := Lib.hid hsn
    have Hsi := Lib.hid hsi
    have hx1 : w1.heap.size < w2.heap.size := by omega
    have hx2 : w.heap.size + 1 < w2.heap.size := by omega
    have hlo : w1.heap.size < (w1.alloc (.cells #[.int .u8 kd, .string tx, .int .i64 nm, .int .i64 off] 62)).heap.size := by simp
    clear k P h kk hr ht hsn hsi hc0
    go_wp2_with (fail)
    refine ret8 (i := 4) (b := w.heap.size + 1) rfl rfl rfl (row_alloc (row_store8 Hhr2.out (.int .u8 c.kind) (.slice A1 m1 p1) (.int .u8 c.dom) (.int .i64 c.idx) (.int .i64 c.a) (.int .i64 c.b) (.slice A2 m2 p2) (.int .i64 off)) _) ⟨?_, ?_, _, rfl, _, _, rfl, ClV.lists Hsn.out Hsi.out (by omega) (by simp) (fun b hb hb2 => ?_)⟩
    · (repeat (first | with_reducible exact HK2.out | with_reducible refine KB.setNew ?_ (by omega) _ | with_reducible refine KB.alloc ?_ _ (by (try simp) <;> omega)))
    · exact (by repeat (first | with_reducible exact HP2.out | with_reducible refine PSt.setNew ?_ (by omega) _ | with_reducible refine PSt.kept ?_ (World.grownBy_alloc _ _ none) (by simp)))
    · have hne : b ≠ w.heap.size + 1 := by omega
      refine (row_alloc_eq _ _ (by simpa using hb2)).trans ?_
      simp only [heap_setCell_ne _ _ hne]
end Go.Proofs.YtplnnpkohdmiaaaGreatDoor

/- DERIVED. The landed parser's clause at the readers: apart, near, firmware, window. -/
namespace Go.Proofs.YtplnnpkohdmiaaaGreatDoor
open Go.RowKit
set_option maxRecDepth 100000

set_option maxHeartbeats 4000000 in
theorem cl_apart (pb mb : Nat) (tab : List (ByteArray × Value)) (htab : ∀ x ∈ tab, ∃ f, x.2 = .func (.func f) #[] #[]) (hz0 : (assocB ⟨#[]⟩ tab).isSome = false) (l r1 : List Tok) (t : Tok) (en : Int) (w : World) (h : PSt w pb l en) (hm : MapIs w mb tab) (hne : mb ≠ pb)
    (hq1 : pNext (fun t => (assocB t.text tab).isSome) l = .ok (t, r1)) (hlk : assocB t.text tab = some (.func (.func 104) #[] #[])) (R : Rd Cl)
    (hX : ∀ w1, PSt w1 pb r1 en → Calls Tryz.prog 104 #[.pointer (some ⟨pb, 0, none⟩)] w1 (RdPost pb en w1 (ClV w1.heap.size) R)) :
    Calls Tryz.prog 50 #[.pointer (some ⟨pb, 0, none⟩), .map (some mb)] w (RdPost pb en w (ClV w.heap.size) (bindR R fun c r => .ok (c.withOff t.off, r))) := by
  have hlt := h.lt
  have hml := hm.lt
  have HP0 := Lib.hid h
  have HK0 := Lib.hid (KB.refl w.heap.size pb w)
  have Hm0 := Lib.hid hm
  have Hlk := Lib.hid hlk
  have Hq1 := Lib.hid hq1
  have HX := Lib.hid hX
  clear h hm hlk hq1 hX
  obtain ⟨kd, tx, nm, off⟩ := t
  cases R with
  | error r =>
    go_enter Tryz.func50, Tryz.ntmps50
    go_wp2_with (fail)
    go_at_call 69
    refine (c_next_clause pb l en _ w.heap.size (by repeat (first | with_reducible exact HP0.out | with_reducible refine PSt.setNew ?_ (by omega) _ | with_reducible refine PSt.kept ?_ (World.grownBy_alloc _ _ none) (by simp))) (fun t => (assocB t.text tab).isSome) hz0 (fun t w1 hb => c_clause1 t w.heap.size mb tab htab w1 (one_cell ((hb.block _ (by (try simp) <;> omega)).trans (row_alloc (row_new _ _ _ rfl) _))) (Hm0.out.keep ((hb.block mb (by (try simp) <;> omega)).trans ((row_alloc_eq _ _ (by (try simp) <;> omega)).trans (row_alloc_eq _ _ hml)))))).mono ?_
    rw [Hq1.out]
    rintro e w1 h
    obtain ⟨k, P, v, rfl, rfl⟩ := h.ok
    have hz1 := k.size
    try simp at hz1
    have kk : KB w.heap.size pb w w1 := by refine KB.trans ?_ (k.mono (by (try simp) <;> omega)); (repeat (first | with_reducible exact HK0.out | with_reducible refine KB.setNew ?_ (by omega) _ | with_reducible refine KB.alloc ?_ _ (by (try simp) <;> omega)))
    have hr : w1.heap[w.heap.size + 1]? = some (.cells #[.int .u8 0, .slice none 0 0, .int .u8 0, .int .i64 0, .int .i64 0, .int .i64 0, .slice none 0 0, .int .i64 0] 36 (0, 0)) := ObjRow.keep k (row_new _ _ _ (by simp)) (by simp) (by omega)
    have hb0 : w1.heap[w.heap.size]? = some (.cells #[.map (some mb)] 83 (0, 0)) := ObjRow.keep k (row_alloc (row_new _ _ _ rfl) _) (by (try simp) <;> omega) (by omega)
    have hm1 := Hm0.out.keep ((k.block mb (by (try simp) <;> omega) hne).trans ((row_alloc_eq _ _ (by (try simp) <;> omega)).trans (row_alloc_eq _ _ hml)))
    have hlook := run_look Tryz.underlying83 Tryz.underlying9 (zeroRd _) (hm1.keep (row_alloc_eq w1 (.cells #[.int .u8 kd, .string tx, .int .i64 nm, .int .i64 off] 62) hm1.lt)) tx
    rw [show assocB tx tab = some (.func (.func 104) #[] #[]) from Hlk.out] at hlook
    dsimp only [Option.getD] at hlook
    have hc0 := one_cell hb0
    have hbl := cell_lt' hc0
    have Hhr := Lib.hid hr
    have HK1 := Lib.hid kk
    have HP1 := Lib.hid P
    clear k P h kk hr hb0 hm1
    unfold Tok.val
    go_wp2_with (fail)
    go_at_call 104
    refine (HX.out _ (by repeat (first | with_reducible exact HP1.out | with_reducible refine PSt.setNew ?_ (by omega) _ | with_reducible refine PSt.kept ?_ (World.grownBy_alloc _ _ none) (by simp)))).mono ?_
    rintro e w2 h
    obtain ⟨k, P, rfl⟩ := h.error
    have kk : KB w.heap.size pb w w2 := by refine KB.trans ?_ (k.mono (by (try simp) <;> omega)); (repeat (first | with_reducible exact HK1.out | with_reducible refine KB.setNew ?_ (by omega) _ | with_reducible refine KB.alloc ?_ _ (by (try simp) <;> omega)))
    go_wp2_with (fail)
    exact ⟨rfl, kk, P, rfl⟩
  | ok y =>
    obtain ⟨c, r2⟩ := y
    go_enter Tryz.func50, Tryz.ntmps50
    go_wp2_with (fail)
    go_at_call 69
    refine (c_next_clause pb l en _ w.heap.size (by repeat (first | with_reducible exact HP0.out | with_reducible refine PSt.setNew ?_ (by omega) _ | with_reducible refine PSt.kept ?_ (World.grownBy_alloc _ _ none) (by simp))) (fun t => (assocB t.text tab).isSome) hz0 (fun t w1 hb => c_clause1 t w.heap.size mb tab htab w1 (one_cell ((hb.block _ (by (try simp) <;> omega)).trans (row_alloc (row_new _ _ _ rfl) _))) (Hm0.out.keep ((hb.block mb (by (try simp) <;> omega)).trans ((row_alloc_eq _ _ (by (try simp) <;> omega)).trans (row_alloc_eq _ _ hml)))))).mono ?_
    rw [Hq1.out]
    rintro e w1 h
    obtain ⟨k, P, v, rfl, rfl⟩ := h.ok
    have hz1 := k.size
    try simp at hz1
    have kk : KB w.heap.size pb w w1 := by refine KB.trans ?_ (k.mono (by (try simp) <;> omega)); (repeat (first | with_reducible exact HK0.out | with_reducible refine KB.setNew ?_ (by omega) _ | with_reducible refine KB.alloc ?_ _ (by (try simp) <;> omega)))
    have hr : w1.heap[w.heap.size + 1]? = some (.cells #[.int .u8 0, .slice none 0 0, .int .u8 0, .int .i64 0, .int .i64 0, .int .i64 0, .slice none 0 0, .int .i64 0] 36 (0, 0)) := ObjRow.keep k (row_new _ _ _ (by simp)) (by simp) (by omega)
    have hb0 : w1.heap[w.heap.size]? = some (.cells #[.map (some mb)] 83 (0, 0)) := ObjRow.keep k (row_alloc (row_new _ _ _ rfl) _) (by (try simp) <;> omega) (by omega)
    have hm1 := Hm0.out.keep ((k.block mb (by (try simp) <;> omega) hne).trans ((row_alloc_eq _ _ (by (try simp) <;> omega)).trans (row_alloc_eq _ _ hml)))
    have hlook := run_look Tryz.underlying83 Tryz.underlying9 (zeroRd _) (hm1.keep (row_alloc_eq w1 (.cells #[.int .u8 kd, .string tx, .int .i64 nm, .int .i64 off] 62) hm1.lt)) tx
    rw [show assocB tx tab = some (.func (.func 104) #[] #[]) from Hlk.out] at hlook
    dsimp only [Option.getD] at hlook
    have hc0 := one_cell hb0
    have hbl := cell_lt' hc0
    have Hhr := Lib.hid hr
    have HK1 := Lib.hid kk
    have HP1 := Lib.hid P
    clear k P h kk hr hb0 hm1
    unfold Tok.val
    go_wp2_with (fail)
    go_at_call 104
    refine (HX.out _ (by repeat (first | with_reducible exact HP1.out | with_reducible refine PSt.setNew ?_ (by omega) _ | with_reducible refine PSt.kept ?_ (World.grownBy_alloc _ _ none) (by simp)))).mono ?_
    rintro e w2 h
    obtain ⟨k, P, v, rfl, vn, vi, rfl, hsn, hsi⟩ := h.ok
    have hz2 := k.size
    try simp at hz2
    have kk : KB w.heap.size pb w w2 := by refine KB.trans ?_ (k.mono (by (try simp) <;> omega)); (repeat (first | with_reducible exact HK1.out | with_reducible refine KB.setNew ?_ (by omega) _ | with_reducible refine KB.alloc ?_ _ (by (try simp) <;> omega)))
    have hr := ObjRow.keep k (row_alloc Hhr.out (.cells #[.int .u8 kd, .string tx, .int .i64 nm, .int .i64 off] 62)) (by (try simp) <;> omega) (by omega)
    have ht : w2.heap[w1.heap.size]? = some (.cells #[.int .u8 kd, .string tx, .int .i64 nm, .int .i64 off] 62 (0, 0)) := ObjRow.keep k (row_new _ _ _ rfl) (by simp) (by omega)
    obtain ⟨A1, m1, p1, rfl⟩ := hsn.shape
    obtain ⟨A2, m2, p2, rfl⟩ := hsi.shape
    obtain ⟨z0, z1, z2, z3, z4, z5, z6, z7⟩ := eight_cells hr
    obtain ⟨g0, g1, g2, g3, g4, g5, g6, g7⟩ := eight_frozen hr
    obtain ⟨t0, t1, t2, t3⟩ := four_cells ht
    have Hhr2 := Lib.hid hr
    have HK2 := Lib.hid kk
    have HP2 := Lib.hid P
    have Hsn := Lib.hid hsn
    have Hsi := Lib.hid hsi
    have hx1 : w1.heap.size < w2.heap.size := by omega
    have hx2 : w.heap.size + 1 < w2.heap.size := by omega
    have hlo : w1.heap.size < (w1.alloc (.cells #[.int .u8 kd, .string tx, .int .i64 nm, .int .i64 off] 62)).heap.size := by simp
    clear k P h kk hr ht hsn hsi hc0
    go_wp2_with (fail)
    refine ret8 (i := 4) (b := w.heap.size + 1) rfl rfl rfl (row_alloc (row_store8 Hhr2.out (.int .u8 c.kind) (.slice A1 m1 p1) (.int .u8 c.dom) (.int .i64 c.idx) (.int .i64 c.a) (.int .i64 c.b) (.slice A2 m2 p2) (.int .i64 off)) _) ⟨?_, ?_, _, rfl, _, _, rfl, ClV.lists Hsn.out Hsi.out (by omega) (by simp) (fun b hb hb2 => ?_)⟩
    · (repeat (first | with_reducible exact HK2.out | with_reducible refine KB.setNew ?_ (by omega) _ | with_reducible refine KB.alloc ?_ _ (by (try simp) <;> omega)))
    · exact (by repeat (first | with_reducible exact HP2.out | with_reducible refine PSt.setNew ?_ (by omega) _ | with_reducible refine PSt.kept ?_ (World.grownBy_alloc _ _ none) (by simp)))
    · have hne : b ≠ w.heap.size + 1 := by omega
      refine (row_alloc_eq _ _ (by simpa using hb2)).trans ?_
      simp only [heap_setCell_ne _ _ hne]

set_option maxHeartbeats 4000000 in
theorem cl_near (pb mb : Nat) (tab : List (ByteArray × Value)) (htab : ∀ x ∈ tab, ∃ f, x.2 = .func (.func f) #[] #[]) (hz0 : (assocB ⟨#[]⟩ tab).isSome = false) (l r1 : List Tok) (t : Tok) (en : Int) (w : World) (h : PSt w pb l en) (hm : MapIs w mb tab) (hne : mb ≠ pb)
    (hq1 : pNext (fun t => (assocB t.text tab).isSome) l = .ok (t, r1)) (hlk : assocB t.text tab = some (.func (.func 105) #[] #[])) (R : Rd Cl)
    (hX : ∀ w1, PSt w1 pb r1 en → Calls Tryz.prog 105 #[.pointer (some ⟨pb, 0, none⟩)] w1 (RdPost pb en w1 (ClV w1.heap.size) R)) :
    Calls Tryz.prog 50 #[.pointer (some ⟨pb, 0, none⟩), .map (some mb)] w (RdPost pb en w (ClV w.heap.size) (bindR R fun c r => .ok (c.withOff t.off, r))) := by
  have hlt := h.lt
  have hml := hm.lt
  have HP0 := Lib.hid h
  have HK0 := Lib.hid (KB.refl w.heap.size pb w)
  have Hm0 := Lib.hid hm
  have Hlk := Lib.hid hlk
  have Hq1 := Lib.hid hq1
  have HX := Lib.hid hX
  clear h hm hlk hq1 hX
  obtain ⟨kd, tx, nm, off⟩ := t
  cases R with
  | error r =>
    go_enter Tryz.func50, Tryz.ntmps50
    go_wp2_with (fail)
    go_at_call 69
    refine (c_next_clause pb l en _ w.heap.size (by repeat (first | with_reducible exact HP0.out | with_reducible refine PSt.setNew ?_ (by omega) _ | with_reducible refine PSt.kept ?_ (World.grownBy_alloc _ _ none) (by simp))) (fun t => (assocB t.text tab).isSome) hz0 (fun t w1 hb => c_clause1 t w.heap.size mb tab htab w1 (one_cell ((hb.block _ (by (try simp) <;> omega)).trans (row_alloc (row_new _ _ _ rfl) _))) (Hm0.out.keep ((hb.block mb (by (try simp) <;> omega)).trans ((row_alloc_eq _ _ (by (try simp) <;> omega)).trans (row_alloc_eq _ _ hml)))))).mono ?_
    rw [Hq1.out]
    rintro e w1 h
    obtain ⟨k, P, v, rfl, rfl⟩ := h.ok
    have hz1 := k.size
    try simp at hz1
    have kk : KB w.heap.size pb w w1 := by refine KB.trans ?_ (k.mono (by (try simp) <;> omega)); (repeat (first | with_reducible exact HK0.out | with_reducible refine KB.setNew ?_ (by omega) _ | with_reducible refine KB.alloc ?_ _ (by (try simp) <;> omega)))
    have hr : w1.heap[w.heap.size + 1]? = some (.cells #[.int .u8 0, .slice none 0 0, .int .u8 0, .int .i64 0, .int .i64 0, .int .i64 0, .slice none 0 0, .int .i64 0] 36 (0, 0)) := ObjRow.keep k (row_new _ _ _ (by simp)) (by simp) (by omega)
    have hb0 : w1.heap[w.heap.size]? = some (.cells #[.map (some mb)] 83 (0, 0)) := ObjRow.keep k (row_alloc (row_new _ _ _ rfl) _) (by (try simp) <;> omega) (by omega)
    have hm1 := Hm0.out.keep ((k.block mb (by (try simp) <;> omega) hne).trans ((row_alloc_eq _ _ (by (try simp) <;> omega)).trans (row_alloc_eq _ _ hml)))
    have hlook := run_look Tryz.underlying83 Tryz.underlying9 (zeroRd _) (hm1.keep (row_alloc_eq w1 (.cells #[.int .u8 kd, .string tx, .int .i64 nm, .int .i64 off] 62) hm1.lt)) tx
    rw [show assocB tx tab = some (.func (.func 105) #[] #[]) from Hlk.out] at hlook
    dsimp only [Option.getD] at hlook
    have hc0 := one_cell hb0
    have hbl := cell_lt' hc0
    have Hhr := Lib.hid hr
    have HK1 := Lib.hid kk
    have HP1 := Lib.hid P
    clear k P h kk hr hb0 hm1
    unfold Tok.val
    go_wp2_with (fail)
    go_at_call 105
    refine (HX.out _ (by repeat (first | with_reducible exact HP1.out | with_reducible refine PSt.setNew ?_ (by omega) _ | with_reducible refine PSt.kept ?_ (World.grownBy_alloc _ _ none) (by simp)))).mono ?_
    rintro e w2 h
    obtain ⟨k, P, rfl⟩ := h.error
    have kk : KB w.heap.size pb w w2 := by refine KB.trans ?_ (k.mono (by (try simp) <;> omega)); (repeat (first | with_reducible exact HK1.out | with_reducible refine KB.setNew ?_ (by omega) _ | with_reducible refine KB.alloc ?_ _ (by (try simp) <;> omega)))
    go_wp2_with (fail)
    exact ⟨rfl, kk, P, rfl⟩
  | ok y =>
    obtain ⟨c, r2⟩ := y
    go_enter Tryz.func50, Tryz.ntmps50
    go_wp2_with (fail)
    go_at_call 69
    refine (c_next_clause pb l en _ w.heap.size (by repeat (first | with_reducible exact HP0.out | with_reducible refine PSt.setNew ?_ (by omega) _ | with_reducible refine PSt.kept ?_ (World.grownBy_alloc _ _ none) (by simp))) (fun t => (assocB t.text tab).isSome) hz0 (fun t w1 hb => c_clause1 t w.heap.size mb tab htab w1 (one_cell ((hb.block _ (by (try simp) <;> omega)).trans (row_alloc (row_new _ _ _ rfl) _))) (Hm0.out.keep ((hb.block mb (by (try simp) <;> omega)).trans ((row_alloc_eq _ _ (by (try simp) <;> omega)).trans (row_alloc_eq _ _ hml)))))).mono ?_
    rw [Hq1.out]
    rintro e w1 h
    obtain ⟨k, P, v, rfl, rfl⟩ := h.ok
    have hz1 := k.size
    try simp at hz1
    have kk : KB w.heap.size pb w w1 := by refine KB.trans ?_ (k.mono (by (try simp) <;> omega)); (repeat (first | with_reducible exact HK0.out | with_reducible refine KB.setNew ?_ (by omega) _ | with_reducible refine KB.alloc ?_ _ (by (try simp) <;> omega)))
    have hr : w1.heap[w.heap.size + 1]? = some (.cells #[.int .u8 0, .slice none 0 0, .int .u8 0, .int .i64 0, .int .i64 0, .int .i64 0, .slice none 0 0, .int .i64 0] 36 (0, 0)) := ObjRow.keep k (row_new _ _ _ (by simp)) (by simp) (by omega)
    have hb0 : w1.heap[w.heap.size]? = some (.cells #[.map (some mb)] 83 (0, 0)) := ObjRow.keep k (row_alloc (row_new _ _ _ rfl) _) (by (try simp) <;> omega) (by omega)
    have hm1 := Hm0.out.keep ((k.block mb (by (try simp) <;> omega) hne).trans ((row_alloc_eq _ _ (by (try simp) <;> omega)).trans (row_alloc_eq _ _ hml)))
    have hlook := run_look Tryz.underlying83 Tryz.underlying9 (zeroRd _) (hm1.keep (row_alloc_eq w1 (.cells #[.int .u8 kd, .string tx, .int .i64 nm, .int .i64 off] 62) hm1.lt)) tx
    rw [show assocB tx tab = some (.func (.func 105) #[] #[]) from Hlk.out] at hlook
    dsimp only [Option.getD] at hlook
    have hc0 := one_cell hb0
    have hbl := cell_lt' hc0
    have Hhr := Lib.hid hr
    have HK1 := Lib.hid kk
    have HP1 := Lib.hid P
    clear k P h kk hr hb0 hm1
    unfold Tok.val
    go_wp2_with (fail)
    go_at_call 105
    refine (HX.out _ (by repeat (first | with_reducible exact HP1.out | with_reducible refine PSt.setNew ?_ (by omega) _ | with_reducible refine PSt.kept ?_ (World.grownBy_alloc _ _ none) (by simp)))).mono ?_
    rintro e w2 h
    obtain ⟨k, P, v, rfl, vn, vi, rfl, hsn, hsi⟩ := h.ok
    have hz2 := k.size
    try simp at hz2
    have kk : KB w.heap.size pb w w2 := by refine KB.trans ?_ (k.mono (by (try simp) <;> omega)); (repeat (first | with_reducible exact HK1.out | with_reducible refine KB.setNew ?_ (by omega) _ | with_reducible refine KB.alloc ?_ _ (by (try simp) <;> omega)))
    have hr := ObjRow.keep k (row_alloc Hhr.out (.cells #[.int .u8 kd, .string tx, .int .i64 nm, .int .i64 off] 62)) (by (try simp) <;> omega) (by omega)
    have ht : w2.heap[w1.heap.size]? = some (.cells #[.int .u8 kd, .string tx, .int .i64 nm, .int .i64 off] 62 (0, 0)) := ObjRow.keep k (row_new _ _ _ rfl) (by simp) (by omega)
    obtain ⟨A1, m1, p1, rfl⟩ := hsn.shape
    obtain ⟨A2, m2, p2, rfl⟩ := hsi.shape
    obtain ⟨z0, z1, z2, z3, z4, z5, z6, z7⟩ := eight_cells hr
    obtain ⟨g0, g1, g2, g3, g4, g5, g6, g7⟩ := eight_frozen hr
    obtain ⟨t0, t1, t2, t3⟩ := four_cells ht
    have Hhr2 := Lib.hid hr
    have HK2 := Lib.hid kk
    have HP2 := Lib.hid P
    have Hsn := Lib.hid hsn
    have Hsi := Lib.hid hsi
    have hx1 : w1.heap.size < w2.heap.size := by omega
    have hx2 : w.heap.size + 1 < w2.heap.size := by omega
    have hlo : w1.heap.size < (w1.alloc (.cells #[.int .u8 kd, .string tx, .int .i64 nm, .int .i64 off] 62)).heap.size := by simp
    clear k P h kk hr ht hsn hsi hc0
    go_wp2_with (fail)
    refine ret8 (i := 4) (b := w.heap.size + 1) rfl rfl rfl (row_alloc (row_store8 Hhr2.out (.int .u8 c.kind) (.slice A1 m1 p1) (.int .u8 c.dom) (.int .i64 c.idx) (.int .i64 c.a) (.int .i64 c.b) (.slice A2 m2 p2) (.int .i64 off)) _) ⟨?_, ?_, _, rfl, _, _, rfl, ClV.lists Hsn.out Hsi.out (by omega) (by simp) (fun b hb hb2 => ?_)⟩
    · (repeat (first | with_reducible exact HK2.out | with_reducible refine KB.setNew ?_ (by omega) _ | with_reducible refine KB.alloc ?_ _ (by (try simp) <;> omega)))
    · exact (by repeat (first | with_reducible exact HP2.out | with_reducible refine PSt.setNew ?_ (by omega) _ | with_reducible refine PSt.kept ?_ (World.grownBy_alloc _ _ none) (by simp)))
    · have hne : b ≠ w.heap.size + 1 := by omega
      refine (row_alloc_eq _ _ (by simpa using hb2)).trans ?_
      simp only [heap_setCell_ne _ _ hne]

set_option maxHeartbeats 4000000 in
theorem cl_firmware (pb mb : Nat) (tab : List (ByteArray × Value)) (htab : ∀ x ∈ tab, ∃ f, x.2 = .func (.func f) #[] #[]) (hz0 : (assocB ⟨#[]⟩ tab).isSome = false) (l r1 : List Tok) (t : Tok) (en : Int) (w : World) (h : PSt w pb l en) (hm : MapIs w mb tab) (hne : mb ≠ pb)
    (hq1 : pNext (fun t => (assocB t.text tab).isSome) l = .ok (t, r1)) (hlk : assocB t.text tab = some (.func (.func 106) #[] #[])) (R : Rd Cl)
    (hX : ∀ w1, PSt w1 pb r1 en → Calls Tryz.prog 106 #[.pointer (some ⟨pb, 0, none⟩)] w1 (RdPost pb en w1 (ClV w1.heap.size) R)) :
    Calls Tryz.prog 50 #[.pointer (some ⟨pb, 0, none⟩), .map (some mb)] w (RdPost pb en w (ClV w.heap.size) (bindR R fun c r => .ok (c.withOff t.off, r))) := by
  have hlt := h.lt
  have hml := hm.lt
  have HP0 := Lib.hid h
  have HK0 := Lib.hid (KB.refl w.heap.size pb w)
  have Hm0 := Lib.hid hm
  have Hlk := Lib.hid hlk
  have Hq1 := Lib.hid hq1
  have HX := Lib.hid hX
  clear h hm hlk hq1 hX
  obtain ⟨kd, tx, nm, off⟩ := t
  cases R with
  | error r =>
    go_enter Tryz.func50, Tryz.ntmps50
    go_wp2_with (fail)
    go_at_call 69
    refine (c_next_clause pb l en _ w.heap.size (by repeat (first | with_reducible exact HP0.out | with_reducible refine PSt.setNew ?_ (by omega) _ | with_reducible refine PSt.kept ?_ (World.grownBy_alloc _ _ none) (by simp))) (fun t => (assocB t.text tab).isSome) hz0 (fun t w1 hb => c_clause1 t w.heap.size mb tab htab w1 (one_cell ((hb.block _ (by (try simp) <;> omega)).trans (row_alloc (row_new _ _ _ rfl) _))) (Hm0.out.keep ((hb.block mb (by (try simp) <;> omega)).trans ((row_alloc_eq _ _ (by (try simp) <;> omega)).trans (row_alloc_eq _ _ hml)))))).mono ?_
    rw [Hq1.out]
    rintro e w1 h
    obtain ⟨k, P, v, rfl, rfl⟩ := h.ok
    have hz1 := k.size
    try simp at hz1
    have kk : KB w.heap.size pb w w1 := by refine KB.trans ?_ (k.mono (by (try simp) <;> omega)); (repeat (first | with_reducible exact HK0.out | with_reducible refine KB.setNew ?_ (by omega) _ | with_reducible refine KB.alloc ?_ _ (by (try simp) <;> omega)))
    have hr : w1.heap[w.heap.size + 1]? = some (.cells #[.int .u8 0, .slice none 0 0, .int .u8 0, .int .i64 0, .int .i64 0, .int .i64 0, .slice none 0 0, .int .i64 0] 36 (0, 0)) := ObjRow.keep k (row_new _ _ _ (by simp)) (by simp) (by omega)
    have hb0 : w1.heap[w.heap.size]? = some (.cells #[.map (some mb)] 83 (0, 0)) := ObjRow.keep k (row_alloc (row_new _ _ _ rfl) _) (by (try simp) <;> omega) (by omega)
    have hm1 := Hm0.out.keep ((k.block mb (by (try simp) <;> omega) hne).trans ((row_alloc_eq _ _ (by (try simp) <;> omega)).trans (row_alloc_eq _ _ hml)))
    have hlook := run_look Tryz.underlying83 Tryz.underlying9 (zeroRd _) (hm1.keep (row_alloc_eq w1 (.cells #[.int .u8 kd, .string tx, .int .i64 nm, .int .i64 off] 62) hm1.lt)) tx
    rw [show assocB tx tab = some (.func (.func 106) #[] #[]) from Hlk.out] at hlook
    dsimp only [Option.getD] at hlook
    have hc0 := one_cell hb0
    have hbl := cell_lt' hc0
    have Hhr := Lib.hid hr
    have HK1 := Lib.hid kk
    have HP1 := Lib.hid P
    clear k P h kk hr hb0 hm1
    unfold Tok.val
    go_wp2_with (fail)
    go_at_call 106
    refine (HX.out _ (by repeat (first | with_reducible exact HP1.out | with_reducible refine PSt.setNew ?_ (by omega) _ | with_reducible refine PSt.kept ?_ (World.grownBy_alloc _ _ none) (by simp)))).mono ?_
    rintro e w2 h
    obtain ⟨k, P, rfl⟩ := h.error
    have kk : KB w.heap.size pb w w2 := by refine KB.trans ?_ (k.mono (by (try simp) <;> omega)); (repeat (first | with_reducible exact HK1.out | with_reducible refine KB.setNew ?_ (by omega) _ | with_reducible refine KB.alloc ?_ _ (by (try simp) <;> omega)))
    go_wp2_with (fail)
    exact ⟨rfl, kk, P, rfl⟩
  | ok y =>
    obtain ⟨c, r2⟩ := y
    go_enter Tryz.func50, Tryz.ntmps50
    go_wp2_with (fail)
    go_at_call 69
    refine (c_next_clause pb l en _ w.heap.size (by repeat (first | with_reducible exact HP0.out | with_reducible refine PSt.setNew ?_ (by omega) _ | with_reducible refine PSt.kept ?_ (World.grownBy_alloc _ _ none) (by simp))) (fun t => (assocB t.text tab).isSome) hz0 (fun t w1 hb => c_clause1 t w.heap.size mb tab htab w1 (one_cell ((hb.block _ (by (try simp) <;> omega)).trans (row_alloc (row_new _ _ _ rfl) _))) (Hm0.out.keep ((hb.block mb (by (try simp) <;> omega)).trans ((row_alloc_eq _ _ (by (try simp) <;> omega)).trans (row_alloc_eq _ _ hml)))))).mono ?_
    rw [Hq1.out]
    rintro e w1 h
    obtain ⟨k, P, v, rfl, rfl⟩ := h.ok
    have hz1 := k.size
    try simp at hz1
    have kk : KB w.heap.size pb w w1 := by refine KB.trans ?_ (k.mono (by (try simp) <;> omega)); (repeat (first | with_reducible exact HK0.out | with_reducible refine KB.setNew ?_ (by omega) _ | with_reducible refine KB.alloc ?_ _ (by (try simp) <;> omega)))
    have hr : w1.heap[w.heap.size + 1]? = some (.cells #[.int .u8 0, .slice none 0 0, .int .u8 0, .int .i64 0, .int .i64 0, .int .i64 0, .slice none 0 0, .int .i64 0] 36 (0, 0)) := ObjRow.keep k (row_new _ _ _ (by simp)) (by simp) (by omega)
    have hb0 : w1.heap[w.heap.size]? = some (.cells #[.map (some mb)] 83 (0, 0)) := ObjRow.keep k (row_alloc (row_new _ _ _ rfl) _) (by (try simp) <;> omega) (by omega)
    have hm1 := Hm0.out.keep ((k.block mb (by (try simp) <;> omega) hne).trans ((row_alloc_eq _ _ (by (try simp) <;> omega)).trans (row_alloc_eq _ _ hml)))
    have hlook := run_look Tryz.underlying83 Tryz.underlying9 (zeroRd _) (hm1.keep (row_alloc_eq w1 (.cells #[.int .u8 kd, .string tx, .int .i64 nm, .int .i64 off] 62) hm1.lt)) tx
    rw [show assocB tx tab = some (.func (.func 106) #[] #[]) from Hlk.out] at hlook
    dsimp only [Option.getD] at hlook
    have hc0 := one_cell hb0
    have hbl := cell_lt' hc0
    have Hhr := Lib.hid hr
    have HK1 := Lib.hid kk
    have HP1 := Lib.hid P
    clear k P h kk hr hb0 hm1
    unfold Tok.val
    go_wp2_with (fail)
    go_at_call 106
    refine (HX.out _ (by repeat (first | with_reducible exact HP1.out | with_reducible refine PSt.setNew ?_ (by omega) _ | with_reducible refine PSt.kept ?_ (World.grownBy_alloc _ _ none) (by simp)))).mono ?_
    rintro e w2 h
    obtain ⟨k, P, v, rfl, vn, vi, rfl, hsn, hsi⟩ := h.ok
    have hz2 := k.size
    try simp at hz2
    have kk : KB w.heap.size pb w w2 := by refine KB.trans ?_ (k.mono (by (try simp) <;> omega)); (repeat (first | with_reducible exact HK1.out | with_reducible refine KB.setNew ?_ (by omega) _ | with_reducible refine KB.alloc ?_ _ (by (try simp) <;> omega)))
    have hr := ObjRow.keep k (row_alloc Hhr.out (.cells #[.int .u8 kd, .string tx, .int .i64 nm, .int .i64 off] 62)) (by (try simp) <;> omega) (by omega)
    have ht : w2.heap[w1.heap.size]? = some (.cells #[.int .u8 kd, .string tx, .int .i64 nm, .int .i64 off] 62 (0, 0)) := ObjRow.keep k (row_new _ _ _ rfl) (by simp) (by omega)
    obtain ⟨A1, m1, p1, rfl⟩ := hsn.shape
    obtain ⟨A2, m2, p2, rfl⟩ := hsi.shape
    obtain ⟨z0, z1, z2, z3, z4, z5, z6, z7⟩ := eight_cells hr
    obtain ⟨g0, g1, g2, g3, g4, g5, g6, g7⟩ := eight_frozen hr
    obtain ⟨t0, t1, t2, t3⟩ := four_cells ht
    have Hhr2 := Lib.hid hr
    have HK2 := Lib.hid kk
    have HP2 := Lib.hid P
    have Hsn := Lib.hid hsn
    have Hsi := Lib.hid hsi
    have hx1 : w1.heap.size < w2.heap.size := by omega
    have hx2 : w.heap.size + 1 < w2.heap.size := by omega
    have hlo : w1.heap.size < (w1.alloc (.cells #[.int .u8 kd, .string tx, .int .i64 nm, .int .i64 off] 62)).heap.size := by simp
    clear k P h kk hr ht hsn hsi hc0
    go_wp2_with (fail)
    refine ret8 (i := 4) (b := w.heap.size + 1) rfl rfl rfl (row_alloc (row_store8 Hhr2.out (.int .u8 c.kind) (.slice A1 m1 p1) (.int .u8 c.dom) (.int .i64 c.idx) (.int .i64 c.a) (.int .i64 c.b) (.slice A2 m2 p2) (.int .i64 off)) _) ⟨?_, ?_, _, rfl, _, _, rfl, ClV.lists Hsn.out Hsi.out (by omega) (by simp) (fun b hb hb2 => ?_)⟩
    · (repeat (first | with_reducible exact HK2.out | with_reducible refine KB.setNew ?_ (by omega) _ | with_reducible refine KB.alloc ?_ _ (by (try simp) <;> omega)))
    · exact (by repeat (first | with_reducible exact HP2.out | with_reducible refine PSt.setNew ?_ (by omega) _ | with_reducible refine PSt.kept ?_ (World.grownBy_alloc _ _ none) (by simp)))
    · have hne : b ≠ w.heap.size + 1 := by omega
      refine (row_alloc_eq _ _ (by simpa using hb2)).trans ?_
      simp only [heap_setCell_ne _ _ hne]

set_option maxHeartbeats 4000000 in
theorem cl_window (pb mb : Nat) (tab : List (ByteArray × Value)) (htab : ∀ x ∈ tab, ∃ f, x.2 = .func (.func f) #[] #[]) (hz0 : (assocB ⟨#[]⟩ tab).isSome = false) (l r1 : List Tok) (t : Tok) (en : Int) (w : World) (h : PSt w pb l en) (hm : MapIs w mb tab) (hne : mb ≠ pb)
    (hq1 : pNext (fun t => (assocB t.text tab).isSome) l = .ok (t, r1)) (hlk : assocB t.text tab = some (.func (.func 65) #[] #[])) (R : Rd Cl)
    (hX : ∀ w1, PSt w1 pb r1 en → Calls Tryz.prog 65 #[.pointer (some ⟨pb, 0, none⟩)] w1 (RdPost pb en w1 (ClV w1.heap.size) R)) :
    Calls Tryz.prog 50 #[.pointer (some ⟨pb, 0, none⟩), .map (some mb)] w (RdPost pb en w (ClV w.heap.size) (bindR R fun c r => .ok (c.withOff t.off, r))) := by
  have hlt := h.lt
  have hml := hm.lt
  have HP0 := Lib.hid h
  have HK0 := Lib.hid (KB.refl w.heap.size pb w)
  have Hm0 := Lib.hid hm
  have Hlk := Lib.hid hlk
  have Hq1 := Lib.hid hq1
  have HX := Lib.hid hX
  clear h hm hlk hq1 hX
  obtain ⟨kd, tx, nm, off⟩ := t
  cases R with
  | error r =>
    go_enter Tryz.func50, Tryz.ntmps50
    go_wp2_with (fail)
    go_at_call 69
    refine (c_next_clause pb l en _ w.heap.size (by repeat (first | with_reducible exact HP0.out | with_reducible refine PSt.setNew ?_ (by omega) _ | with_reducible refine PSt.kept ?_ (World.grownBy_alloc _ _ none) (by simp))) (fun t => (assocB t.text tab).isSome) hz0 (fun t w1 hb => c_clause1 t w.heap.size mb tab htab w1 (one_cell ((hb.block _ (by (try simp) <;> omega)).trans (row_alloc (row_new _ _ _ rfl) _))) (Hm0.out.keep ((hb.block mb (by (try simp) <;> omega)).trans ((row_alloc_eq _ _ (by (try simp) <;> omega)).trans (row_alloc_eq _ _ hml)))))).mono ?_
    rw [Hq1.out]
    rintro e w1 h
    obtain ⟨k, P, v, rfl, rfl⟩ := h.ok
    have hz1 := k.size
    try simp at hz1
    have kk : KB w.heap.size pb w w1 := by refine KB.trans ?_ (k.mono (by (try simp) <;> omega)); (repeat (first | with_reducible exact HK0.out | with_reducible refine KB.setNew ?_ (by omega) _ | with_reducible refine KB.alloc ?_ _ (by (try simp) <;> omega)))
    have hr : w1.heap[w.heap.size + 1]? = some (.cells #[.int .u8 0, .slice none 0 0, .int .u8 0, .int .i64 0, .int .i64 0, .int .i64 0, .slice none 0 0, .int .i64 0] 36 (0, 0)) := ObjRow.keep k (row_new _ _ _ (by simp)) (by simp) (by omega)
    have hb0 : w1.heap[w.heap.size]? = some (.cells #[.map (some mb)] 83 (0, 0)) := ObjRow.keep k (row_alloc (row_new _ _ _ rfl) _) (by (try simp) <;> omega) (by omega)
    have hm1 := Hm0.out.keep ((k.block mb (by (try simp) <;> omega) hne).trans ((row_alloc_eq _ _ (by (try simp) <;> omega)).trans (row_alloc_eq _ _ hml)))
    have hlook := run_look Tryz.underlying83 Tryz.underlying9 (zeroRd _) (hm1.keep (row_alloc_eq w1 (.cells #[.int .u8 kd, .string tx, .int .i64 nm, .int .i64 off] 62) hm1.lt)) tx
    rw [show assocB tx tab = some (.func (.func 65) #[] #[]) from Hlk.out] at hlook
    dsimp only [Option.getD] at hlook
    have hc0 := one_cell hb0
    have hbl := cell_lt' hc0
    have Hhr := Lib.hid hr
    have HK1 := Lib.hid kk
    have HP1 := Lib.hid P
    clear k P h kk hr hb0 hm1
    unfold Tok.val
    go_wp2_with (fail)
    go_at_call 65
    refine (HX.out _ (by repeat (first | with_reducible exact HP1.out | with_reducible refine PSt.setNew ?_ (by omega) _ | with_reducible refine PSt.kept ?_ (World.grownBy_alloc _ _ none) (by simp)))).mono ?_
    rintro e w2 h
    obtain ⟨k, P, rfl⟩ := h.error
    have kk : KB w.heap.size pb w w2 := by refine KB.trans ?_ (k.mono (by (try simp) <;> omega)); (repeat (first | with_reducible exact HK1.out | with_reducible refine KB.setNew ?_ (by omega) _ | with_reducible refine KB.alloc ?_ _ (by (try simp) <;> omega)))
    go_wp2_with (fail)
    exact ⟨rfl, kk, P, rfl⟩
  | ok y =>
    obtain ⟨c, r2⟩ := y
    go_enter Tryz.func50, Tryz.ntmps50
    go_wp2_with (fail)
    go_at_call 69
    refine (c_next_clause pb l en _ w.heap.size (by repeat (first | with_reducible exact HP0.out | with_reducible refine PSt.setNew ?_ (by omega) _ | with_reducible refine PSt.kept ?_ (World.grownBy_alloc _ _ none) (by simp))) (fun t => (assocB t.text tab).isSome) hz0 (fun t w1 hb => c_clause1 t w.heap.size mb tab htab w1 (one_cell ((hb.block _ (by (try simp) <;> omega)).trans (row_alloc (row_new _ _ _ rfl) _))) (Hm0.out.keep ((hb.block mb (by (try simp) <;> omega)).trans ((row_alloc_eq _ _ (by (try simp) <;> omega)).trans (row_alloc_eq _ _ hml)))))).mono ?_
    rw [Hq1.out]
    rintro e w1 h
    obtain ⟨k, P, v, rfl, rfl⟩ := h.ok
    have hz1 := k.size
    try simp at hz1
    have kk : KB w.heap.size pb w w1 := by refine KB.trans ?_ (k.mono (by (try simp) <;> omega)); (repeat (first | with_reducible exact HK0.out | with_reducible refine KB.setNew ?_ (by omega) _ | with_reducible refine KB.alloc ?_ _ (by (try simp) <;> omega)))
    have hr : w1.heap[w.heap.size + 1]? = some (.cells #[.int .u8 0, .slice none 0 0, .int .u8 0, .int .i64 0, .int .i64 0, .int .i64 0, .slice none 0 0, .int .i64 0] 36 (0, 0)) := ObjRow.keep k (row_new _ _ _ (by simp)) (by simp) (by omega)
    have hb0 : w1.heap[w.heap.size]? = some (.cells #[.map (some mb)] 83 (0, 0)) := ObjRow.keep k (row_alloc (row_new _ _ _ rfl) _) (by (try simp) <;> omega) (by omega)
    have hm1 := Hm0.out.keep ((k.block mb (by (try simp) <;> omega) hne).trans ((row_alloc_eq _ _ (by (try simp) <;> omega)).trans (row_alloc_eq _ _ hml)))
    have hlook := run_look Tryz.underlying83 Tryz.underlying9 (zeroRd _) (hm1.keep (row_alloc_eq w1 (.cells #[.int .u8 kd, .string tx, .int .i64 nm, .int .i64 off] 62) hm1.lt)) tx
    rw [show assocB tx tab = some (.func (.func 65) #[] #[]) from Hlk.out] at hlook
    dsimp only [Option.getD] at hlook
    have hc0 := one_cell hb0
    have hbl := cell_lt' hc0
    have Hhr := Lib.hid hr
    have HK1 := Lib.hid kk
    have HP1 := Lib.hid P
    clear k P h kk hr hb0 hm1
    unfold Tok.val
    go_wp2_with (fail)
    go_at_call 65
    refine (HX.out _ (by repeat (first | with_reducible exact HP1.out | with_reducible refine PSt.setNew ?_ (by omega) _ | with_reducible refine PSt.kept ?_ (World.grownBy_alloc _ _ none) (by simp)))).mono ?_
    rintro e w2 h
    obtain ⟨k, P, v, rfl, vn, vi, rfl, hsn, hsi⟩ := h.ok
    have hz2 := k.size
    try simp at hz2
    have kk : KB w.heap.size pb w w2 := by refine KB.trans ?_ (k.mono (by (try simp) <;> omega)); (repeat (first | with_reducible exact HK1.out | with_reducible refine KB.setNew ?_ (by omega) _ | with_reducible refine KB.alloc ?_ _ (by (try simp) <;> omega)))
    have hr := ObjRow.keep k (row_alloc Hhr.out (.cells #[.int .u8 kd, .string tx, .int .i64 nm, .int .i64 off] 62)) (by (try simp) <;> omega) (by omega)
    have ht : w2.heap[w1.heap.size]? = some (.cells #[.int .u8 kd, .string tx, .int .i64 nm, .int .i64 off] 62 (0, 0)) := ObjRow.keep k (row_new _ _ _ rfl) (by simp) (by omega)
    obtain ⟨A1, m1, p1, rfl⟩ := hsn.shape
    obtain ⟨A2, m2, p2, rfl⟩ := hsi.shape
    obtain ⟨z0, z1, z2, z3, z4, z5, z6, z7⟩ := eight_cells hr
    obtain ⟨g0, g1, g2, g3, g4, g5, g6, g7⟩ := eight_frozen hr
    obtain ⟨t0, t1, t2, t3⟩ := four_cells ht
    have Hhr2 := Lib.hid hr
    have HK2 := Lib.hid kk
    have HP2 := Lib.hid P
    have Hsn := Lib.hid hsn
    have Hsi := Lib.hid hsi
    have hx1 : w1.heap.size < w2.heap.size := by omega
    have hx2 : w.heap.size + 1 < w2.heap.size := by omega
    have hlo : w1.heap.size < (w1.alloc (.cells #[.int .u8 kd, .string tx, .int .i64 nm, .int .i64 off] 62)).heap.size := by simp
    clear k P h kk hr ht hsn hsi hc0
    go_wp2_with (fail)
    refine ret8 (i := 4) (b := w.heap.size + 1) rfl rfl rfl (row_alloc (row_store8 Hhr2.out (.int .u8 c.kind) (.slice A1 m1 p1) (.int .u8 c.dom) (.int .i64 c.idx) (.int .i64 c.a) (.int .i64 c.b) (.slice A2 m2 p2) (.int .i64 off)) _) ⟨?_, ?_, _, rfl, _, _, rfl, ClV.lists Hsn.out Hsi.out (by omega) (by simp) (fun b hb hb2 => ?_)⟩
    · (repeat (first | with_reducible exact HK2.out | with_reducible refine KB.setNew ?_ (by omega) _ | with_reducible refine KB.alloc ?_ _ (by (try simp) <;> omega)))
    · exact (by repeat (first | with_reducible exact HP2.out | with_reducible refine PSt.setNew ?_ (by omega) _ | with_reducible refine PSt.kept ?_ (World.grownBy_alloc _ _ none) (by simp)))
    · have hne : b ≠ w.heap.size + 1 := by omega
      refine (row_alloc_eq _ _ (by simpa using hb2)).trans ?_
      simp only [heap_setCell_ne _ _ hne]
end Go.Proofs.YtplnnpkohdmiaaaGreatDoor

/- DERIVED. The landed parser's clause at the readers: approve, blast, cap, service. -/
namespace Go.Proofs.YtplnnpkohdmiaaaGreatDoor
open Go.RowKit
set_option maxRecDepth 100000

set_option maxHeartbeats 4000000 in
theorem cl_approve (pb mb : Nat) (tab : List (ByteArray × Value)) (htab : ∀ x ∈ tab, ∃ f, x.2 = .func (.func f) #[] #[]) (hz0 : (assocB ⟨#[]⟩ tab).isSome = false) (l r1 : List Tok) (t : Tok) (en : Int) (w : World) (h : PSt w pb l en) (hm : MapIs w mb tab) (hne : mb ≠ pb)
    (hq1 : pNext (fun t => (assocB t.text tab).isSome) l = .ok (t, r1)) (hlk : assocB t.text tab = some (.func (.func 66) #[] #[])) (R : Rd Cl)
    (hX : ∀ w1, PSt w1 pb r1 en → Calls Tryz.prog 66 #[.pointer (some ⟨pb, 0, none⟩)] w1 (RdPost pb en w1 (ClV w1.heap.size) R)) :
    Calls Tryz.prog 50 #[.pointer (some ⟨pb, 0, none⟩), .map (some mb)] w (RdPost pb en w (ClV w.heap.size) (bindR R fun c r => .ok (c.withOff t.off, r))) := by
  have hlt := h.lt
  have hml := hm.lt
  have HP0 := Lib.hid h
  have HK0 := Lib.hid (KB.refl w.heap.size pb w)
  have Hm0 := Lib.hid hm
  have Hlk := Lib.hid hlk
  have Hq1 := Lib.hid hq1
  have HX := Lib.hid hX
  clear h hm hlk hq1 hX
  obtain ⟨kd, tx, nm, off⟩ := t
  cases R with
  | error r =>
    go_enter Tryz.func50, Tryz.ntmps50
    go_wp2_with (fail)
    go_at_call 69
    refine (c_next_clause pb l en _ w.heap.size (by repeat (first | with_reducible exact HP0.out | with_reducible refine PSt.setNew ?_ (by omega) _ | with_reducible refine PSt.kept ?_ (World.grownBy_alloc _ _ none) (by simp))) (fun t => (assocB t.text tab).isSome) hz0 (fun t w1 hb => c_clause1 t w.heap.size mb tab htab w1 (one_cell ((hb.block _ (by (try simp) <;> omega)).trans (row_alloc (row_new _ _ _ rfl) _))) (Hm0.out.keep ((hb.block mb (by (try simp) <;> omega)).trans ((row_alloc_eq _ _ (by (try simp) <;> omega)).trans (row_alloc_eq _ _ hml)))))).mono ?_
    rw [Hq1.out]
    rintro e w1 h
    obtain ⟨k, P, v, rfl, rfl⟩ := h.ok
    have hz1 := k.size
    try simp at hz1
    have kk : KB w.heap.size pb w w1 := by refine KB.trans ?_ (k.mono (by (try simp) <;> omega)); (repeat (first | with_reducible exact HK0.out | with_reducible refine KB.setNew ?_ (by omega) _ | with_reducible refine KB.alloc ?_ _ (by (try simp) <;> omega)))
    have hr : w1.heap[w.heap.size + 1]? = some (.cells #[.int .u8 0, .slice none 0 0, .int .u8 0, .int .i64 0, .int .i64 0, .int .i64 0, .slice none 0 0, .int .i64 0] 36 (0, 0)) := ObjRow.keep k (row_new _ _ _ (by simp)) (by simp) (by omega)
    have hb0 : w1.heap[w.heap.size]? = some (.cells #[.map (some mb)] 83 (0, 0)) := ObjRow.keep k (row_alloc (row_new _ _ _ rfl) _) (by (try simp) <;> omega) (by omega)
    have hm1 := Hm0.out.keep ((k.block mb (by (try simp) <;> omega) hne).trans ((row_alloc_eq _ _ (by (try simp) <;> omega)).trans (row_alloc_eq _ _ hml)))
    have hlook := run_look Tryz.underlying83 Tryz.underlying9 (zeroRd _) (hm1.keep (row_alloc_eq w1 (.cells #[.int .u8 kd, .string tx, .int .i64 nm, .int .i64 off] 62) hm1.lt)) tx
    rw [show assocB tx tab = some (.func (.func 66) #[] #[]) from Hlk.out] at hlook
    dsimp only [Option.getD] at hlook
    have hc0 := one_cell hb0
    have hbl := cell_lt' hc0
    have Hhr := Lib.hid hr
    have HK1 := Lib.hid kk
    have HP1 := Lib.hid P
    clear k P h kk hr hb0 hm1
    unfold Tok.val
    go_wp2_with (fail)
    go_at_call 66
    refine (HX.out _ (by repeat (first | with_reducible exact HP1.out | with_reducible refine PSt.setNew ?_ (by omega) _ | with_reducible refine PSt.kept ?_ (World.grownBy_alloc _ _ none) (by simp)))).mono ?_
    rintro e w2 h
    obtain ⟨k, P, rfl⟩ := h.error
    have kk : KB w.heap.size pb w w2 := by refine KB.trans ?_ (k.mono (by (try simp) <;> omega)); (repeat (first | with_reducible exact HK1.out | with_reducible refine KB.setNew ?_ (by omega) _ | with_reducible refine KB.alloc ?_ _ (by (try simp) <;> omega)))
    go_wp2_with (fail)
    exact ⟨rfl, kk, P, rfl⟩
  | ok y =>
    obtain ⟨c, r2⟩ := y
    go_enter Tryz.func50, Tryz.ntmps50
    go_wp2_with (fail)
    go_at_call 69
    refine (c_next_clause pb l en _ w.heap.size (by repeat (first | with_reducible exact HP0.out | with_reducible refine PSt.setNew ?_ (by omega) _ | with_reducible refine PSt.kept ?_ (World.grownBy_alloc _ _ none) (by simp))) (fun t => (assocB t.text tab).isSome) hz0 (fun t w1 hb => c_clause1 t w.heap.size mb tab htab w1 (one_cell ((hb.block _ (by (try simp) <;> omega)).trans (row_alloc (row_new _ _ _ rfl) _))) (Hm0.out.keep ((hb.block mb (by (try simp) <;> omega)).trans ((row_alloc_eq _ _ (by (try simp) <;> omega)).trans (row_alloc_eq _ _ hml)))))).mono ?_
    rw [Hq1.out]
    rintro e w1 h
    obtain ⟨k, P, v, rfl, rfl⟩ := h.ok
    have hz1 := k.size
    try simp at hz1
    have kk : KB w.heap.size pb w w1 := by refine KB.trans ?_ (k.mono (by (try simp) <;> omega)); (repeat (first | with_reducible exact HK0.out | with_reducible refine KB.setNew ?_ (by omega) _ | with_reducible refine KB.alloc ?_ _ (by (try simp) <;> omega)))
    have hr : w1.heap[w.heap.size + 1]? = some (.cells #[.int .u8 0, .slice none 0 0, .int .u8 0, .int .i64 0, .int .i64 0, .int .i64 0, .slice none 0 0, .int .i64 0] 36 (0, 0)) := ObjRow.keep k (row_new _ _ _ (by simp)) (by simp) (by omega)
    have hb0 : w1.heap[w.heap.size]? = some (.cells #[.map (some mb)] 83 (0, 0)) := ObjRow.keep k (row_alloc (row_new _ _ _ rfl) _) (by (try simp) <;> omega) (by omega)
    have hm1 := Hm0.out.keep ((k.block mb (by (try simp) <;> omega) hne).trans ((row_alloc_eq _ _ (by (try simp) <;> omega)).trans (row_alloc_eq _ _ hml)))
    have hlook := run_look Tryz.underlying83 Tryz.underlying9 (zeroRd _) (hm1.keep (row_alloc_eq w1 (.cells #[.int .u8 kd, .string tx, .int .i64 nm, .int .i64 off] 62) hm1.lt)) tx
    rw [show assocB tx tab = some (.func (.func 66) #[] #[]) from Hlk.out] at hlook
    dsimp only [Option.getD] at hlook
    have hc0 := one_cell hb0
    have hbl := cell_lt' hc0
    have Hhr := Lib.hid hr
    have HK1 := Lib.hid kk
    have HP1 := Lib.hid P
    clear k P h kk hr hb0 hm1
    unfold Tok.val
    go_wp2_with (fail)
    go_at_call 66
    refine (HX.out _ (by repeat (first | with_reducible exact HP1.out | with_reducible refine PSt.setNew ?_ (by omega) _ | with_reducible refine PSt.kept ?_ (World.grownBy_alloc _ _ none) (by simp)))).mono ?_
    rintro e w2 h
    obtain ⟨k, P, v, rfl, vn, vi, rfl, hsn, hsi⟩ := h.ok
    have hz2 := k.size
    try simp at hz2
    have kk : KB w.heap.size pb w w2 := by refine KB.trans ?_ (k.mono (by (try simp) <;> omega)); (repeat (first | with_reducible exact HK1.out | with_reducible refine KB.setNew ?_ (by omega) _ | with_reducible refine KB.alloc ?_ _ (by (try simp) <;> omega)))
    have hr := ObjRow.keep k (row_alloc Hhr.out (.cells #[.int .u8 kd, .string tx, .int .i64 nm, .int .i64 off] 62)) (by (try simp) <;> omega) (by omega)
    have ht : w2.heap[w1.heap.size]? = some (.cells #[.int .u8 kd, .string tx, .int .i64 nm, .int .i64 off] 62 (0, 0)) := ObjRow.keep k (row_new _ _ _ rfl) (by simp) (by omega)
    obtain ⟨A1, m1, p1, rfl⟩ := hsn.shape
    obtain ⟨A2, m2, p2, rfl⟩ := hsi.shape
    obtain ⟨z0, z1, z2, z3, z4, z5, z6, z7⟩ := eight_cells hr
    obtain ⟨g0, g1, g2, g3, g4, g5, g6, g7⟩ := eight_frozen hr
    obtain ⟨t0, t1, t2, t3⟩ := four_cells ht
    have Hhr2 := Lib.hid hr
    have HK2 := Lib.hid kk
    have HP2 := Lib.hid P
    have Hsn := Lib.hid hsn
    have Hsi := Lib.hid hsi
    have hx1 : w1.heap.size < w2.heap.size := by omega
    have hx2 : w.heap.size + 1 < w2.heap.size := by omega
    have hlo : w1.heap.size < (w1.alloc (.cells #[.int .u8 kd, .string tx, .int .i64 nm, .int .i64 off] 62)).heap.size := by simp
    clear k P h kk hr ht hsn hsi hc0
    go_wp2_with (fail)
    refine ret8 (i := 4) (b := w.heap.size + 1) rfl rfl rfl (row_alloc (row_store8 Hhr2.out (.int .u8 c.kind) (.slice A1 m1 p1) (.int .u8 c.dom) (.int .i64 c.idx) (.int .i64 c.a) (.int .i64 c.b) (.slice A2 m2 p2) (.int .i64 off)) _) ⟨?_, ?_, _, rfl, _, _, rfl, ClV.lists Hsn.out Hsi.out (by omega) (by simp) (fun b hb hb2 => ?_)⟩
    · (repeat (first | with_reducible exact HK2.out | with_reducible refine KB.setNew ?_ (by omega) _ | with_reducible refine KB.alloc ?_ _ (by (try simp) <;> omega)))
    · exact (by repeat (first | with_reducible exact HP2.out | with_reducible refine PSt.setNew ?_ (by omega) _ | with_reducible refine PSt.kept ?_ (World.grownBy_alloc _ _ none) (by simp)))
    · have hne : b ≠ w.heap.size + 1 := by omega
      refine (row_alloc_eq _ _ (by simpa using hb2)).trans ?_
      simp only [heap_setCell_ne _ _ hne]

set_option maxHeartbeats 4000000 in
theorem cl_blast (pb mb : Nat) (tab : List (ByteArray × Value)) (htab : ∀ x ∈ tab, ∃ f, x.2 = .func (.func f) #[] #[]) (hz0 : (assocB ⟨#[]⟩ tab).isSome = false) (l r1 : List Tok) (t : Tok) (en : Int) (w : World) (h : PSt w pb l en) (hm : MapIs w mb tab) (hne : mb ≠ pb)
    (hq1 : pNext (fun t => (assocB t.text tab).isSome) l = .ok (t, r1)) (hlk : assocB t.text tab = some (.func (.func 67) #[] #[])) (R : Rd Cl)
    (hX : ∀ w1, PSt w1 pb r1 en → Calls Tryz.prog 67 #[.pointer (some ⟨pb, 0, none⟩)] w1 (RdPost pb en w1 (ClV w1.heap.size) R)) :
    Calls Tryz.prog 50 #[.pointer (some ⟨pb, 0, none⟩), .map (some mb)] w (RdPost pb en w (ClV w.heap.size) (bindR R fun c r => .ok (c.withOff t.off, r))) := by
  have hlt := h.lt
  have hml := hm.lt
  have HP0 := Lib.hid h
  have HK0 := Lib.hid (KB.refl w.heap.size pb w)
  have Hm0 := Lib.hid hm
  have Hlk := Lib.hid hlk
  have Hq1 := Lib.hid hq1
  have HX := Lib.hid hX
  clear h hm hlk hq1 hX
  obtain ⟨kd, tx, nm, off⟩ := t
  cases R with
  | error r =>
    go_enter Tryz.func50, Tryz.ntmps50
    go_wp2_with (fail)
    go_at_call 69
    refine (c_next_clause pb l en _ w.heap.size (by repeat (first | with_reducible exact HP0.out | with_reducible refine PSt.setNew ?_ (by omega) _ | with_reducible refine PSt.kept ?_ (World.grownBy_alloc _ _ none) (by simp))) (fun t => (assocB t.text tab).isSome) hz0 (fun t w1 hb => c_clause1 t w.heap.size mb tab htab w1 (one_cell ((hb.block _ (by (try simp) <;> omega)).trans (row_alloc (row_new _ _ _ rfl) _))) (Hm0.out.keep ((hb.block mb (by (try simp) <;> omega)).trans ((row_alloc_eq _ _ (by (try simp) <;> omega)).trans (row_alloc_eq _ _ hml)))))).mono ?_
    rw [Hq1.out]
    rintro e w1 h
    obtain ⟨k, P, v, rfl, rfl⟩ := h.ok
    have hz1 := k.size
    try simp at hz1
    have kk : KB w.heap.size pb w w1 := by refine KB.trans ?_ (k.mono (by (try simp) <;> omega)); (repeat (first | with_reducible exact HK0.out | with_reducible refine KB.setNew ?_ (by omega) _ | with_reducible refine KB.alloc ?_ _ (by (try simp) <;> omega)))
    have hr : w1.heap[w.heap.size + 1]? = some (.cells #[.int .u8 0, .slice none 0 0, .int .u8 0, .int .i64 0, .int .i64 0, .int .i64 0, .slice none 0 0, .int .i64 0] 36 (0, 0)) := ObjRow.keep k (row_new _ _ _ (by simp)) (by simp) (by omega)
    have hb0 : w1.heap[w.heap.size]? = some (.cells #[.map (some mb)] 83 (0, 0)) := ObjRow.keep k (row_alloc (row_new _ _ _ rfl) _) (by (try simp) <;> omega) (by omega)
    have hm1 := Hm0.out.keep ((k.block mb (by (try simp) <;> omega) hne).trans ((row_alloc_eq _ _ (by (try simp) <;> omega)).trans (row_alloc_eq _ _ hml)))
    have hlook := run_look Tryz.underlying83 Tryz.underlying9 (zeroRd _) (hm1.keep (row_alloc_eq w1 (.cells #[.int .u8 kd, .string tx, .int .i64 nm, .int .i64 off] 62) hm1.lt)) tx
    rw [show assocB tx tab = some (.func (.func 67) #[] #[]) from Hlk.out] at hlook
    dsimp only [Option.getD] at hlook
    have hc0 := one_cell hb0
    have hbl := cell_lt' hc0
    have Hhr := Lib.hid hr
    have HK1 := Lib.hid kk
    have HP1 := Lib.hid P
    clear k P h kk hr hb0 hm1
    unfold Tok.val
    go_wp2_with (fail)
    go_at_call 67
    refine (HX.out _ (by repeat (first | with_reducible exact HP1.out | with_reducible refine PSt.setNew ?_ (by omega) _ | with_reducible refine PSt.kept ?_ (World.grownBy_alloc _ _ none) (by simp)))).mono ?_
    rintro e w2 h
    obtain ⟨k, P, rfl⟩ := h.error
    have kk : KB w.heap.size pb w w2 := by refine KB.trans ?_ (k.mono (by (try simp) <;> omega)); (repeat (first | with_reducible exact HK1.out | with_reducible refine KB.setNew ?_ (by omega) _ | with_reducible refine KB.alloc ?_ _ (by (try simp) <;> omega)))
    go_wp2_with (fail)
    exact ⟨rfl, kk, P, rfl⟩
  | ok y =>
    obtain ⟨c, r2⟩ := y
    go_enter Tryz.func50, Tryz.ntmps50
    go_wp2_with (fail)
    go_at_call 69
    refine (c_next_clause pb l en _ w.heap.size (by repeat (first | with_reducible exact HP0.out | with_reducible refine PSt.setNew ?_ (by omega) _ | with_reducible refine PSt.kept ?_ (World.grownBy_alloc _ _ none) (by simp))) (fun t => (assocB t.text tab).isSome) hz0 (fun t w1 hb => c_clause1 t w.heap.size mb tab htab w1 (one_cell ((hb.block _ (by (try simp) <;> omega)).trans (row_alloc (row_new _ _ _ rfl) _))) (Hm0.out.keep ((hb.block mb (by (try simp) <;> omega)).trans ((row_alloc_eq _ _ (by (try simp) <;> omega)).trans (row_alloc_eq _ _ hml)))))).mono ?_
    rw [Hq1.out]
    rintro e w1 h
    obtain ⟨k, P, v, rfl, rfl⟩ := h.ok
    have hz1 := k.size
    try simp at hz1
    have kk : KB w.heap.size pb w w1 := by refine KB.trans ?_ (k.mono (by (try simp) <;> omega)); (repeat (first | with_reducible exact HK0.out | with_reducible refine KB.setNew ?_ (by omega) _ | with_reducible refine KB.alloc ?_ _ (by (try simp) <;> omega)))
    have hr : w1.heap[w.heap.size + 1]? = some (.cells #[.int .u8 0, .slice none 0 0, .int .u8 0, .int .i64 0, .int .i64 0, .int .i64 0, .slice none 0 0, .int .i64 0] 36 (0, 0)) := ObjRow.keep k (row_new _ _ _ (by simp)) (by simp) (by omega)
    have hb0 : w1.heap[w.heap.size]? = some (.cells #[.map (some mb)] 83 (0, 0)) := ObjRow.keep k (row_alloc (row_new _ _ _ rfl) _) (by (try simp) <;> omega) (by omega)
    have hm1 := Hm0.out.keep ((k.block mb (by (try simp) <;> omega) hne).trans ((row_alloc_eq _ _ (by (try simp) <;> omega)).trans (row_alloc_eq _ _ hml)))
    have hlook := run_look Tryz.underlying83 Tryz.underlying9 (zeroRd _) (hm1.keep (row_alloc_eq w1 (.cells #[.int .u8 kd, .string tx, .int .i64 nm, .int .i64 off] 62) hm1.lt)) tx
    rw [show assocB tx tab = some (.func (.func 67) #[] #[]) from Hlk.out] at hlook
    dsimp only [Option.getD] at hlook
    have hc0 := one_cell hb0
    have hbl := cell_lt' hc0
    have Hhr := Lib.hid hr
    have HK1 := Lib.hid kk
    have HP1 := Lib.hid P
    clear k P h kk hr hb0 hm1
    unfold Tok.val
    go_wp2_with (fail)
    go_at_call 67
    refine (HX.out _ (by repeat (first | with_reducible exact HP1.out | with_reducible refine PSt.setNew ?_ (by omega) _ | with_reducible refine PSt.kept ?_ (World.grownBy_alloc _ _ none) (by simp)))).mono ?_
    rintro e w2 h
    obtain ⟨k, P, v, rfl, vn, vi, rfl, hsn, hsi⟩ := h.ok
    have hz2 := k.size
    try simp at hz2
    have kk : KB w.heap.size pb w w2 := by refine KB.trans ?_ (k.mono (by (try simp) <;> omega)); (repeat (first | with_reducible exact HK1.out | with_reducible refine KB.setNew ?_ (by omega) _ | with_reducible refine KB.alloc ?_ _ (by (try simp) <;> omega)))
    have hr := ObjRow.keep k (row_alloc Hhr.out (.cells #[.int .u8 kd, .string tx, .int .i64 nm, .int .i64 off] 62)) (by (try simp) <;> omega) (by omega)
    have ht : w2.heap[w1.heap.size]? = some (.cells #[.int .u8 kd, .string tx, .int .i64 nm, .int .i64 off] 62 (0, 0)) := ObjRow.keep k (row_new _ _ _ rfl) (by simp) (by omega)
    obtain ⟨A1, m1, p1, rfl⟩ := hsn.shape
    obtain ⟨A2, m2, p2, rfl⟩ := hsi.shape
    obtain ⟨z0, z1, z2, z3, z4, z5, z6, z7⟩ := eight_cells hr
    obtain ⟨g0, g1, g2, g3, g4, g5, g6, g7⟩ := eight_frozen hr
    obtain ⟨t0, t1, t2, t3⟩ := four_cells ht
    have Hhr2 := Lib.hid hr
    have HK2 := Lib.hid kk
    have HP2 := Lib.hid P
    have Hsn := Lib.hid hsn
    have Hsi := Lib.hid hsi
    have hx1 : w1.heap.size < w2.heap.size := by omega
    have hx2 : w.heap.size + 1 < w2.heap.size := by omega
    have hlo : w1.heap.size < (w1.alloc (.cells #[.int .u8 kd, .string tx, .int .i64 nm, .int .i64 off] 62)).heap.size := by simp
    clear k P h kk hr ht hsn hsi hc0
    go_wp2_with (fail)
    refine ret8 (i := 4) (b := w.heap.size + 1) rfl rfl rfl (row_alloc (row_store8 Hhr2.out (.int .u8 c.kind) (.slice A1 m1 p1) (.int .u8 c.dom) (.int .i64 c.idx) (.int .i64 c.a) (.int .i64 c.b) (.slice A2 m2 p2) (.int .i64 off)) _) ⟨?_, ?_, _, rfl, _, _, rfl, ClV.lists Hsn.out Hsi.out (by omega) (by simp) (fun b hb hb2 => ?_)⟩
    · (repeat (first | with_reducible exact HK2.out | with_reducible refine KB.setNew ?_ (by omega) _ | with_reducible refine KB.alloc ?_ _ (by (try simp) <;> omega)))
    · exact (by repeat (first | with_reducible exact HP2.out | with_reducible refine PSt.setNew ?_ (by omega) _ | with_reducible refine PSt.kept ?_ (World.grownBy_alloc _ _ none) (by simp)))
    · have hne : b ≠ w.heap.size + 1 := by omega
      refine (row_alloc_eq _ _ (by simpa using hb2)).trans ?_
      simp only [heap_setCell_ne _ _ hne]

set_option maxHeartbeats 4000000 in
theorem cl_cap (pb mb : Nat) (tab : List (ByteArray × Value)) (htab : ∀ x ∈ tab, ∃ f, x.2 = .func (.func f) #[] #[]) (hz0 : (assocB ⟨#[]⟩ tab).isSome = false) (l r1 : List Tok) (t : Tok) (en : Int) (w : World) (h : PSt w pb l en) (hm : MapIs w mb tab) (hne : mb ≠ pb)
    (hq1 : pNext (fun t => (assocB t.text tab).isSome) l = .ok (t, r1)) (hlk : assocB t.text tab = some (.func (.func 68) #[] #[])) (R : Rd Cl)
    (hX : ∀ w1, PSt w1 pb r1 en → Calls Tryz.prog 68 #[.pointer (some ⟨pb, 0, none⟩)] w1 (RdPost pb en w1 (ClV w1.heap.size) R)) :
    Calls Tryz.prog 50 #[.pointer (some ⟨pb, 0, none⟩), .map (some mb)] w (RdPost pb en w (ClV w.heap.size) (bindR R fun c r => .ok (c.withOff t.off, r))) := by
  have hlt := h.lt
  have hml := hm.lt
  have HP0 := Lib.hid h
  have HK0 := Lib.hid (KB.refl w.heap.size pb w)
  have Hm0 := Lib.hid hm
  have Hlk := Lib.hid hlk
  have Hq1 := Lib.hid hq1
  have HX := Lib.hid hX
  clear h hm hlk hq1 hX
  obtain ⟨kd, tx, nm, off⟩ := t
  cases R with
  | error r =>
    go_enter Tryz.func50, Tryz.ntmps50
    go_wp2_with (fail)
    go_at_call 69
    refine (c_next_clause pb l en _ w.heap.size (by repeat (first | with_reducible exact HP0.out | with_reducible refine PSt.setNew ?_ (by omega) _ | with_reducible refine PSt.kept ?_ (World.grownBy_alloc _ _ none) (by simp))) (fun t => (assocB t.text tab).isSome) hz0 (fun t w1 hb => c_clause1 t w.heap.size mb tab htab w1 (one_cell ((hb.block _ (by (try simp) <;> omega)).trans (row_alloc (row_new _ _ _ rfl) _))) (Hm0.out.keep ((hb.block mb (by (try simp) <;> omega)).trans ((row_alloc_eq _ _ (by (try simp) <;> omega)).trans (row_alloc_eq _ _ hml)))))).mono ?_
    rw [Hq1.out]
    rintro e w1 h
    obtain ⟨k, P, v, rfl, rfl⟩ := h.ok
    have hz1 := k.size
    try simp at hz1
    have kk : KB w.heap.size pb w w1 := by refine KB.trans ?_ (k.mono (by (try simp) <;> omega)); (repeat (first | with_reducible exact HK0.out | with_reducible refine KB.setNew ?_ (by omega) _ | with_reducible refine KB.alloc ?_ _ (by (try simp) <;> omega)))
    have hr : w1.heap[w.heap.size + 1]? = some (.cells #[.int .u8 0, .slice none 0 0, .int .u8 0, .int .i64 0, .int .i64 0, .int .i64 0, .slice none 0 0, .int .i64 0] 36 (0, 0)) := ObjRow.keep k (row_new _ _ _ (by simp)) (by simp) (by omega)
    have hb0 : w1.heap[w.heap.size]? = some (.cells #[.map (some mb)] 83 (0, 0)) := ObjRow.keep k (row_alloc (row_new _ _ _ rfl) _) (by (try simp) <;> omega) (by omega)
    have hm1 := Hm0.out.keep ((k.block mb (by (try simp) <;> omega) hne).trans ((row_alloc_eq _ _ (by (try simp) <;> omega)).trans (row_alloc_eq _ _ hml)))
    have hlook := run_look Tryz.underlying83 Tryz.underlying9 (zeroRd _) (hm1.keep (row_alloc_eq w1 (.cells #[.int .u8 kd, .string tx, .int .i64 nm, .int .i64 off] 62) hm1.lt)) tx
    rw [show assocB tx tab = some (.func (.func 68) #[] #[]) from Hlk.out] at hlook
    dsimp only [Option.getD] at hlook
    have hc0 := one_cell hb0
    have hbl := cell_lt' hc0
    have Hhr := Lib.hid hr
    have HK1 := Lib.hid kk
    have HP1 := Lib.hid P
    clear k P h kk hr hb0 hm1
    unfold Tok.val
    go_wp2_with (fail)
    go_at_call 68
    refine (HX.out _ (by repeat (first | with_reducible exact HP1.out | with_reducible refine PSt.setNew ?_ (by omega) _ | with_reducible refine PSt.kept ?_ (World.grownBy_alloc _ _ none) (by simp)))).mono ?_
    rintro e w2 h
    obtain ⟨k, P, rfl⟩ := h.error
    have kk : KB w.heap.size pb w w2 := by refine KB.trans ?_ (k.mono (by (try simp) <;> omega)); (repeat (first | with_reducible exact HK1.out | with_reducible refine KB.setNew ?_ (by omega) _ | with_reducible refine KB.alloc ?_ _ (by (try simp) <;> omega)))
    go_wp2_with (fail)
    exact ⟨rfl, kk, P, rfl⟩
  | ok y =>
    obtain ⟨c, r2⟩ := y
    go_enter Tryz.func50, Tryz.ntmps50
    go_wp2_with (fail)
    go_at_call 69
    refine (c_next_clause pb l en _ w.heap.size (by repeat (first | with_reducible exact HP0.out | with_reducible refine PSt.setNew ?_ (by omega) _ | with_reducible refine PSt.kept ?_ (World.grownBy_alloc _ _ none) (by simp))) (fun t => (assocB t.text tab).isSome) hz0 (fun t w1 hb => c_clause1 t w.heap.size mb tab htab w1 (one_cell ((hb.block _ (by (try simp) <;> omega)).trans (row_alloc (row_new _ _ _ rfl) _))) (Hm0.out.keep ((hb.block mb (by (try simp) <;> omega)).trans ((row_alloc_eq _ _ (by (try simp) <;> omega)).trans (row_alloc_eq _ _ hml)))))).mono ?_
    rw [Hq1.out]
    rintro e w1 h
    obtain ⟨k, P, v, rfl, rfl⟩ := h.ok
    have hz1 := k.size
    try simp at hz1
    have kk : KB w.heap.size pb w w1 := by refine KB.trans ?_ (k.mono (by (try simp) <;> omega)); (repeat (first | with_reducible exact HK0.out | with_reducible refine KB.setNew ?_ (by omega) _ | with_reducible refine KB.alloc ?_ _ (by (try simp) <;> omega)))
    have hr : w1.heap[w.heap.size + 1]? = some (.cells #[.int .u8 0, .slice none 0 0, .int .u8 0, .int .i64 0, .int .i64 0, .int .i64 0, .slice none 0 0, .int .i64 0] 36 (0, 0)) := ObjRow.keep k (row_new _ _ _ (by simp)) (by simp) (by omega)
    have hb0 : w1.heap[w.heap.size]? = some (.cells #[.map (some mb)] 83 (0, 0)) := ObjRow.keep k (row_alloc (row_new _ _ _ rfl) _) (by (try simp) <;> omega) (by omega)
    have hm1 := Hm0.out.keep ((k.block mb (by (try simp) <;> omega) hne).trans ((row_alloc_eq _ _ (by (try simp) <;> omega)).trans (row_alloc_eq _ _ hml)))
    have hlook := run_look Tryz.underlying83 Tryz.underlying9 (zeroRd _) (hm1.keep (row_alloc_eq w1 (.cells #[.int .u8 kd, .string tx, .int .i64 nm, .int .i64 off] 62) hm1.lt)) tx
    rw [show assocB tx tab = some (.func (.func 68) #[] #[]) from Hlk.out] at hlook
    dsimp only [Option.getD] at hlook
    have hc0 := one_cell hb0
    have hbl := cell_lt' hc0
    have Hhr := Lib.hid hr
    have HK1 := Lib.hid kk
    have HP1 := Lib.hid P
    clear k P h kk hr hb0 hm1
    unfold Tok.val
    go_wp2_with (fail)
    go_at_call 68
    refine (HX.out _ (by repeat (first | with_reducible exact HP1.out | with_reducible refine PSt.setNew ?_ (by omega) _ | with_reducible refine PSt.kept ?_ (World.grownBy_alloc _ _ none) (by simp)))).mono ?_
    rintro e w2 h
    obtain ⟨k, P, v, rfl, vn, vi, rfl, hsn, hsi⟩ := h.ok
    have hz2 := k.size
    try simp at hz2
    have kk : KB w.heap.size pb w w2 := by refine KB.trans ?_ (k.mono (by (try simp) <;> omega)); (repeat (first | with_reducible exact HK1.out | with_reducible refine KB.setNew ?_ (by omega) _ | with_reducible refine KB.alloc ?_ _ (by (try simp) <;> omega)))
    have hr := ObjRow.keep k (row_alloc Hhr.out (.cells #[.int .u8 kd, .string tx, .int .i64 nm, .int .i64 off] 62)) (by (try simp) <;> omega) (by omega)
    have ht : w2.heap[w1.heap.size]? = some (.cells #[.int .u8 kd, .string tx, .int .i64 nm, .int .i64 off] 62 (0, 0)) := ObjRow.keep k (row_new _ _ _ rfl) (by simp) (by omega)
    obtain ⟨A1, m1, p1, rfl⟩ := hsn.shape
    obtain ⟨A2, m2, p2, rfl⟩ := hsi.shape
    obtain ⟨z0, z1, z2, z3, z4, z5, z6, z7⟩ := eight_cells hr
    obtain ⟨g0, g1, g2, g3, g4, g5, g6, g7⟩ := eight_frozen hr
    obtain ⟨t0, t1, t2, t3⟩ := four_cells ht
    have Hhr2 := Lib.hid hr
    have HK2 := Lib.hid kk
    have HP2 := Lib.hid P
    have Hsn := Lib.hid hsn
    have Hsi := Lib.hid hsi
    have hx1 : w1.heap.size < w2.heap.size := by omega
    have hx2 : w.heap.size + 1 < w2.heap.size := by omega
    have hlo : w1.heap.size < (w1.alloc (.cells #[.int .u8 kd, .string tx, .int .i64 nm, .int .i64 off] 62)).heap.size := by simp
    clear k P h kk hr ht hsn hsi hc0
    go_wp2_with (fail)
    refine ret8 (i := 4) (b := w.heap.size + 1) rfl rfl rfl (row_alloc (row_store8 Hhr2.out (.int .u8 c.kind) (.slice A1 m1 p1) (.int .u8 c.dom) (.int .i64 c.idx) (.int .i64 c.a) (.int .i64 c.b) (.slice A2 m2 p2) (.int .i64 off)) _) ⟨?_, ?_, _, rfl, _, _, rfl, ClV.lists Hsn.out Hsi.out (by omega) (by simp) (fun b hb hb2 => ?_)⟩
    · (repeat (first | with_reducible exact HK2.out | with_reducible refine KB.setNew ?_ (by omega) _ | with_reducible refine KB.alloc ?_ _ (by (try simp) <;> omega)))
    · exact (by repeat (first | with_reducible exact HP2.out | with_reducible refine PSt.setNew ?_ (by omega) _ | with_reducible refine PSt.kept ?_ (World.grownBy_alloc _ _ none) (by simp)))
    · have hne : b ≠ w.heap.size + 1 := by omega
      refine (row_alloc_eq _ _ (by simpa using hb2)).trans ?_
      simp only [heap_setCell_ne _ _ hne]

set_option maxHeartbeats 4000000 in
theorem cl_service (pb mb : Nat) (tab : List (ByteArray × Value)) (htab : ∀ x ∈ tab, ∃ f, x.2 = .func (.func f) #[] #[]) (hz0 : (assocB ⟨#[]⟩ tab).isSome = false) (l r1 : List Tok) (t : Tok) (en : Int) (w : World) (h : PSt w pb l en) (hm : MapIs w mb tab) (hne : mb ≠ pb)
    (hq1 : pNext (fun t => (assocB t.text tab).isSome) l = .ok (t, r1)) (hlk : assocB t.text tab = some (.func (.func 64) #[] #[])) (R : Rd Cl)
    (hX : ∀ w1, PSt w1 pb r1 en → Calls Tryz.prog 64 #[.pointer (some ⟨pb, 0, none⟩)] w1 (RdPost pb en w1 (ClV w1.heap.size) R)) :
    Calls Tryz.prog 50 #[.pointer (some ⟨pb, 0, none⟩), .map (some mb)] w (RdPost pb en w (ClV w.heap.size) (bindR R fun c r => .ok (c.withOff t.off, r))) := by
  have hlt := h.lt
  have hml := hm.lt
  have HP0 := Lib.hid h
  have HK0 := Lib.hid (KB.refl w.heap.size pb w)
  have Hm0 := Lib.hid hm
  have Hlk := Lib.hid hlk
  have Hq1 := Lib.hid hq1
  have HX := Lib.hid hX
  clear h hm hlk hq1 hX
  obtain ⟨kd, tx, nm, off⟩ := t
  cases R with
  | error r =>
    go_enter Tryz.func50, Tryz.ntmps50
    go_wp2_with (fail)
    go_at_call 69
    refine (c_next_clause pb l en _ w.heap.size (by repeat (first | with_reducible exact HP0.out | with_reducible refine PSt.setNew ?_ (by omega) _ | with_reducible refine PSt.kept ?_ (World.grownBy_alloc _ _ none) (by simp))) (fun t => (assocB t.text tab).isSome) hz0 (fun t w1 hb => c_clause1 t w.heap.size mb tab htab w1 (one_cell ((hb.block _ (by (try simp) <;> omega)).trans (row_alloc (row_new _ _ _ rfl) _))) (Hm0.out.keep ((hb.block mb (by (try simp) <;> omega)).trans ((row_alloc_eq _ _ (by (try simp) <;> omega)).trans (row_alloc_eq _ _ hml)))))).mono ?_
    rw [Hq1.out]
    rintro e w1 h
    obtain ⟨k, P, v, rfl, rfl⟩ := h.ok
    have hz1 := k.size
    try simp at hz1
    have kk : KB w.heap.size pb w w1 := by refine KB.trans ?_ (k.mono (by (try simp) <;> omega)); (repeat (first | with_reducible exact HK0.out | with_reducible refine KB.setNew ?_ (by omega) _ | with_reducible refine KB.alloc ?_ _ (by (try simp) <;> omega)))
    have hr : w1.heap[w.heap.size + 1]? = some (.cells #[.int .u8 0, .slice none 0 0, .int .u8 0, .int .i64 0, .int .i64 0, .int .i64 0, .slice none 0 0, .int .i64 0] 36 (0, 0)) := ObjRow.keep k (row_new _ _ _ (by simp)) (by simp) (by omega)
    have hb0 : w1.heap[w.heap.size]? = some (.cells #[.map (some mb)] 83 (0, 0)) := ObjRow.keep k (row_alloc (row_new _ _ _ rfl) _) (by (try simp) <;> omega) (by omega)
    have hm1 := Hm0.out.keep ((k.block mb (by (try simp) <;> omega) hne).trans ((row_alloc_eq _ _ (by (try simp) <;> omega)).trans (row_alloc_eq _ _ hml)))
    have hlook := run_look Tryz.underlying83 Tryz.underlying9 (zeroRd _) (hm1.keep (row_alloc_eq w1 (.cells #[.int .u8 kd, .string tx, .int .i64 nm, .int .i64 off] 62) hm1.lt)) tx
    rw [show assocB tx tab = some (.func (.func 64) #[] #[]) from Hlk.out] at hlook
    dsimp only [Option.getD] at hlook
    have hc0 := one_cell hb0
    have hbl := cell_lt' hc0
    have Hhr := Lib.hid hr
    have HK1 := Lib.hid kk
    have HP1 := Lib.hid P
    clear k P h kk hr hb0 hm1
    unfold Tok.val
    go_wp2_with (fail)
    go_at_call 64
    refine (HX.out _ (by repeat (first | with_reducible exact HP1.out | with_reducible refine PSt.setNew ?_ (by omega) _ | with_reducible refine PSt.kept ?_ (World.grownBy_alloc _ _ none) (by simp)))).mono ?_
    rintro e w2 h
    obtain ⟨k, P, rfl⟩ := h.error
    have kk : KB w.heap.size pb w w2 := by refine KB.trans ?_ (k.mono (by (try simp) <;> omega)); (repeat (first | with_reducible exact HK1.out | with_reducible refine KB.setNew ?_ (by omega) _ | with_reducible refine KB.alloc ?_ _ (by (try simp) <;> omega)))
    go_wp2_with (fail)
    exact ⟨rfl, kk, P, rfl⟩
  | ok y =>
    obtain ⟨c, r2⟩ := y
    go_enter Tryz.func50, Tryz.ntmps50
    go_wp2_with (fail)
    go_at_call 69
    refine (c_next_clause pb l en _ w.heap.size (by repeat (first | with_reducible exact HP0.out | with_reducible refine PSt.setNew ?_ (by omega) _ | with_reducible refine PSt.kept ?_ (World.grownBy_alloc _ _ none) (by simp))) (fun t => (assocB t.text tab).isSome) hz0 (fun t w1 hb => c_clause1 t w.heap.size mb tab htab w1 (one_cell ((hb.block _ (by (try simp) <;> omega)).trans (row_alloc (row_new _ _ _ rfl) _))) (Hm0.out.keep ((hb.block mb (by (try simp) <;> omega)).trans ((row_alloc_eq _ _ (by (try simp) <;> omega)).trans (row_alloc_eq _ _ hml)))))).mono ?_
    rw [Hq1.out]
    rintro e w1 h
    obtain ⟨k, P, v, rfl, rfl⟩ := h.ok
    have hz1 := k.size
    try simp at hz1
    have kk : KB w.heap.size pb w w1 := by refine KB.trans ?_ (k.mono (by (try simp) <;> omega)); (repeat (first | with_reducible exact HK0.out | with_reducible refine KB.setNew ?_ (by omega) _ | with_reducible refine KB.alloc ?_ _ (by (try simp) <;> omega)))
    have hr : w1.heap[w.heap.size + 1]? = some (.cells #[.int .u8 0, .slice none 0 0, .int .u8 0, .int .i64 0, .int .i64 0, .int .i64 0, .slice none 0 0, .int .i64 0] 36 (0, 0)) := ObjRow.keep k (row_new _ _ _ (by simp)) (by simp) (by omega)
    have hb0 : w1.heap[w.heap.size]? = some (.cells #[.map (some mb)] 83 (0, 0)) := ObjRow.keep k (row_alloc (row_new _ _ _ rfl) _) (by (try simp) <;> omega) (by omega)
    have hm1 := Hm0.out.keep ((k.block mb (by (try simp) <;> omega) hne).trans ((row_alloc_eq _ _ (by (try simp) <;> omega)).trans (row_alloc_eq _ _ hml)))
    have hlook := run_look Tryz.underlying83 Tryz.underlying9 (zeroRd _) (hm1.keep (row_alloc_eq w1 (.cells #[.int .u8 kd, .string tx, .int .i64 nm, .int .i64 off] 62) hm1.lt)) tx
    rw [show assocB tx tab = some (.func (.func 64) #[] #[]) from Hlk.out] at hlook
    dsimp only [Option.getD] at hlook
    have hc0 := one_cell hb0
    have hbl := cell_lt' hc0
    have Hhr := Lib.hid hr
    have HK1 := Lib.hid kk
    have HP1 := Lib.hid P
    clear k P h kk hr hb0 hm1
    unfold Tok.val
    go_wp2_with (fail)
    go_at_call 64
    refine (HX.out _ (by repeat (first | with_reducible exact HP1.out | with_reducible refine PSt.setNew ?_ (by omega) _ | with_reducible refine PSt.kept ?_ (World.grownBy_alloc _ _ none) (by simp)))).mono ?_
    rintro e w2 h
    obtain ⟨k, P, v, rfl, vn, vi, rfl, hsn, hsi⟩ := h.ok
    have hz2 := k.size
    try simp at hz2
    have kk : KB w.heap.size pb w w2 := by refine KB.trans ?_ (k.mono (by (try simp) <;> omega)); (repeat (first | with_reducible exact HK1.out | with_reducible refine KB.setNew ?_ (by omega) _ | with_reducible refine KB.alloc ?_ _ (by (try simp) <;> omega)))
    have hr := ObjRow.keep k (row_alloc Hhr.out (.cells #[.int .u8 kd, .string tx, .int .i64 nm, .int .i64 off] 62)) (by (try simp) <;> omega) (by omega)
    have ht : w2.heap[w1.heap.size]? = some (.cells #[.int .u8 kd, .string tx, .int .i64 nm, .int .i64 off] 62 (0, 0)) := ObjRow.keep k (row_new _ _ _ rfl) (by simp) (by omega)
    obtain ⟨A1, m1, p1, rfl⟩ := hsn.shape
    obtain ⟨A2, m2, p2, rfl⟩ := hsi.shape
    obtain ⟨z0, z1, z2, z3, z4, z5, z6, z7⟩ := eight_cells hr
    obtain ⟨g0, g1, g2, g3, g4, g5, g6, g7⟩ := eight_frozen hr
    obtain ⟨t0, t1, t2, t3⟩ := four_cells ht
    have Hhr2 := Lib.hid hr
    have HK2 := Lib.hid kk
    have HP2 := Lib.hid P
    have Hsn := Lib.hid hsn
    have Hsi := Lib.hid hsi
    have hx1 : w1.heap.size < w2.heap.size := by omega
    have hx2 : w.heap.size + 1 < w2.heap.size := by omega
    have hlo : w1.heap.size < (w1.alloc (.cells #[.int .u8 kd, .string tx, .int .i64 nm, .int .i64 off] 62)).heap.size := by simp
    clear k P h kk hr ht hsn hsi hc0
    go_wp2_with (fail)
    refine ret8 (i := 4) (b := w.heap.size + 1) rfl rfl rfl (row_alloc (row_store8 Hhr2.out (.int .u8 c.kind) (.slice A1 m1 p1) (.int .u8 c.dom) (.int .i64 c.idx) (.int .i64 c.a) (.int .i64 c.b) (.slice A2 m2 p2) (.int .i64 off)) _) ⟨?_, ?_, _, rfl, _, _, rfl, ClV.lists Hsn.out Hsi.out (by omega) (by simp) (fun b hb hb2 => ?_)⟩
    · (repeat (first | with_reducible exact HK2.out | with_reducible refine KB.setNew ?_ (by omega) _ | with_reducible refine KB.alloc ?_ _ (by (try simp) <;> omega)))
    · exact (by repeat (first | with_reducible exact HP2.out | with_reducible refine PSt.setNew ?_ (by omega) _ | with_reducible refine PSt.kept ?_ (World.grownBy_alloc _ _ none) (by simp)))
    · have hne : b ≠ w.heap.size + 1 := by omega
      refine (row_alloc_eq _ _ (by simpa using hb2)).trans ?_
      simp only [heap_setCell_ne _ _ hne]
end Go.Proofs.YtplnnpkohdmiaaaGreatDoor
