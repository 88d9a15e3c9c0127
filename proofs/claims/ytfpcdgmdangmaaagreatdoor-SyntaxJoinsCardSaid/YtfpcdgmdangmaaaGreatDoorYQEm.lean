/-
  DERIVED. Several texts in one.
-/
import Derived.Test.YtfpcdgmdangmaaaGreatDoorYQCm
set_option linter.unusedVariables false
set_option linter.unusedSimpArgs false

/- DERIVED. The reference's parser: items and clauses without loops, what they need. -/
namespace Go.Proofs.YtfpcdgmdangmaaaGreatDoor
open Go.RowKit
set_option maxRecDepth 100000

theorem below_dN {n : Nat} {a b : World} (k : Nat) (h : Below n a b) : Below n a (b.drewN k) := ⟨h.os, h.tape, h.output, h.size, h.block⟩
theorem cell_alloc (w : World) (ob : Obj) {b i : Nat} (h : b < w.heap.size) : (w.alloc ob).cell? ⟨b, i, none⟩ = w.cell? ⟨b, i, none⟩ := by
  simp only [World.cell?, row_alloc_eq w ob h]
theorem frozen_alloc (w : World) (ob : Obj) {b i : Nat} (h : b < w.heap.size) : (w.alloc ob).frozen? ⟨b, i, none⟩ = w.frozen? ⟨b, i, none⟩ := by
  simp only [World.frozen?, row_alloc_eq w ob h]
theorem row_drewN {W : World} {b : Nat} {o : Obj} (h : W.heap[b]? = some o) (n : Nat) : (W.drewN n).heap[b]? = some o := h
theorem RSt.setNew {w : World} {rb B j : Nat} {L : List Tok} {en : Int} {s : QS} (h : RSt w rb L en s) (hB : rb < B) (v : Value) : RSt (w.setCell ⟨B, j, none⟩ v) rb L en s := h.stands fun b hb => heap_setCell_ne _ _ (by omega)
theorem RSt.setAt1 {w : World} {rb : Nat} {L : List Tok} {en : Int} {s : QS} (h : RSt w rb L en s) : RSt (w.setCell ⟨rb, 1, none⟩ (.int .i64 (s.at_ + 1))) rb L en ⟨s.at_ + 1, s.e, s.off⟩ := by
  simpa using h.setAt (s.at_ + 1)
/-- What a call leaves that reads a clause or an item. -/
def CMoved (r : Cl × QS) (rb : Nat) (L : List Tok) (en : Int) (w : World) (e : Ending) (w' : World) : Prop := ∃ v, e = .returned v ∧ ClV w.heap.size r.1 w' v ∧ RSt w' rb L en r.2 ∧ KB w.heap.size rb w w'
end Go.Proofs.YtfpcdgmdangmaaaGreatDoor

/- DERIVED. The reference's parser: cores. -/
namespace Go.Proofs.YtfpcdgmdangmaaaGreatDoor
open Go.RowKit
set_option maxRecDepth 100000

set_option maxHeartbeats 40000000 in
theorem q_item_cores (rb : Nat) (L : List Tok) (hL : L.length ≤ 5000) (en : Int) (s : QS) (w : World) (h : RSt w rb L en s) (hlt : s.at_ < L.length) (hx : L[s.at_].text = ⟨#[99, 111, 114, 101, 115]⟩) :
    Calls Tryz.prog 84 #[.pointer (some ⟨rb, 0, none⟩)] w (CMoved (qCounted L en 6 (offOf en (L.drop s.at_)) ⟨s.at_ + 1, s.e, s.off⟩) rb L en w) := by
  have hfm : Tryz.prog.follows Departure.mixedOrders = true := by kernel_rfl
  have hrl := h.lt
  have H := Lib.hid h
  have i0 : (0 : Int) ≤ (s.at_ : Int) := Int.natCast_nonneg _
  have i1 : (s.at_ : Int) < (L.length : Int) := by omega
  have d1 : decide (s.at_ < L.length) = true := decide_eq_true hlt
  obtain ⟨o, ho⟩ : ∃ o, o = offOf en (L.drop s.at_) := ⟨_, rfl⟩
  rw [← ho]
  clear h
  unfold qCounted
  go_enter Tryz.func84, Tryz.ntmps84
  go_wp2_with (fail)
  go_at_call 44
  refine (q_offset rb L en s _ (by exact H.out.new _)).mono ?_
  rw [← ho]
  clear ho
  rintro e w1 ⟨n, rfl, hw⟩
  have hB : Below w.heap.size w w1 := by rw [hw]; exact below_dN _ ((Below.refl _ _).alloc (Nat.le_refl _) _)
  have hr : w1.heap[w.heap.size]? = some (.cells #[.int .u8 0, .slice none 0 0, .int .u8 0, .int .i64 0, .int .i64 0, .int .i64 0, .slice none 0 0, .int .i64 0] 43 (0, 0)) := by rw [hw]; exact row_new _ _ _ rfl
  have hz1 : w.heap.size < w1.heap.size := by rw [hw]; simp
  clear hw
  have HR1 := Lib.hid (H.out.below hB)
  have HK1 := Lib.hid (KB.of_below (pb := rb) hB)
  obtain ⟨z0, z1, z2, z3, z4, z5, z6, z7⟩ := eight_cells hr
  obtain ⟨g0, g1, g2, g3, g4, g5, g6, g7⟩ := eight_frozen hr
  have Hhr := Lib.hid hr
  obtain ⟨b, bo, bc, hc, hm, hbb, k0', -, q1', -⟩ := HR1.out.tok hlt
  rw [hx] at q1'
  obtain ⟨_, _, -, -, -, -, k1', -, -, -, f1', -⟩ := HR1.out.cells
  have hrl1 : rb < w1.heap.size := by omega
  unfold maxLen at hm
  have k0 := fun ob => (cell_alloc w1 ob hrl1).trans k0'
  have k1 := fun ob => (cell_alloc w1 ob hrl1).trans k1'
  have q1 := fun ob => (cell_alloc w1 ob (show b < w1.heap.size by omega)).trans q1'
  have f1 := fun ob => (frozen_alloc w1 ob hrl1).trans f1'
  have n1 : rb ≠ w1.heap.size := by omega
  have n2 : b ≠ w1.heap.size := by omega
  have n3 : b ≠ rb := by omega
  have n4 : w.heap.size ≠ w1.heap.size := by omega
  have n5 : rb ≠ w.heap.size := by omega
  have HX := Lib.hid hx
  clear hB hr hx k0' k1' q1' f1'
  go_wp2_with (fail)
  go_quiet (fail)
  go_wp2_with (fail)
  go_quiet (fail)
  go_wp2_with (fail)
  go_at_call 47
  refine (q_number rb L hL en ⟨s.at_ + 1, s.e, s.off⟩ _ (by repeat (first | with_reducible exact HR1.out | with_reducible refine RSt.setAt1 (s := s) ?_ | with_reducible refine RSt.drewN ?_ _ | with_reducible refine RSt.new ?_ _ | with_reducible refine RSt.setNew ?_ (by omega) _))).mono ?_
  rintro e w2 ⟨rfl, P, k⟩
  have hz2 := k.size
  try simp at hz2
  have kk : KB w.heap.size rb w w2 := by refine KB.trans ?_ (k.mono (by (try simp) <;> omega)); (repeat (first | with_reducible exact HK1.out | with_reducible refine KB.drewN ?_ _ | with_reducible refine KB.setP ?_ _ | with_reducible refine KB.setNew ?_ (by omega) _ | with_reducible refine KB.alloc ?_ _ (by (try simp) <;> omega)))
  have hr : w2.heap[w.heap.size]? = some (.cells #[.int .u8 0, .slice none 0 0, .int .u8 0, .int .i64 0, .int .i64 0, .int .i64 0, .slice none 0 0, .int .i64 0] 43 (0, 0)) := ObjRow.keep k (by repeat (first | with_reducible exact Hhr.out | with_reducible refine row_drewN ?_ _ | with_reducible apply row8_0 | with_reducible apply row8_1 | with_reducible apply row8_2 | with_reducible apply row8_3 | with_reducible apply row8_4 | with_reducible apply row8_5 | with_reducible apply row8_6 | with_reducible apply row8_7 | with_reducible exact row_new _ _ _ (by simp) | with_reducible refine row_alloc ?_ _ | with_reducible refine row_other ?_ (by omega) _)) (by (try simp) <;> omega) (by omega)
  have Hhr := Lib.hid hr
  have hc2 : w2.heap[w1.heap.size]? = some (.cells #[.int .u8 6, .slice none 0 0, .int .u8 0, .int .i64 0, .int .i64 0, .int .i64 0, .slice none 0 0, .int .i64 o] 43 (0, 0)) := ObjRow.keep k (by repeat (first | with_reducible exact HNONE.out | with_reducible refine row_drewN ?_ _ | with_reducible apply row8_0 | with_reducible apply row8_1 | with_reducible apply row8_2 | with_reducible apply row8_3 | with_reducible apply row8_4 | with_reducible apply row8_5 | with_reducible apply row8_6 | with_reducible apply row8_7 | with_reducible exact row_new _ _ _ (by simp) | with_reducible refine row_alloc ?_ _ | with_reducible refine row_other ?_ (by omega) _)) (by (try simp) <;> omega) (by omega)
  have Hhc2 := Lib.hid hc2
  obtain ⟨c0, c1, c2, c3, c4, c5, c6, c7⟩ := eight_cells hc2
  obtain ⟨e0, e1, e2, e3, e4, e5, e6, e7⟩ := eight_frozen hc2
  obtain ⟨z0, z1, z2, z3, z4, z5, z6, z7⟩ := eight_cells hr
  obtain ⟨g0, g1, g2, g3, g4, g5, g6, g7⟩ := eight_frozen hr
  have HK2 := Lib.hid kk
  have HR2 := Lib.hid P
  clear k P kk hr hc2
  go_wp2_with (fail)
  go_at_call 48
  refine (q_take rb ⟨#[59]⟩ L hL en (qNum L en ⟨s.at_ + 1, s.e, s.off⟩).2 _ (by repeat (first | with_reducible exact HR2.out | with_reducible refine RSt.setAt1 (s := s) ?_ | with_reducible refine RSt.drewN ?_ _ | with_reducible refine RSt.new ?_ _ | with_reducible refine RSt.setNew ?_ (by omega) _))).mono ?_
  rintro e w3 ⟨rfl, P, k⟩
  have hz3 := k.size
  try simp at hz3
  have kk : KB w.heap.size rb w w3 := by refine KB.trans ?_ (k.mono (by (try simp) <;> omega)); (repeat (first | with_reducible exact HK2.out | with_reducible refine KB.drewN ?_ _ | with_reducible refine KB.setP ?_ _ | with_reducible refine KB.setNew ?_ (by omega) _ | with_reducible refine KB.alloc ?_ _ (by (try simp) <;> omega)))
  have hr : w3.heap[w.heap.size]? = some (.cells #[.int .u8 0, .slice none 0 0, .int .u8 0, .int .i64 0, .int .i64 0, .int .i64 0, .slice none 0 0, .int .i64 0] 43 (0, 0)) := ObjRow.keep k (by repeat (first | with_reducible exact Hhr.out | with_reducible refine row_drewN ?_ _ | with_reducible apply row8_0 | with_reducible apply row8_1 | with_reducible apply row8_2 | with_reducible apply row8_3 | with_reducible apply row8_4 | with_reducible apply row8_5 | with_reducible apply row8_6 | with_reducible apply row8_7 | with_reducible exact row_new _ _ _ (by simp) | with_reducible refine row_alloc ?_ _ | with_reducible refine row_other ?_ (by omega) _)) (by (try simp) <;> omega) (by omega)
  have Hhr := Lib.hid hr
  have hc2 : w3.heap[w1.heap.size]? = some (.cells #[.int .u8 6, .slice none 0 0, .int .u8 0, .int .i64 0, .int .i64 (qNum L en ⟨s.at_ + 1, s.e, s.off⟩).1, .int .i64 0, .slice none 0 0, .int .i64 o] 43 (0, 0)) := ObjRow.keep k (by repeat (first | with_reducible exact Hhc2.out | with_reducible refine row_drewN ?_ _ | with_reducible apply row8_0 | with_reducible apply row8_1 | with_reducible apply row8_2 | with_reducible apply row8_3 | with_reducible apply row8_4 | with_reducible apply row8_5 | with_reducible apply row8_6 | with_reducible apply row8_7 | with_reducible exact row_new _ _ _ (by simp) | with_reducible refine row_alloc ?_ _ | with_reducible refine row_other ?_ (by omega) _)) (by (try simp) <;> omega) (by omega)
  have Hhc2 := Lib.hid hc2
  obtain ⟨c0, c1, c2, c3, c4, c5, c6, c7⟩ := eight_cells hc2
  obtain ⟨e0, e1, e2, e3, e4, e5, e6, e7⟩ := eight_frozen hc2
  obtain ⟨z0, z1, z2, z3, z4, z5, z6, z7⟩ := eight_cells hr
  obtain ⟨g0, g1, g2, g3, g4, g5, g6, g7⟩ := eight_frozen hr
  have HK3 := Lib.hid kk
  have HR3 := Lib.hid P
  clear k P kk hr hc2
  go_wp2_with (fail)
  refine ret8 (i := 2) (b := w.heap.size) rfl rfl rfl (row_store8 (by repeat (first | with_reducible exact Hhr.out | with_reducible refine row_drewN ?_ _ | with_reducible apply row8_0 | with_reducible apply row8_1 | with_reducible apply row8_2 | with_reducible apply row8_3 | with_reducible apply row8_4 | with_reducible apply row8_5 | with_reducible apply row8_6 | with_reducible apply row8_7 | with_reducible exact row_new _ _ _ (by simp) | with_reducible refine row_alloc ?_ _ | with_reducible refine row_other ?_ (by omega) _)) (.int .u8 6) (.slice none 0 0) (.int .u8 0) (.int .i64 0) (.int .i64 (qNum L en ⟨s.at_ + 1, s.e, s.off⟩).1) (.int .i64 0) (.slice none 0 0) (.int .i64 o)) ⟨_, rfl, ⟨_, _, rfl, ?_, ClSl.nil _ _⟩, ?_, ?_⟩
  · exact StrSl.nil _ _
  · exact (by repeat (first | with_reducible exact HR3.out | with_reducible refine RSt.setAt1 (s := s) ?_ | with_reducible refine RSt.drewN ?_ _ | with_reducible refine RSt.new ?_ _ | with_reducible refine RSt.setNew ?_ (by omega) _))
  · (repeat (first | with_reducible exact HK3.out | with_reducible refine KB.drewN ?_ _ | with_reducible refine KB.setP ?_ _ | with_reducible refine KB.setNew ?_ (by omega) _ | with_reducible refine KB.alloc ?_ _ (by (try simp) <;> omega)))
end Go.Proofs.YtfpcdgmdangmaaaGreatDoor

/- DERIVED. The reference's parser: replicas, least, firmware. -/
namespace Go.Proofs.YtfpcdgmdangmaaaGreatDoor
open Go.RowKit
set_option maxRecDepth 100000

set_option maxHeartbeats 40000000 in
theorem q_item_replicas (rb : Nat) (L : List Tok) (hL : L.length ≤ 5000) (en : Int) (s : QS) (w : World) (h : RSt w rb L en s) (hlt : s.at_ < L.length) (hx : L[s.at_].text = ⟨#[114, 101, 112, 108, 105, 99, 97, 115]⟩) :
    Calls Tryz.prog 84 #[.pointer (some ⟨rb, 0, none⟩)] w (CMoved (qCounted L en 7 (offOf en (L.drop s.at_)) ⟨s.at_ + 1, s.e, s.off⟩) rb L en w) := by
  have hfm : Tryz.prog.follows Departure.mixedOrders = true := by kernel_rfl
  have hrl := h.lt
  have H := Lib.hid h
  have i0 : (0 : Int) ≤ (s.at_ : Int) := Int.natCast_nonneg _
  have i1 : (s.at_ : Int) < (L.length : Int) := by omega
  have d1 : decide (s.at_ < L.length) = true := decide_eq_true hlt
  obtain ⟨o, ho⟩ : ∃ o, o = offOf en (L.drop s.at_) := ⟨_, rfl⟩
  rw [← ho]
  clear h
  unfold qCounted
  go_enter Tryz.func84, Tryz.ntmps84
  go_wp2_with (fail)
  go_at_call 44
  refine (q_offset rb L en s _ (by exact H.out.new _)).mono ?_
  rw [← ho]
  clear ho
  rintro e w1 ⟨n, rfl, hw⟩
  have hB : Below w.heap.size w w1 := by rw [hw]; exact below_dN _ ((Below.refl _ _).alloc (Nat.le_refl _) _)
  have hr : w1.heap[w.heap.size]? = some (.cells #[.int .u8 0, .slice none 0 0, .int .u8 0, .int .i64 0, .int .i64 0, .int .i64 0, .slice none 0 0, .int .i64 0] 43 (0, 0)) := by rw [hw]; exact row_new _ _ _ rfl
  have hz1 : w.heap.size < w1.heap.size := by rw [hw]; simp
  clear hw
  have HR1 := Lib.hid (H.out.below hB)
  have HK1 := Lib.hid (KB.of_below (pb := rb) hB)
  obtain ⟨z0, z1, z2, z3, z4, z5, z6, z7⟩ := eight_cells hr
  obtain ⟨g0, g1, g2, g3, g4, g5, g6, g7⟩ := eight_frozen hr
  have Hhr := Lib.hid hr
  obtain ⟨b, bo, bc, hc, hm, hbb, k0', -, q1', -⟩ := HR1.out.tok hlt
  rw [hx] at q1'
  obtain ⟨_, _, -, -, -, -, k1', -, -, -, f1', -⟩ := HR1.out.cells
  have hrl1 : rb < w1.heap.size := by omega
  unfold maxLen at hm
  have k0 := fun ob => (cell_alloc w1 ob hrl1).trans k0'
  have k1 := fun ob => (cell_alloc w1 ob hrl1).trans k1'
  have q1 := fun ob => (cell_alloc w1 ob (show b < w1.heap.size by omega)).trans q1'
  have f1 := fun ob => (frozen_alloc w1 ob hrl1).trans f1'
  have n1 : rb ≠ w1.heap.size := by omega
  have n2 : b ≠ w1.heap.size := by omega
  have n3 : b ≠ rb := by omega
  have n4 : w.heap.size ≠ w1.heap.size := by omega
  have n5 : rb ≠ w.heap.size := by omega
  have HX := Lib.hid hx
  clear hB hr hx k0' k1' q1' f1'
  go_wp2_with (fail)
  go_quiet (fail)
  go_wp2_with (fail)
  go_quiet (fail)
  go_wp2_with (fail)
  go_at_call 47
  refine (q_number rb L hL en ⟨s.at_ + 1, s.e, s.off⟩ _ (by repeat (first | with_reducible exact HR1.out | with_reducible refine RSt.setAt1 (s := s) ?_ | with_reducible refine RSt.drewN ?_ _ | with_reducible refine RSt.new ?_ _ | with_reducible refine RSt.setNew ?_ (by omega) _))).mono ?_
  rintro e w2 ⟨rfl, P, k⟩
  have hz2 := k.size
  try simp at hz2
  have kk : KB w.heap.size rb w w2 := by refine KB.trans ?_ (k.mono (by (try simp) <;> omega)); (repeat (first | with_reducible exact HK1.out | with_reducible refine KB.drewN ?_ _ | with_reducible refine KB.setP ?_ _ | with_reducible refine KB.setNew ?_ (by omega) _ | with_reducible refine KB.alloc ?_ _ (by (try simp) <;> omega)))
  have hr : w2.heap[w.heap.size]? = some (.cells #[.int .u8 0, .slice none 0 0, .int .u8 0, .int .i64 0, .int .i64 0, .int .i64 0, .slice none 0 0, .int .i64 0] 43 (0, 0)) := ObjRow.keep k (by repeat (first | with_reducible exact Hhr.out | with_reducible refine row_drewN ?_ _ | with_reducible apply row8_0 | with_reducible apply row8_1 | with_reducible apply row8_2 | with_reducible apply row8_3 | with_reducible apply row8_4 | with_reducible apply row8_5 | with_reducible apply row8_6 | with_reducible apply row8_7 | with_reducible exact row_new _ _ _ (by simp) | with_reducible refine row_alloc ?_ _ | with_reducible refine row_other ?_ (by omega) _)) (by (try simp) <;> omega) (by omega)
  have Hhr := Lib.hid hr
  have hc2 : w2.heap[w1.heap.size]? = some (.cells #[.int .u8 7, .slice none 0 0, .int .u8 0, .int .i64 0, .int .i64 0, .int .i64 0, .slice none 0 0, .int .i64 o] 43 (0, 0)) := ObjRow.keep k (by repeat (first | with_reducible exact HNONE.out | with_reducible refine row_drewN ?_ _ | with_reducible apply row8_0 | with_reducible apply row8_1 | with_reducible apply row8_2 | with_reducible apply row8_3 | with_reducible apply row8_4 | with_reducible apply row8_5 | with_reducible apply row8_6 | with_reducible apply row8_7 | with_reducible exact row_new _ _ _ (by simp) | with_reducible refine row_alloc ?_ _ | with_reducible refine row_other ?_ (by omega) _)) (by (try simp) <;> omega) (by omega)
  have Hhc2 := Lib.hid hc2
  obtain ⟨c0, c1, c2, c3, c4, c5, c6, c7⟩ := eight_cells hc2
  obtain ⟨e0, e1, e2, e3, e4, e5, e6, e7⟩ := eight_frozen hc2
  obtain ⟨z0, z1, z2, z3, z4, z5, z6, z7⟩ := eight_cells hr
  obtain ⟨g0, g1, g2, g3, g4, g5, g6, g7⟩ := eight_frozen hr
  have HK2 := Lib.hid kk
  have HR2 := Lib.hid P
  clear k P kk hr hc2
  go_wp2_with (fail)
  go_at_call 48
  refine (q_take rb ⟨#[59]⟩ L hL en (qNum L en ⟨s.at_ + 1, s.e, s.off⟩).2 _ (by repeat (first | with_reducible exact HR2.out | with_reducible refine RSt.setAt1 (s := s) ?_ | with_reducible refine RSt.drewN ?_ _ | with_reducible refine RSt.new ?_ _ | with_reducible refine RSt.setNew ?_ (by omega) _))).mono ?_
  rintro e w3 ⟨rfl, P, k⟩
  have hz3 := k.size
  try simp at hz3
  have kk : KB w.heap.size rb w w3 := by refine KB.trans ?_ (k.mono (by (try simp) <;> omega)); (repeat (first | with_reducible exact HK2.out | with_reducible refine KB.drewN ?_ _ | with_reducible refine KB.setP ?_ _ | with_reducible refine KB.setNew ?_ (by omega) _ | with_reducible refine KB.alloc ?_ _ (by (try simp) <;> omega)))
  have hr : w3.heap[w.heap.size]? = some (.cells #[.int .u8 0, .slice none 0 0, .int .u8 0, .int .i64 0, .int .i64 0, .int .i64 0, .slice none 0 0, .int .i64 0] 43 (0, 0)) := ObjRow.keep k (by repeat (first | with_reducible exact Hhr.out | with_reducible refine row_drewN ?_ _ | with_reducible apply row8_0 | with_reducible apply row8_1 | with_reducible apply row8_2 | with_reducible apply row8_3 | with_reducible apply row8_4 | with_reducible apply row8_5 | with_reducible apply row8_6 | with_reducible apply row8_7 | with_reducible exact row_new _ _ _ (by simp) | with_reducible refine row_alloc ?_ _ | with_reducible refine row_other ?_ (by omega) _)) (by (try simp) <;> omega) (by omega)
  have Hhr := Lib.hid hr
  have hc2 : w3.heap[w1.heap.size]? = some (.cells #[.int .u8 7, .slice none 0 0, .int .u8 0, .int .i64 0, .int .i64 (qNum L en ⟨s.at_ + 1, s.e, s.off⟩).1, .int .i64 0, .slice none 0 0, .int .i64 o] 43 (0, 0)) := ObjRow.keep k (by repeat (first | with_reducible exact Hhc2.out | with_reducible refine row_drewN ?_ _ | with_reducible apply row8_0 | with_reducible apply row8_1 | with_reducible apply row8_2 | with_reducible apply row8_3 | with_reducible apply row8_4 | with_reducible apply row8_5 | with_reducible apply row8_6 | with_reducible apply row8_7 | with_reducible exact row_new _ _ _ (by simp) | with_reducible refine row_alloc ?_ _ | with_reducible refine row_other ?_ (by omega) _)) (by (try simp) <;> omega) (by omega)
  have Hhc2 := Lib.hid hc2
  obtain ⟨c0, c1, c2, c3, c4, c5, c6, c7⟩ := eight_cells hc2
  obtain ⟨e0, e1, e2, e3, e4, e5, e6, e7⟩ := eight_frozen hc2
  obtain ⟨z0, z1, z2, z3, z4, z5, z6, z7⟩ := eight_cells hr
  obtain ⟨g0, g1, g2, g3, g4, g5, g6, g7⟩ := eight_frozen hr
  have HK3 := Lib.hid kk
  have HR3 := Lib.hid P
  clear k P kk hr hc2
  go_wp2_with (fail)
  refine ret8 (i := 2) (b := w.heap.size) rfl rfl rfl (row_store8 (by repeat (first | with_reducible exact Hhr.out | with_reducible refine row_drewN ?_ _ | with_reducible apply row8_0 | with_reducible apply row8_1 | with_reducible apply row8_2 | with_reducible apply row8_3 | with_reducible apply row8_4 | with_reducible apply row8_5 | with_reducible apply row8_6 | with_reducible apply row8_7 | with_reducible exact row_new _ _ _ (by simp) | with_reducible refine row_alloc ?_ _ | with_reducible refine row_other ?_ (by omega) _)) (.int .u8 7) (.slice none 0 0) (.int .u8 0) (.int .i64 0) (.int .i64 (qNum L en ⟨s.at_ + 1, s.e, s.off⟩).1) (.int .i64 0) (.slice none 0 0) (.int .i64 o)) ⟨_, rfl, ⟨_, _, rfl, ?_, ClSl.nil _ _⟩, ?_, ?_⟩
  · exact StrSl.nil _ _
  · exact (by repeat (first | with_reducible exact HR3.out | with_reducible refine RSt.setAt1 (s := s) ?_ | with_reducible refine RSt.drewN ?_ _ | with_reducible refine RSt.new ?_ _ | with_reducible refine RSt.setNew ?_ (by omega) _))
  · (repeat (first | with_reducible exact HK3.out | with_reducible refine KB.drewN ?_ _ | with_reducible refine KB.setP ?_ _ | with_reducible refine KB.setNew ?_ (by omega) _ | with_reducible refine KB.alloc ?_ _ (by (try simp) <;> omega)))

set_option maxHeartbeats 40000000 in
theorem q_item_least (rb : Nat) (L : List Tok) (hL : L.length ≤ 5000) (en : Int) (s : QS) (w : World) (h : RSt w rb L en s) (hlt : s.at_ < L.length) (hx : L[s.at_].text = ⟨#[108, 101, 97, 115, 116]⟩) :
    Calls Tryz.prog 84 #[.pointer (some ⟨rb, 0, none⟩)] w (CMoved (qCounted L en 8 (offOf en (L.drop s.at_)) ⟨s.at_ + 1, s.e, s.off⟩) rb L en w) := by
  have hfm : Tryz.prog.follows Departure.mixedOrders = true := by kernel_rfl
  have hrl := h.lt
  have H := Lib.hid h
  have i0 : (0 : Int) ≤ (s.at_ : Int) := Int.natCast_nonneg _
  have i1 : (s.at_ : Int) < (L.length : Int) := by omega
  have d1 : decide (s.at_ < L.length) = true := decide_eq_true hlt
  obtain ⟨o, ho⟩ : ∃ o, o = offOf en (L.drop s.at_) := ⟨_, rfl⟩
  rw [← ho]
  clear h
  unfold qCounted
  go_enter Tryz.func84, Tryz.ntmps84
  go_wp2_with (fail)
  go_at_call 44
  refine (q_offset rb L en s _ (by exact H.out.new _)).mono ?_
  rw [← ho]
  clear ho
  rintro e w1 ⟨n, rfl, hw⟩
  have hB : Below w.heap.size w w1 := by rw [hw]; exact below_dN _ ((Below.refl _ _).alloc (Nat.le_refl _) _)
  have hr : w1.heap[w.heap.size]? = some (.cells #[.int .u8 0, .slice none 0 0, .int .u8 0, .int .i64 0, .int .i64 0, .int .i64 0, .slice none 0 0, .int .i64 0] 43 (0, 0)) := by rw [hw]; exact row_new _ _ _ rfl
  have hz1 : w.heap.size < w1.heap.size := by rw [hw]; simp
  clear hw
  have HR1 := Lib.hid (H.out.below hB)
  have HK1 := Lib.hid (KB.of_below (pb := rb) hB)
  obtain ⟨z0, z1, z2, z3, z4, z5, z6, z7⟩ := eight_cells hr
  obtain ⟨g0, g1, g2, g3, g4, g5, g6, g7⟩ := eight_frozen hr
  have Hhr := Lib.hid hr
  obtain ⟨b, bo, bc, hc, hm, hbb, k0', -, q1', -⟩ := HR1.out.tok hlt
  rw [hx] at q1'
  obtain ⟨_, _, -, -, -, -, k1', -, -, -, f1', -⟩ := HR1.out.cells
  have hrl1 : rb < w1.heap.size := by omega
  unfold maxLen at hm
  have k0 := fun ob => (cell_alloc w1 ob hrl1).trans k0'
  have k1 := fun ob => (cell_alloc w1 ob hrl1).trans k1'
  have q1 := fun ob => (cell_alloc w1 ob (show b < w1.heap.size by omega)).trans q1'
  have f1 := fun ob => (frozen_alloc w1 ob hrl1).trans f1'
  have n1 : rb ≠ w1.heap.size := by omega
  have n2 : b ≠ w1.heap.size := by omega
  have n3 : b ≠ rb := by omega
  have n4 : w.heap.size ≠ w1.heap.size := by omega
  have n5 : rb ≠ w.heap.size := by omega
  have HX := Lib.hid hx
  clear hB hr hx k0' k1' q1' f1'
  go_wp2_with (fail)
  go_quiet (fail)
  go_wp2_with (fail)
  go_quiet (fail)
  go_wp2_with (fail)
  go_at_call 47
  refine (q_number rb L hL en ⟨s.at_ + 1, s.e, s.off⟩ _ (by repeat (first | with_reducible exact HR1.out | with_reducible refine RSt.setAt1 (s := s) ?_ | with_reducible refine RSt.drewN ?_ _ | with_reducible refine RSt.new ?_ _ | with_reducible refine RSt.setNew ?_ (by omega) _))).mono ?_
  rintro e w2 ⟨rfl, P, k⟩
  have hz2 := k.size
  try simp at hz2
  have kk : KB w.heap.size rb w w2 := by refine KB.trans ?_ (k.mono (by (try simp) <;> omega)); (repeat (first | with_reducible exact HK1.out | with_reducible refine KB.drewN ?_ _ | with_reducible refine KB.setP ?_ _ | with_reducible refine KB.setNew ?_ (by omega) _ | with_reducible refine KB.alloc ?_ _ (by (try simp) <;> omega)))
  have hr : w2.heap[w.heap.size]? = some (.cells #[.int .u8 0, .slice none 0 0, .int .u8 0, .int .i64 0, .int .i64 0, .int .i64 0, .slice none 0 0, .int .i64 0] 43 (0, 0)) := ObjRow.keep k (by repeat (first | with_reducible exact Hhr.out | with_reducible refine row_drewN ?_ _ | with_reducible apply row8_0 | with_reducible apply row8_1 | with_reducible apply row8_2 | with_reducible apply row8_3 | with_reducible apply row8_4 | with_reducible apply row8_5 | with_reducible apply row8_6 | with_reducible apply row8_7 | with_reducible exact row_new _ _ _ (by simp) | with_reducible refine row_alloc ?_ _ | with_reducible refine row_other ?_ (by omega) _)) (by (try simp) <;> omega) (by omega)
  have Hhr := Lib.hid hr
  have hc2 : w2.heap[w1.heap.size]? = some (.cells #[.int .u8 8, .slice none 0 0, .int .u8 0, .int .i64 0, .int .i64 0, .int .i64 0, .slice none 0 0, .int .i64 o] 43 (0, 0)) := ObjRow.keep k (by repeat (first | with_reducible exact HNONE.out | with_reducible refine row_drewN ?_ _ | with_reducible apply row8_0 | with_reducible apply row8_1 | with_reducible apply row8_2 | with_reducible apply row8_3 | with_reducible apply row8_4 | with_reducible apply row8_5 | with_reducible apply row8_6 | with_reducible apply row8_7 | with_reducible exact row_new _ _ _ (by simp) | with_reducible refine row_alloc ?_ _ | with_reducible refine row_other ?_ (by omega) _)) (by (try simp) <;> omega) (by omega)
  have Hhc2 := Lib.hid hc2
  obtain ⟨c0, c1, c2, c3, c4, c5, c6, c7⟩ := eight_cells hc2
  obtain ⟨e0, e1, e2, e3, e4, e5, e6, e7⟩ := eight_frozen hc2
  obtain ⟨z0, z1, z2, z3, z4, z5, z6, z7⟩ := eight_cells hr
  obtain ⟨g0, g1, g2, g3, g4, g5, g6, g7⟩ := eight_frozen hr
  have HK2 := Lib.hid kk
  have HR2 := Lib.hid P
  clear k P kk hr hc2
  go_wp2_with (fail)
  go_at_call 48
  refine (q_take rb ⟨#[59]⟩ L hL en (qNum L en ⟨s.at_ + 1, s.e, s.off⟩).2 _ (by repeat (first | with_reducible exact HR2.out | with_reducible refine RSt.setAt1 (s := s) ?_ | with_reducible refine RSt.drewN ?_ _ | with_reducible refine RSt.new ?_ _ | with_reducible refine RSt.setNew ?_ (by omega) _))).mono ?_
  rintro e w3 ⟨rfl, P, k⟩
  have hz3 := k.size
  try simp at hz3
  have kk : KB w.heap.size rb w w3 := by refine KB.trans ?_ (k.mono (by (try simp) <;> omega)); (repeat (first | with_reducible exact HK2.out | with_reducible refine KB.drewN ?_ _ | with_reducible refine KB.setP ?_ _ | with_reducible refine KB.setNew ?_ (by omega) _ | with_reducible refine KB.alloc ?_ _ (by (try simp) <;> omega)))
  have hr : w3.heap[w.heap.size]? = some (.cells #[.int .u8 0, .slice none 0 0, .int .u8 0, .int .i64 0, .int .i64 0, .int .i64 0, .slice none 0 0, .int .i64 0] 43 (0, 0)) := ObjRow.keep k (by repeat (first | with_reducible exact Hhr.out | with_reducible refine row_drewN ?_ _ | with_reducible apply row8_0 | with_reducible apply row8_1 | with_reducible apply row8_2 | with_reducible apply row8_3 | with_reducible apply row8_4 | with_reducible apply row8_5 | with_reducible apply row8_6 | with_reducible apply row8_7 | with_reducible exact row_new _ _ _ (by simp) | with_reducible refine row_alloc ?_ _ | with_reducible refine row_other ?_ (by omega) _)) (by (try simp) <;> omega) (by omega)
  have Hhr := Lib.hid hr
  have hc2 : w3.heap[w1.heap.size]? = some (.cells #[.int .u8 8, .slice none 0 0, .int .u8 0, .int .i64 0, .int .i64 (qNum L en ⟨s.at_ + 1, s.e, s.off⟩).1, .int .i64 0, .slice none 0 0, .int .i64 o] 43 (0, 0)) := ObjRow.keep k (by repeat (first | with_reducible exact Hhc2.out | with_reducible refine row_drewN ?_ _ | with_reducible apply row8_0 | with_reducible apply row8_1 | with_reducible apply row8_2 | with_reducible apply row8_3 | with_reducible apply row8_4 | with_reducible apply row8_5 | with_reducible apply row8_6 | with_reducible apply row8_7 | with_reducible exact row_new _ _ _ (by simp) | with_reducible refine row_alloc ?_ _ | with_reducible refine row_other ?_ (by omega) _)) (by (try simp) <;> omega) (by omega)
  have Hhc2 := Lib.hid hc2
  obtain ⟨c0, c1, c2, c3, c4, c5, c6, c7⟩ := eight_cells hc2
  obtain ⟨e0, e1, e2, e3, e4, e5, e6, e7⟩ := eight_frozen hc2
  obtain ⟨z0, z1, z2, z3, z4, z5, z6, z7⟩ := eight_cells hr
  obtain ⟨g0, g1, g2, g3, g4, g5, g6, g7⟩ := eight_frozen hr
  have HK3 := Lib.hid kk
  have HR3 := Lib.hid P
  clear k P kk hr hc2
  go_wp2_with (fail)
  refine ret8 (i := 2) (b := w.heap.size) rfl rfl rfl (row_store8 (by repeat (first | with_reducible exact Hhr.out | with_reducible refine row_drewN ?_ _ | with_reducible apply row8_0 | with_reducible apply row8_1 | with_reducible apply row8_2 | with_reducible apply row8_3 | with_reducible apply row8_4 | with_reducible apply row8_5 | with_reducible apply row8_6 | with_reducible apply row8_7 | with_reducible exact row_new _ _ _ (by simp) | with_reducible refine row_alloc ?_ _ | with_reducible refine row_other ?_ (by omega) _)) (.int .u8 8) (.slice none 0 0) (.int .u8 0) (.int .i64 0) (.int .i64 (qNum L en ⟨s.at_ + 1, s.e, s.off⟩).1) (.int .i64 0) (.slice none 0 0) (.int .i64 o)) ⟨_, rfl, ⟨_, _, rfl, ?_, ClSl.nil _ _⟩, ?_, ?_⟩
  · exact StrSl.nil _ _
  · exact (by repeat (first | with_reducible exact HR3.out | with_reducible refine RSt.setAt1 (s := s) ?_ | with_reducible refine RSt.drewN ?_ _ | with_reducible refine RSt.new ?_ _ | with_reducible refine RSt.setNew ?_ (by omega) _))
  · (repeat (first | with_reducible exact HK3.out | with_reducible refine KB.drewN ?_ _ | with_reducible refine KB.setP ?_ _ | with_reducible refine KB.setNew ?_ (by omega) _ | with_reducible refine KB.alloc ?_ _ (by (try simp) <;> omega)))

set_option maxHeartbeats 40000000 in
theorem q_item_firmware (rb : Nat) (L : List Tok) (hL : L.length ≤ 5000) (en : Int) (s : QS) (w : World) (h : RSt w rb L en s) (hlt : s.at_ < L.length) (hx : L[s.at_].text = ⟨#[102, 105, 114, 109, 119, 97, 114, 101]⟩) :
    Calls Tryz.prog 84 #[.pointer (some ⟨rb, 0, none⟩)] w (CMoved (qCounted L en 12 (offOf en (L.drop s.at_)) ⟨s.at_ + 1, s.e, s.off⟩) rb L en w) := by
  have hfm : Tryz.prog.follows Departure.mixedOrders = true := by kernel_rfl
  have hrl := h.lt
  have H := Lib.hid h
  have i0 : (0 : Int) ≤ (s.at_ : Int) := Int.natCast_nonneg _
  have i1 : (s.at_ : Int) < (L.length : Int) := by omega
  have d1 : decide (s.at_ < L.length) = true := decide_eq_true hlt
  obtain ⟨o, ho⟩ : ∃ o, o = offOf en (L.drop s.at_) := ⟨_, rfl⟩
  rw [← ho]
  clear h
  unfold qCounted
  go_enter Tryz.func84, Tryz.ntmps84
  go_wp2_with (fail)
  go_at_call 44
  refine (q_offset rb L en s _ (by exact H.out.new _)).mono ?_
  rw [← ho]
  clear ho
  rintro e w1 ⟨n, rfl, hw⟩
  have hB : Below w.heap.size w w1 := by rw [hw]; exact below_dN _ ((Below.refl _ _).alloc (Nat.le_refl _) _)
  have hr : w1.heap[w.heap.size]? = some (.cells #[.int .u8 0, .slice none 0 0, .int .u8 0, .int .i64 0, .int .i64 0, .int .i64 0, .slice none 0 0, .int .i64 0] 43 (0, 0)) := by rw [hw]; exact row_new _ _ _ rfl
  have hz1 : w.heap.size < w1.heap.size := by rw [hw]; simp
  clear hw
  have HR1 := Lib.hid (H.out.below hB)
  have HK1 := Lib.hid (KB.of_below (pb := rb) hB)
  obtain ⟨z0, z1, z2, z3, z4, z5, z6, z7⟩ := eight_cells hr
  obtain ⟨g0, g1, g2, g3, g4, g5, g6, g7⟩ := eight_frozen hr
  have Hhr := Lib.hid hr
  obtain ⟨b, bo, bc, hc, hm, hbb, k0', -, q1', -⟩ := HR1.out.tok hlt
  rw [hx] at q1'
  obtain ⟨_, _, -, -, -, -, k1', -, -, -, f1', -⟩ := HR1.out.cells
  have hrl1 : rb < w1.heap.size := by omega
  unfold maxLen at hm
  have k0 := fun ob => (cell_alloc w1 ob hrl1).trans k0'
  have k1 := fun ob => (cell_alloc w1 ob hrl1).trans k1'
  have q1 := fun ob => (cell_alloc w1 ob (show b < w1.heap.size by omega)).trans q1'
  have f1 := fun ob => (frozen_alloc w1 ob hrl1).trans f1'
  have n1 : rb ≠ w1.heap.size := by omega
  have n2 : b ≠ w1.heap.size := by omega
  have n3 : b ≠ rb := by omega
  have n4 : w.heap.size ≠ w1.heap.size := by omega
  have n5 : rb ≠ w.heap.size := by omega
  have HX := Lib.hid hx
  clear hB hr hx k0' k1' q1' f1'
  go_wp2_with (fail)
  go_quiet (fail)
  go_wp2_with (fail)
  go_quiet (fail)
  go_wp2_with (fail)
  go_at_call 47
  refine (q_number rb L hL en ⟨s.at_ + 1, s.e, s.off⟩ _ (by repeat (first | with_reducible exact HR1.out | with_reducible refine RSt.setAt1 (s := s) ?_ | with_reducible refine RSt.drewN ?_ _ | with_reducible refine RSt.new ?_ _ | with_reducible refine RSt.setNew ?_ (by omega) _))).mono ?_
  rintro e w2 ⟨rfl, P, k⟩
  have hz2 := k.size
  try simp at hz2
  have kk : KB w.heap.size rb w w2 := by refine KB.trans ?_ (k.mono (by (try simp) <;> omega)); (repeat (first | with_reducible exact HK1.out | with_reducible refine KB.drewN ?_ _ | with_reducible refine KB.setP ?_ _ | with_reducible refine KB.setNew ?_ (by omega) _ | with_reducible refine KB.alloc ?_ _ (by (try simp) <;> omega)))
  have hr : w2.heap[w.heap.size]? = some (.cells #[.int .u8 0, .slice none 0 0, .int .u8 0, .int .i64 0, .int .i64 0, .int .i64 0, .slice none 0 0, .int .i64 0] 43 (0, 0)) := ObjRow.keep k (by repeat (first | with_reducible exact Hhr.out | with_reducible refine row_drewN ?_ _ | with_reducible apply row8_0 | with_reducible apply row8_1 | with_reducible apply row8_2 | with_reducible apply row8_3 | with_reducible apply row8_4 | with_reducible apply row8_5 | with_reducible apply row8_6 | with_reducible apply row8_7 | with_reducible exact row_new _ _ _ (by simp) | with_reducible refine row_alloc ?_ _ | with_reducible refine row_other ?_ (by omega) _)) (by (try simp) <;> omega) (by omega)
  have Hhr := Lib.hid hr
  have hc2 : w2.heap[w1.heap.size]? = some (.cells #[.int .u8 12, .slice none 0 0, .int .u8 0, .int .i64 0, .int .i64 0, .int .i64 0, .slice none 0 0, .int .i64 o] 43 (0, 0)) := ObjRow.keep k (by repeat (first | with_reducible exact HNONE.out | with_reducible refine row_drewN ?_ _ | with_reducible apply row8_0 | with_reducible apply row8_1 | with_reducible apply row8_2 | with_reducible apply row8_3 | with_reducible apply row8_4 | with_reducible apply row8_5 | with_reducible apply row8_6 | with_reducible apply row8_7 | with_reducible exact row_new _ _ _ (by simp) | with_reducible refine row_alloc ?_ _ | with_reducible refine row_other ?_ (by omega) _)) (by (try simp) <;> omega) (by omega)
  have Hhc2 := Lib.hid hc2
  obtain ⟨c0, c1, c2, c3, c4, c5, c6, c7⟩ := eight_cells hc2
  obtain ⟨e0, e1, e2, e3, e4, e5, e6, e7⟩ := eight_frozen hc2
  obtain ⟨z0, z1, z2, z3, z4, z5, z6, z7⟩ := eight_cells hr
  obtain ⟨g0, g1, g2, g3, g4, g5, g6, g7⟩ := eight_frozen hr
  have HK2 := Lib.hid kk
  have HR2 := Lib.hid P
  clear k P kk hr hc2
  go_wp2_with (fail)
  go_at_call 48
  refine (q_take rb ⟨#[59]⟩ L hL en (qNum L en ⟨s.at_ + 1, s.e, s.off⟩).2 _ (by repeat (first | with_reducible exact HR2.out | with_reducible refine RSt.setAt1 (s := s) ?_ | with_reducible refine RSt.drewN ?_ _ | with_reducible refine RSt.new ?_ _ | with_reducible refine RSt.setNew ?_ (by omega) _))).mono ?_
  rintro e w3 ⟨rfl, P, k⟩
  have hz3 := k.size
  try simp at hz3
  have kk : KB w.heap.size rb w w3 := by refine KB.trans ?_ (k.mono (by (try simp) <;> omega)); (repeat (first | with_reducible exact HK2.out | with_reducible refine KB.drewN ?_ _ | with_reducible refine KB.setP ?_ _ | with_reducible refine KB.setNew ?_ (by omega) _ | with_reducible refine KB.alloc ?_ _ (by (try simp) <;> omega)))
  have hr : w3.heap[w.heap.size]? = some (.cells #[.int .u8 0, .slice none 0 0, .int .u8 0, .int .i64 0, .int .i64 0, .int .i64 0, .slice none 0 0, .int .i64 0] 43 (0, 0)) := ObjRow.keep k (by repeat (first | with_reducible exact Hhr.out | with_reducible refine row_drewN ?_ _ | with_reducible apply row8_0 | with_reducible apply row8_1 | with_reducible apply row8_2 | with_reducible apply row8_3 | with_reducible apply row8_4 | with_reducible apply row8_5 | with_reducible apply row8_6 | with_reducible apply row8_7 | with_reducible exact row_new _ _ _ (by simp) | with_reducible refine row_alloc ?_ _ | with_reducible refine row_other ?_ (by omega) _)) (by (try simp) <;> omega) (by omega)
  have Hhr := Lib.hid hr
  have hc2 : w3.heap[w1.heap.size]? = some (.cells #[.int .u8 12, .slice none 0 0, .int .u8 0, .int .i64 0, .int .i64 (qNum L en ⟨s.at_ + 1, s.e, s.off⟩).1, .int .i64 0, .slice none 0 0, .int .i64 o] 43 (0, 0)) := ObjRow.keep k (by repeat (first | with_reducible exact Hhc2.out | with_reducible refine row_drewN ?_ _ | with_reducible apply row8_0 | with_reducible apply row8_1 | with_reducible apply row8_2 | with_reducible apply row8_3 | with_reducible apply row8_4 | with_reducible apply row8_5 | with_reducible apply row8_6 | with_reducible apply row8_7 | with_reducible exact row_new _ _ _ (by simp) | with_reducible refine row_alloc ?_ _ | with_reducible refine row_other ?_ (by omega) _)) (by (try simp) <;> omega) (by omega)
  have Hhc2 := Lib.hid hc2
  obtain ⟨c0, c1, c2, c3, c4, c5, c6, c7⟩ := eight_cells hc2
  obtain ⟨e0, e1, e2, e3, e4, e5, e6, e7⟩ := eight_frozen hc2
  obtain ⟨z0, z1, z2, z3, z4, z5, z6, z7⟩ := eight_cells hr
  obtain ⟨g0, g1, g2, g3, g4, g5, g6, g7⟩ := eight_frozen hr
  have HK3 := Lib.hid kk
  have HR3 := Lib.hid P
  clear k P kk hr hc2
  go_wp2_with (fail)
  refine ret8 (i := 2) (b := w.heap.size) rfl rfl rfl (row_store8 (by repeat (first | with_reducible exact Hhr.out | with_reducible refine row_drewN ?_ _ | with_reducible apply row8_0 | with_reducible apply row8_1 | with_reducible apply row8_2 | with_reducible apply row8_3 | with_reducible apply row8_4 | with_reducible apply row8_5 | with_reducible apply row8_6 | with_reducible apply row8_7 | with_reducible exact row_new _ _ _ (by simp) | with_reducible refine row_alloc ?_ _ | with_reducible refine row_other ?_ (by omega) _)) (.int .u8 12) (.slice none 0 0) (.int .u8 0) (.int .i64 0) (.int .i64 (qNum L en ⟨s.at_ + 1, s.e, s.off⟩).1) (.int .i64 0) (.slice none 0 0) (.int .i64 o)) ⟨_, rfl, ⟨_, _, rfl, ?_, ClSl.nil _ _⟩, ?_, ?_⟩
  · exact StrSl.nil _ _
  · exact (by repeat (first | with_reducible exact HR3.out | with_reducible refine RSt.setAt1 (s := s) ?_ | with_reducible refine RSt.drewN ?_ _ | with_reducible refine RSt.new ?_ _ | with_reducible refine RSt.setNew ?_ (by omega) _))
  · (repeat (first | with_reducible exact HK3.out | with_reducible refine KB.drewN ?_ _ | with_reducible refine KB.setP ?_ _ | with_reducible refine KB.setNew ?_ (by omega) _ | with_reducible refine KB.alloc ?_ _ (by (try simp) <;> omega)))
end Go.Proofs.YtfpcdgmdangmaaaGreatDoor

/- DERIVED. The reference's parser: spread, near. -/
namespace Go.Proofs.YtfpcdgmdangmaaaGreatDoor
open Go.RowKit
set_option maxRecDepth 100000

set_option maxHeartbeats 40000000 in
theorem q_item_spread (rb : Nat) (L : List Tok) (hL : L.length ≤ 5000) (en : Int) (s : QS) (w : World) (h : RSt w rb L en s) (hlt : s.at_ < L.length) (hx : L[s.at_].text = ⟨#[115, 112, 114, 101, 97, 100]⟩) :
    Calls Tryz.prog 84 #[.pointer (some ⟨rb, 0, none⟩)] w (CMoved (qSpread L en (offOf en (L.drop s.at_)) ⟨s.at_ + 1, s.e, s.off⟩) rb L en w) := by
  have hfm : Tryz.prog.follows Departure.mixedOrders = true := by kernel_rfl
  have hrl := h.lt
  have H := Lib.hid h
  have i0 : (0 : Int) ≤ (s.at_ : Int) := Int.natCast_nonneg _
  have i1 : (s.at_ : Int) < (L.length : Int) := by omega
  have d1 : decide (s.at_ < L.length) = true := decide_eq_true hlt
  obtain ⟨o, ho⟩ : ∃ o, o = offOf en (L.drop s.at_) := ⟨_, rfl⟩
  rw [← ho]
  clear h
  unfold qSpread
  go_enter Tryz.func84, Tryz.ntmps84
  go_wp2_with (fail)
  go_at_call 44
  refine (q_offset rb L en s _ (by exact H.out.new _)).mono ?_
  rw [← ho]
  clear ho
  rintro e w1 ⟨n, rfl, hw⟩
  have hB : Below w.heap.size w w1 := by rw [hw]; exact below_dN _ ((Below.refl _ _).alloc (Nat.le_refl _) _)
  have hr : w1.heap[w.heap.size]? = some (.cells #[.int .u8 0, .slice none 0 0, .int .u8 0, .int .i64 0, .int .i64 0, .int .i64 0, .slice none 0 0, .int .i64 0] 43 (0, 0)) := by rw [hw]; exact row_new _ _ _ rfl
  have hz1 : w.heap.size < w1.heap.size := by rw [hw]; simp
  clear hw
  have HR1 := Lib.hid (H.out.below hB)
  have HK1 := Lib.hid (KB.of_below (pb := rb) hB)
  obtain ⟨z0, z1, z2, z3, z4, z5, z6, z7⟩ := eight_cells hr
  obtain ⟨g0, g1, g2, g3, g4, g5, g6, g7⟩ := eight_frozen hr
  have Hhr := Lib.hid hr
  obtain ⟨b, bo, bc, hc, hm, hbb, k0', -, q1', -⟩ := HR1.out.tok hlt
  rw [hx] at q1'
  obtain ⟨_, _, -, -, -, -, k1', -, -, -, f1', -⟩ := HR1.out.cells
  have hrl1 : rb < w1.heap.size := by omega
  unfold maxLen at hm
  have k0 := fun ob => (cell_alloc w1 ob hrl1).trans k0'
  have k1 := fun ob => (cell_alloc w1 ob hrl1).trans k1'
  have q1 := fun ob => (cell_alloc w1 ob (show b < w1.heap.size by omega)).trans q1'
  have f1 := fun ob => (frozen_alloc w1 ob hrl1).trans f1'
  have n1 : rb ≠ w1.heap.size := by omega
  have n2 : b ≠ w1.heap.size := by omega
  have n3 : b ≠ rb := by omega
  have n4 : w.heap.size ≠ w1.heap.size := by omega
  have n5 : rb ≠ w.heap.size := by omega
  have HX := Lib.hid hx
  clear hB hr hx k0' k1' q1' f1'
  go_wp2_with (fail)
  go_quiet (fail)
  go_wp2_with (fail)
  go_quiet (fail)
  go_wp2_with (fail)
  go_at_call 47
  refine (q_number rb L hL en ⟨s.at_ + 1, s.e, s.off⟩ _ (by repeat (first | with_reducible exact HR1.out | with_reducible refine RSt.setAt1 (s := s) ?_ | with_reducible refine RSt.drewN ?_ _ | with_reducible refine RSt.new ?_ _ | with_reducible refine RSt.setNew ?_ (by omega) _))).mono ?_
  rintro e w2 ⟨rfl, P, k⟩
  have hz2 := k.size
  try simp at hz2
  have kk : KB w.heap.size rb w w2 := by refine KB.trans ?_ (k.mono (by (try simp) <;> omega)); (repeat (first | with_reducible exact HK1.out | with_reducible refine KB.drewN ?_ _ | with_reducible refine KB.setP ?_ _ | with_reducible refine KB.setNew ?_ (by omega) _ | with_reducible refine KB.alloc ?_ _ (by (try simp) <;> omega)))
  have hr : w2.heap[w.heap.size]? = some (.cells #[.int .u8 0, .slice none 0 0, .int .u8 0, .int .i64 0, .int .i64 0, .int .i64 0, .slice none 0 0, .int .i64 0] 43 (0, 0)) := ObjRow.keep k (by repeat (first | with_reducible exact Hhr.out | with_reducible refine row_drewN ?_ _ | with_reducible apply row8_0 | with_reducible apply row8_1 | with_reducible apply row8_2 | with_reducible apply row8_3 | with_reducible apply row8_4 | with_reducible apply row8_5 | with_reducible apply row8_6 | with_reducible apply row8_7 | with_reducible exact row_new _ _ _ (by simp) | with_reducible refine row_alloc ?_ _ | with_reducible refine row_other ?_ (by omega) _)) (by (try simp) <;> omega) (by omega)
  have Hhr := Lib.hid hr
  have hc2 : w2.heap[w1.heap.size]? = some (.cells #[.int .u8 9, .slice none 0 0, .int .u8 0, .int .i64 0, .int .i64 0, .int .i64 0, .slice none 0 0, .int .i64 o] 43 (0, 0)) := ObjRow.keep k (by repeat (first | with_reducible exact HNONE.out | with_reducible refine row_drewN ?_ _ | with_reducible apply row8_0 | with_reducible apply row8_1 | with_reducible apply row8_2 | with_reducible apply row8_3 | with_reducible apply row8_4 | with_reducible apply row8_5 | with_reducible apply row8_6 | with_reducible apply row8_7 | with_reducible exact row_new _ _ _ (by simp) | with_reducible refine row_alloc ?_ _ | with_reducible refine row_other ?_ (by omega) _)) (by (try simp) <;> omega) (by omega)
  have Hhc2 := Lib.hid hc2
  obtain ⟨c0, c1, c2, c3, c4, c5, c6, c7⟩ := eight_cells hc2
  obtain ⟨e0, e1, e2, e3, e4, e5, e6, e7⟩ := eight_frozen hc2
  obtain ⟨z0, z1, z2, z3, z4, z5, z6, z7⟩ := eight_cells hr
  obtain ⟨g0, g1, g2, g3, g4, g5, g6, g7⟩ := eight_frozen hr
  have HK2 := Lib.hid kk
  have HR2 := Lib.hid P
  clear k P kk hr hc2
  go_wp2_with (fail)
  go_at_call 48
  refine (q_take rb ⟨#[112, 101, 114]⟩ L hL en (qNum L en ⟨s.at_ + 1, s.e, s.off⟩).2 _ (by repeat (first | with_reducible exact HR2.out | with_reducible refine RSt.setAt1 (s := s) ?_ | with_reducible refine RSt.drewN ?_ _ | with_reducible refine RSt.new ?_ _ | with_reducible refine RSt.setNew ?_ (by omega) _))).mono ?_
  rintro e w3 ⟨rfl, P, k⟩
  have hz3 := k.size
  try simp at hz3
  have kk : KB w.heap.size rb w w3 := by refine KB.trans ?_ (k.mono (by (try simp) <;> omega)); (repeat (first | with_reducible exact HK2.out | with_reducible refine KB.drewN ?_ _ | with_reducible refine KB.setP ?_ _ | with_reducible refine KB.setNew ?_ (by omega) _ | with_reducible refine KB.alloc ?_ _ (by (try simp) <;> omega)))
  have hr : w3.heap[w.heap.size]? = some (.cells #[.int .u8 0, .slice none 0 0, .int .u8 0, .int .i64 0, .int .i64 0, .int .i64 0, .slice none 0 0, .int .i64 0] 43 (0, 0)) := ObjRow.keep k (by repeat (first | with_reducible exact Hhr.out | with_reducible refine row_drewN ?_ _ | with_reducible apply row8_0 | with_reducible apply row8_1 | with_reducible apply row8_2 | with_reducible apply row8_3 | with_reducible apply row8_4 | with_reducible apply row8_5 | with_reducible apply row8_6 | with_reducible apply row8_7 | with_reducible exact row_new _ _ _ (by simp) | with_reducible refine row_alloc ?_ _ | with_reducible refine row_other ?_ (by omega) _)) (by (try simp) <;> omega) (by omega)
  have Hhr := Lib.hid hr
  have hc2 : w3.heap[w1.heap.size]? = some (.cells #[.int .u8 9, .slice none 0 0, .int .u8 0, .int .i64 0, .int .i64 (qNum L en ⟨s.at_ + 1, s.e, s.off⟩).1, .int .i64 0, .slice none 0 0, .int .i64 o] 43 (0, 0)) := ObjRow.keep k (by repeat (first | with_reducible exact Hhc2.out | with_reducible refine row_drewN ?_ _ | with_reducible apply row8_0 | with_reducible apply row8_1 | with_reducible apply row8_2 | with_reducible apply row8_3 | with_reducible apply row8_4 | with_reducible apply row8_5 | with_reducible apply row8_6 | with_reducible apply row8_7 | with_reducible exact row_new _ _ _ (by simp) | with_reducible refine row_alloc ?_ _ | with_reducible refine row_other ?_ (by omega) _)) (by (try simp) <;> omega) (by omega)
  have Hhc2 := Lib.hid hc2
  obtain ⟨c0, c1, c2, c3, c4, c5, c6, c7⟩ := eight_cells hc2
  obtain ⟨e0, e1, e2, e3, e4, e5, e6, e7⟩ := eight_frozen hc2
  obtain ⟨z0, z1, z2, z3, z4, z5, z6, z7⟩ := eight_cells hr
  obtain ⟨g0, g1, g2, g3, g4, g5, g6, g7⟩ := eight_frozen hr
  have HK3 := Lib.hid kk
  have HR3 := Lib.hid P
  clear k P kk hr hc2
  go_wp2_with (fail)
  go_at_call 46
  refine (q_scope rb L hL en (qTake L en ⟨#[112, 101, 114]⟩ (qNum L en ⟨s.at_ + 1, s.e, s.off⟩).2) _ (by repeat (first | with_reducible exact HR3.out | with_reducible refine RSt.setAt1 (s := s) ?_ | with_reducible refine RSt.drewN ?_ _ | with_reducible refine RSt.new ?_ _ | with_reducible refine RSt.setNew ?_ (by omega) _))).mono ?_
  rintro e w4 ⟨rfl, P, k⟩
  have hz4 := k.size
  try simp at hz4
  have kk : KB w.heap.size rb w w4 := by refine KB.trans ?_ (k.mono (by (try simp) <;> omega)); (repeat (first | with_reducible exact HK3.out | with_reducible refine KB.drewN ?_ _ | with_reducible refine KB.setP ?_ _ | with_reducible refine KB.setNew ?_ (by omega) _ | with_reducible refine KB.alloc ?_ _ (by (try simp) <;> omega)))
  have hr : w4.heap[w.heap.size]? = some (.cells #[.int .u8 0, .slice none 0 0, .int .u8 0, .int .i64 0, .int .i64 0, .int .i64 0, .slice none 0 0, .int .i64 0] 43 (0, 0)) := ObjRow.keep k (by repeat (first | with_reducible exact Hhr.out | with_reducible refine row_drewN ?_ _ | with_reducible apply row8_0 | with_reducible apply row8_1 | with_reducible apply row8_2 | with_reducible apply row8_3 | with_reducible apply row8_4 | with_reducible apply row8_5 | with_reducible apply row8_6 | with_reducible apply row8_7 | with_reducible exact row_new _ _ _ (by simp) | with_reducible refine row_alloc ?_ _ | with_reducible refine row_other ?_ (by omega) _)) (by (try simp) <;> omega) (by omega)
  have Hhr := Lib.hid hr
  have hc2 : w4.heap[w1.heap.size]? = some (.cells #[.int .u8 9, .slice none 0 0, .int .u8 0, .int .i64 0, .int .i64 (qNum L en ⟨s.at_ + 1, s.e, s.off⟩).1, .int .i64 0, .slice none 0 0, .int .i64 o] 43 (0, 0)) := ObjRow.keep k (by repeat (first | with_reducible exact Hhc2.out | with_reducible refine row_drewN ?_ _ | with_reducible apply row8_0 | with_reducible apply row8_1 | with_reducible apply row8_2 | with_reducible apply row8_3 | with_reducible apply row8_4 | with_reducible apply row8_5 | with_reducible apply row8_6 | with_reducible apply row8_7 | with_reducible exact row_new _ _ _ (by simp) | with_reducible refine row_alloc ?_ _ | with_reducible refine row_other ?_ (by omega) _)) (by (try simp) <;> omega) (by omega)
  have Hhc2 := Lib.hid hc2
  obtain ⟨c0, c1, c2, c3, c4, c5, c6, c7⟩ := eight_cells hc2
  obtain ⟨e0, e1, e2, e3, e4, e5, e6, e7⟩ := eight_frozen hc2
  obtain ⟨z0, z1, z2, z3, z4, z5, z6, z7⟩ := eight_cells hr
  obtain ⟨g0, g1, g2, g3, g4, g5, g6, g7⟩ := eight_frozen hr
  have HK4 := Lib.hid kk
  have HR4 := Lib.hid P
  clear k P kk hr hc2
  go_wp2_with (fail)
  go_at_call 48
  refine (q_take rb ⟨#[59]⟩ L hL en (qScope L en (qTake L en ⟨#[112, 101, 114]⟩ (qNum L en ⟨s.at_ + 1, s.e, s.off⟩).2)).2 _ (by repeat (first | with_reducible exact HR4.out | with_reducible refine RSt.setAt1 (s := s) ?_ | with_reducible refine RSt.drewN ?_ _ | with_reducible refine RSt.new ?_ _ | with_reducible refine RSt.setNew ?_ (by omega) _))).mono ?_
  rintro e w5 ⟨rfl, P, k⟩
  have hz5 := k.size
  try simp at hz5
  have kk : KB w.heap.size rb w w5 := by refine KB.trans ?_ (k.mono (by (try simp) <;> omega)); (repeat (first | with_reducible exact HK4.out | with_reducible refine KB.drewN ?_ _ | with_reducible refine KB.setP ?_ _ | with_reducible refine KB.setNew ?_ (by omega) _ | with_reducible refine KB.alloc ?_ _ (by (try simp) <;> omega)))
  have hr : w5.heap[w.heap.size]? = some (.cells #[.int .u8 0, .slice none 0 0, .int .u8 0, .int .i64 0, .int .i64 0, .int .i64 0, .slice none 0 0, .int .i64 0] 43 (0, 0)) := ObjRow.keep k (by repeat (first | with_reducible exact Hhr.out | with_reducible refine row_drewN ?_ _ | with_reducible apply row8_0 | with_reducible apply row8_1 | with_reducible apply row8_2 | with_reducible apply row8_3 | with_reducible apply row8_4 | with_reducible apply row8_5 | with_reducible apply row8_6 | with_reducible apply row8_7 | with_reducible exact row_new _ _ _ (by simp) | with_reducible refine row_alloc ?_ _ | with_reducible refine row_other ?_ (by omega) _)) (by (try simp) <;> omega) (by omega)
  have Hhr := Lib.hid hr
  have hc2 : w5.heap[w1.heap.size]? = some (.cells #[.int .u8 9, .slice none 0 0, .int .u8 (qScope L en (qTake L en ⟨#[112, 101, 114]⟩ (qNum L en ⟨s.at_ + 1, s.e, s.off⟩).2)).1, .int .i64 0, .int .i64 (qNum L en ⟨s.at_ + 1, s.e, s.off⟩).1, .int .i64 0, .slice none 0 0, .int .i64 o] 43 (0, 0)) := ObjRow.keep k (by repeat (first | with_reducible exact Hhc2.out | with_reducible refine row_drewN ?_ _ | with_reducible apply row8_0 | with_reducible apply row8_1 | with_reducible apply row8_2 | with_reducible apply row8_3 | with_reducible apply row8_4 | with_reducible apply row8_5 | with_reducible apply row8_6 | with_reducible apply row8_7 | with_reducible exact row_new _ _ _ (by simp) | with_reducible refine row_alloc ?_ _ | with_reducible refine row_other ?_ (by omega) _)) (by (try simp) <;> omega) (by omega)
  have Hhc2 := Lib.hid hc2
  obtain ⟨c0, c1, c2, c3, c4, c5, c6, c7⟩ := eight_cells hc2
  obtain ⟨e0, e1, e2, e3, e4, e5, e6, e7⟩ := eight_frozen hc2
  obtain ⟨z0, z1, z2, z3, z4, z5, z6, z7⟩ := eight_cells hr
  obtain ⟨g0, g1, g2, g3, g4, g5, g6, g7⟩ := eight_frozen hr
  have HK5 := Lib.hid kk
  have HR5 := Lib.hid P
  clear k P kk hr hc2
  go_wp2_with (fail)
  refine ret8 (i := 2) (b := w.heap.size) rfl rfl rfl (row_store8 (by repeat (first | with_reducible exact Hhr.out | with_reducible refine row_drewN ?_ _ | with_reducible apply row8_0 | with_reducible apply row8_1 | with_reducible apply row8_2 | with_reducible apply row8_3 | with_reducible apply row8_4 | with_reducible apply row8_5 | with_reducible apply row8_6 | with_reducible apply row8_7 | with_reducible exact row_new _ _ _ (by simp) | with_reducible refine row_alloc ?_ _ | with_reducible refine row_other ?_ (by omega) _)) (.int .u8 9) (.slice none 0 0) (.int .u8 (qScope L en (qTake L en ⟨#[112, 101, 114]⟩ (qNum L en ⟨s.at_ + 1, s.e, s.off⟩).2)).1) (.int .i64 0) (.int .i64 (qNum L en ⟨s.at_ + 1, s.e, s.off⟩).1) (.int .i64 0) (.slice none 0 0) (.int .i64 o)) ⟨_, rfl, ⟨_, _, rfl, ?_, ClSl.nil _ _⟩, ?_, ?_⟩
  · exact StrSl.nil _ _
  · exact (by repeat (first | with_reducible exact HR5.out | with_reducible refine RSt.setAt1 (s := s) ?_ | with_reducible refine RSt.drewN ?_ _ | with_reducible refine RSt.new ?_ _ | with_reducible refine RSt.setNew ?_ (by omega) _))
  · (repeat (first | with_reducible exact HK5.out | with_reducible refine KB.drewN ?_ _ | with_reducible refine KB.setP ?_ _ | with_reducible refine KB.setNew ?_ (by omega) _ | with_reducible refine KB.alloc ?_ _ (by (try simp) <;> omega)))

set_option maxHeartbeats 40000000 in
theorem q_item_near (rb : Nat) (L : List Tok) (hL : L.length ≤ 5000) (en : Int) (s : QS) (w : World) (h : RSt w rb L en s) (hlt : s.at_ < L.length) (hx : L[s.at_].text = ⟨#[110, 101, 97, 114]⟩) :
    Calls Tryz.prog 84 #[.pointer (some ⟨rb, 0, none⟩)] w (CMoved (qNear L en (offOf en (L.drop s.at_)) ⟨s.at_ + 1, s.e, s.off⟩) rb L en w) := by
  have hfm : Tryz.prog.follows Departure.mixedOrders = true := by kernel_rfl
  have hrl := h.lt
  have H := Lib.hid h
  have i0 : (0 : Int) ≤ (s.at_ : Int) := Int.natCast_nonneg _
  have i1 : (s.at_ : Int) < (L.length : Int) := by omega
  have d1 : decide (s.at_ < L.length) = true := decide_eq_true hlt
  obtain ⟨o, ho⟩ : ∃ o, o = offOf en (L.drop s.at_) := ⟨_, rfl⟩
  rw [← ho]
  clear h
  unfold qNear
  go_enter Tryz.func84, Tryz.ntmps84
  go_wp2_with (fail)
  go_at_call 44
  refine (q_offset rb L en s _ (by exact H.out.new _)).mono ?_
  rw [← ho]
  clear ho
  rintro e w1 ⟨n, rfl, hw⟩
  have hB : Below w.heap.size w w1 := by rw [hw]; exact below_dN _ ((Below.refl _ _).alloc (Nat.le_refl _) _)
  have hr : w1.heap[w.heap.size]? = some (.cells #[.int .u8 0, .slice none 0 0, .int .u8 0, .int .i64 0, .int .i64 0, .int .i64 0, .slice none 0 0, .int .i64 0] 43 (0, 0)) := by rw [hw]; exact row_new _ _ _ rfl
  have hz1 : w.heap.size < w1.heap.size := by rw [hw]; simp
  clear hw
  have HR1 := Lib.hid (H.out.below hB)
  have HK1 := Lib.hid (KB.of_below (pb := rb) hB)
  obtain ⟨z0, z1, z2, z3, z4, z5, z6, z7⟩ := eight_cells hr
  obtain ⟨g0, g1, g2, g3, g4, g5, g6, g7⟩ := eight_frozen hr
  have Hhr := Lib.hid hr
  obtain ⟨b, bo, bc, hc, hm, hbb, k0', -, q1', -⟩ := HR1.out.tok hlt
  rw [hx] at q1'
  obtain ⟨_, _, -, -, -, -, k1', -, -, -, f1', -⟩ := HR1.out.cells
  have hrl1 : rb < w1.heap.size := by omega
  unfold maxLen at hm
  have k0 := fun ob => (cell_alloc w1 ob hrl1).trans k0'
  have k1 := fun ob => (cell_alloc w1 ob hrl1).trans k1'
  have q1 := fun ob => (cell_alloc w1 ob (show b < w1.heap.size by omega)).trans q1'
  have f1 := fun ob => (frozen_alloc w1 ob hrl1).trans f1'
  have n1 : rb ≠ w1.heap.size := by omega
  have n2 : b ≠ w1.heap.size := by omega
  have n3 : b ≠ rb := by omega
  have n4 : w.heap.size ≠ w1.heap.size := by omega
  have n5 : rb ≠ w.heap.size := by omega
  have HX := Lib.hid hx
  clear hB hr hx k0' k1' q1' f1'
  go_wp2_with (fail)
  go_quiet (fail)
  go_wp2_with (fail)
  go_quiet (fail)
  go_wp2_with (fail)
  go_at_call 82
  refine (q_name rb L hL en ⟨s.at_ + 1, s.e, s.off⟩ _ (by repeat (first | with_reducible exact HR1.out | with_reducible refine RSt.setAt1 (s := s) ?_ | with_reducible refine RSt.drewN ?_ _ | with_reducible refine RSt.new ?_ _ | with_reducible refine RSt.setNew ?_ (by omega) _))).mono ?_
  rintro e w2 ⟨rfl, P, k⟩
  have hz2 := k.size
  try simp at hz2
  have kk : KB w.heap.size rb w w2 := by refine KB.trans ?_ (k.mono (by (try simp) <;> omega)); (repeat (first | with_reducible exact HK1.out | with_reducible refine KB.drewN ?_ _ | with_reducible refine KB.setP ?_ _ | with_reducible refine KB.setNew ?_ (by omega) _ | with_reducible refine KB.alloc ?_ _ (by (try simp) <;> omega)))
  have hr : w2.heap[w.heap.size]? = some (.cells #[.int .u8 0, .slice none 0 0, .int .u8 0, .int .i64 0, .int .i64 0, .int .i64 0, .slice none 0 0, .int .i64 0] 43 (0, 0)) := ObjRow.keep k (by repeat (first | with_reducible exact Hhr.out | with_reducible refine row_drewN ?_ _ | with_reducible apply row8_0 | with_reducible apply row8_1 | with_reducible apply row8_2 | with_reducible apply row8_3 | with_reducible apply row8_4 | with_reducible apply row8_5 | with_reducible apply row8_6 | with_reducible apply row8_7 | with_reducible exact row_new _ _ _ (by simp) | with_reducible refine row_alloc ?_ _ | with_reducible refine row_other ?_ (by omega) _)) (by (try simp) <;> omega) (by omega)
  have Hhr := Lib.hid hr
  have hc2 : w2.heap[w1.heap.size]? = some (.cells #[.int .u8 11, .slice none 0 0, .int .u8 0, .int .i64 0, .int .i64 0, .int .i64 0, .slice none 0 0, .int .i64 o] 43 (0, 0)) := ObjRow.keep k (by repeat (first | with_reducible exact HNONE.out | with_reducible refine row_drewN ?_ _ | with_reducible apply row8_0 | with_reducible apply row8_1 | with_reducible apply row8_2 | with_reducible apply row8_3 | with_reducible apply row8_4 | with_reducible apply row8_5 | with_reducible apply row8_6 | with_reducible apply row8_7 | with_reducible exact row_new _ _ _ (by simp) | with_reducible refine row_alloc ?_ _ | with_reducible refine row_other ?_ (by omega) _)) (by (try simp) <;> omega) (by omega)
  have Hhc2 := Lib.hid hc2
  obtain ⟨c0, c1, c2, c3, c4, c5, c6, c7⟩ := eight_cells hc2
  obtain ⟨e0, e1, e2, e3, e4, e5, e6, e7⟩ := eight_frozen hc2
  obtain ⟨z0, z1, z2, z3, z4, z5, z6, z7⟩ := eight_cells hr
  obtain ⟨g0, g1, g2, g3, g4, g5, g6, g7⟩ := eight_frozen hr
  have HK2 := Lib.hid kk
  have HR2 := Lib.hid P
  clear k P kk hr hc2
  have c1a := fun ob => (cell_alloc w2 ob (show w1.heap.size < w2.heap.size by omega)).trans c1
  have e1a := fun ob => (frozen_alloc w2 ob (show w1.heap.size < w2.heap.size by omega)).trans e1
  go_wp2_with (fail)
  go_at_call 48
  refine (q_take rb ⟨#[119, 105, 116, 104, 105, 110]⟩ L hL en (qName L en ⟨s.at_ + 1, s.e, s.off⟩).2 _ (by repeat (first | with_reducible exact HR2.out | with_reducible refine RSt.setAt1 (s := s) ?_ | with_reducible refine RSt.drewN ?_ _ | with_reducible refine RSt.new ?_ _ | with_reducible refine RSt.setNew ?_ (by omega) _))).mono ?_
  rintro e w3 ⟨rfl, P, k⟩
  have hz3 := k.size
  try simp at hz3
  have kk : KB w.heap.size rb w w3 := by refine KB.trans ?_ (k.mono (by (try simp) <;> omega)); (repeat (first | with_reducible exact HK2.out | with_reducible refine KB.drewN ?_ _ | with_reducible refine KB.setP ?_ _ | with_reducible refine KB.setNew ?_ (by omega) _ | with_reducible refine KB.alloc ?_ _ (by (try simp) <;> omega)))
  have hr : w3.heap[w.heap.size]? = some (.cells #[.int .u8 0, .slice none 0 0, .int .u8 0, .int .i64 0, .int .i64 0, .int .i64 0, .slice none 0 0, .int .i64 0] 43 (0, 0)) := ObjRow.keep k (by repeat (first | with_reducible exact Hhr.out | with_reducible refine row_drewN ?_ _ | with_reducible apply row8_0 | with_reducible apply row8_1 | with_reducible apply row8_2 | with_reducible apply row8_3 | with_reducible apply row8_4 | with_reducible apply row8_5 | with_reducible apply row8_6 | with_reducible apply row8_7 | with_reducible exact row_new _ _ _ (by simp) | with_reducible refine row_alloc ?_ _ | with_reducible refine row_other ?_ (by omega) _)) (by (try simp) <;> omega) (by omega)
  have Hhr := Lib.hid hr
  have hc2 : w3.heap[w1.heap.size]? = some (.cells #[.int .u8 11, .slice (some ⟨w2.heap.size, 0, none⟩) 1 1, .int .u8 0, .int .i64 0, .int .i64 0, .int .i64 0, .slice none 0 0, .int .i64 o] 43 (0, 0)) := ObjRow.keep k (by repeat (first | with_reducible exact Hhc2.out | with_reducible refine row_drewN ?_ _ | with_reducible apply row8_0 | with_reducible apply row8_1 | with_reducible apply row8_2 | with_reducible apply row8_3 | with_reducible apply row8_4 | with_reducible apply row8_5 | with_reducible apply row8_6 | with_reducible apply row8_7 | with_reducible exact row_new _ _ _ (by simp) | with_reducible refine row_alloc ?_ _ | with_reducible refine row_other ?_ (by omega) _)) (by (try simp) <;> omega) (by omega)
  have Hhc2 := Lib.hid hc2
  have hs : w3.heap[w2.heap.size]? = some (.cells #[.string (qName L en ⟨s.at_ + 1, s.e, s.off⟩).1] 9 (0, 0)) := ObjRow.keep k (by repeat (first | with_reducible exact HNONE.out | with_reducible refine row_drewN ?_ _ | with_reducible apply row8_0 | with_reducible apply row8_1 | with_reducible apply row8_2 | with_reducible apply row8_3 | with_reducible apply row8_4 | with_reducible apply row8_5 | with_reducible apply row8_6 | with_reducible apply row8_7 | with_reducible exact row_new _ _ _ (by simp) | with_reducible refine row_alloc ?_ _ | with_reducible refine row_other ?_ (by omega) _)) (by (try simp) <;> omega) (by omega)
  have Hhs := Lib.hid hs
  clear hs
  obtain ⟨c0, c1, c2, c3, c4, c5, c6, c7⟩ := eight_cells hc2
  obtain ⟨e0, e1, e2, e3, e4, e5, e6, e7⟩ := eight_frozen hc2
  obtain ⟨z0, z1, z2, z3, z4, z5, z6, z7⟩ := eight_cells hr
  obtain ⟨g0, g1, g2, g3, g4, g5, g6, g7⟩ := eight_frozen hr
  have HK3 := Lib.hid kk
  have HR3 := Lib.hid P
  clear k P kk hr hc2
  go_wp2_with (fail)
  go_at_call 47
  refine (q_number rb L hL en (qTake L en ⟨#[119, 105, 116, 104, 105, 110]⟩ (qName L en ⟨s.at_ + 1, s.e, s.off⟩).2) _ (by repeat (first | with_reducible exact HR3.out | with_reducible refine RSt.setAt1 (s := s) ?_ | with_reducible refine RSt.drewN ?_ _ | with_reducible refine RSt.new ?_ _ | with_reducible refine RSt.setNew ?_ (by omega) _))).mono ?_
  rintro e w4 ⟨rfl, P, k⟩
  have hz4 := k.size
  try simp at hz4
  have kk : KB w.heap.size rb w w4 := by refine KB.trans ?_ (k.mono (by (try simp) <;> omega)); (repeat (first | with_reducible exact HK3.out | with_reducible refine KB.drewN ?_ _ | with_reducible refine KB.setP ?_ _ | with_reducible refine KB.setNew ?_ (by omega) _ | with_reducible refine KB.alloc ?_ _ (by (try simp) <;> omega)))
  have hr : w4.heap[w.heap.size]? = some (.cells #[.int .u8 0, .slice none 0 0, .int .u8 0, .int .i64 0, .int .i64 0, .int .i64 0, .slice none 0 0, .int .i64 0] 43 (0, 0)) := ObjRow.keep k (by repeat (first | with_reducible exact Hhr.out | with_reducible refine row_drewN ?_ _ | with_reducible apply row8_0 | with_reducible apply row8_1 | with_reducible apply row8_2 | with_reducible apply row8_3 | with_reducible apply row8_4 | with_reducible apply row8_5 | with_reducible apply row8_6 | with_reducible apply row8_7 | with_reducible exact row_new _ _ _ (by simp) | with_reducible refine row_alloc ?_ _ | with_reducible refine row_other ?_ (by omega) _)) (by (try simp) <;> omega) (by omega)
  have Hhr := Lib.hid hr
  have hc2 : w4.heap[w1.heap.size]? = some (.cells #[.int .u8 11, .slice (some ⟨w2.heap.size, 0, none⟩) 1 1, .int .u8 0, .int .i64 0, .int .i64 0, .int .i64 0, .slice none 0 0, .int .i64 o] 43 (0, 0)) := ObjRow.keep k (by repeat (first | with_reducible exact Hhc2.out | with_reducible refine row_drewN ?_ _ | with_reducible apply row8_0 | with_reducible apply row8_1 | with_reducible apply row8_2 | with_reducible apply row8_3 | with_reducible apply row8_4 | with_reducible apply row8_5 | with_reducible apply row8_6 | with_reducible apply row8_7 | with_reducible exact row_new _ _ _ (by simp) | with_reducible refine row_alloc ?_ _ | with_reducible refine row_other ?_ (by omega) _)) (by (try simp) <;> omega) (by omega)
  have Hhc2 := Lib.hid hc2
  have hs : w4.heap[w2.heap.size]? = some (.cells #[.string (qName L en ⟨s.at_ + 1, s.e, s.off⟩).1] 9 (0, 0)) := ObjRow.keep k (by repeat (first | with_reducible exact Hhs.out | with_reducible refine row_drewN ?_ _ | with_reducible apply row8_0 | with_reducible apply row8_1 | with_reducible apply row8_2 | with_reducible apply row8_3 | with_reducible apply row8_4 | with_reducible apply row8_5 | with_reducible apply row8_6 | with_reducible apply row8_7 | with_reducible exact row_new _ _ _ (by simp) | with_reducible refine row_alloc ?_ _ | with_reducible refine row_other ?_ (by omega) _)) (by (try simp) <;> omega) (by omega)
  have Hhs := Lib.hid hs
  clear hs
  obtain ⟨c0, c1, c2, c3, c4, c5, c6, c7⟩ := eight_cells hc2
  obtain ⟨e0, e1, e2, e3, e4, e5, e6, e7⟩ := eight_frozen hc2
  obtain ⟨z0, z1, z2, z3, z4, z5, z6, z7⟩ := eight_cells hr
  obtain ⟨g0, g1, g2, g3, g4, g5, g6, g7⟩ := eight_frozen hr
  have HK4 := Lib.hid kk
  have HR4 := Lib.hid P
  clear k P kk hr hc2
  go_wp2_with (fail)
  go_at_call 48
  refine (q_take rb ⟨#[59]⟩ L hL en (qNum L en (qTake L en ⟨#[119, 105, 116, 104, 105, 110]⟩ (qName L en ⟨s.at_ + 1, s.e, s.off⟩).2)).2 _ (by repeat (first | with_reducible exact HR4.out | with_reducible refine RSt.setAt1 (s := s) ?_ | with_reducible refine RSt.drewN ?_ _ | with_reducible refine RSt.new ?_ _ | with_reducible refine RSt.setNew ?_ (by omega) _))).mono ?_
  rintro e w5 ⟨rfl, P, k⟩
  have hz5 := k.size
  try simp at hz5
  have kk : KB w.heap.size rb w w5 := by refine KB.trans ?_ (k.mono (by (try simp) <;> omega)); (repeat (first | with_reducible exact HK4.out | with_reducible refine KB.drewN ?_ _ | with_reducible refine KB.setP ?_ _ | with_reducible refine KB.setNew ?_ (by omega) _ | with_reducible refine KB.alloc ?_ _ (by (try simp) <;> omega)))
  have hr : w5.heap[w.heap.size]? = some (.cells #[.int .u8 0, .slice none 0 0, .int .u8 0, .int .i64 0, .int .i64 0, .int .i64 0, .slice none 0 0, .int .i64 0] 43 (0, 0)) := ObjRow.keep k (by repeat (first | with_reducible exact Hhr.out | with_reducible refine row_drewN ?_ _ | with_reducible apply row8_0 | with_reducible apply row8_1 | with_reducible apply row8_2 | with_reducible apply row8_3 | with_reducible apply row8_4 | with_reducible apply row8_5 | with_reducible apply row8_6 | with_reducible apply row8_7 | with_reducible exact row_new _ _ _ (by simp) | with_reducible refine row_alloc ?_ _ | with_reducible refine row_other ?_ (by omega) _)) (by (try simp) <;> omega) (by omega)
  have Hhr := Lib.hid hr
  have hc2 : w5.heap[w1.heap.size]? = some (.cells #[.int .u8 11, .slice (some ⟨w2.heap.size, 0, none⟩) 1 1, .int .u8 0, .int .i64 0, .int .i64 (qNum L en (qTake L en ⟨#[119, 105, 116, 104, 105, 110]⟩ (qName L en ⟨s.at_ + 1, s.e, s.off⟩).2)).1, .int .i64 0, .slice none 0 0, .int .i64 o] 43 (0, 0)) := ObjRow.keep k (by repeat (first | with_reducible exact Hhc2.out | with_reducible refine row_drewN ?_ _ | with_reducible apply row8_0 | with_reducible apply row8_1 | with_reducible apply row8_2 | with_reducible apply row8_3 | with_reducible apply row8_4 | with_reducible apply row8_5 | with_reducible apply row8_6 | with_reducible apply row8_7 | with_reducible exact row_new _ _ _ (by simp) | with_reducible refine row_alloc ?_ _ | with_reducible refine row_other ?_ (by omega) _)) (by (try simp) <;> omega) (by omega)
  have Hhc2 := Lib.hid hc2
  have hs : w5.heap[w2.heap.size]? = some (.cells #[.string (qName L en ⟨s.at_ + 1, s.e, s.off⟩).1] 9 (0, 0)) := ObjRow.keep k (by repeat (first | with_reducible exact Hhs.out | with_reducible refine row_drewN ?_ _ | with_reducible apply row8_0 | with_reducible apply row8_1 | with_reducible apply row8_2 | with_reducible apply row8_3 | with_reducible apply row8_4 | with_reducible apply row8_5 | with_reducible apply row8_6 | with_reducible apply row8_7 | with_reducible exact row_new _ _ _ (by simp) | with_reducible refine row_alloc ?_ _ | with_reducible refine row_other ?_ (by omega) _)) (by (try simp) <;> omega) (by omega)
  have Hhs := Lib.hid hs
  clear hs
  obtain ⟨c0, c1, c2, c3, c4, c5, c6, c7⟩ := eight_cells hc2
  obtain ⟨e0, e1, e2, e3, e4, e5, e6, e7⟩ := eight_frozen hc2
  obtain ⟨z0, z1, z2, z3, z4, z5, z6, z7⟩ := eight_cells hr
  obtain ⟨g0, g1, g2, g3, g4, g5, g6, g7⟩ := eight_frozen hr
  have HK5 := Lib.hid kk
  have HR5 := Lib.hid P
  clear k P kk hr hc2
  go_wp2_with (fail)
  refine ret8 (i := 2) (b := w.heap.size) rfl rfl rfl (row_store8 (by repeat (first | with_reducible exact Hhr.out | with_reducible refine row_drewN ?_ _ | with_reducible apply row8_0 | with_reducible apply row8_1 | with_reducible apply row8_2 | with_reducible apply row8_3 | with_reducible apply row8_4 | with_reducible apply row8_5 | with_reducible apply row8_6 | with_reducible apply row8_7 | with_reducible exact row_new _ _ _ (by simp) | with_reducible refine row_alloc ?_ _ | with_reducible refine row_other ?_ (by omega) _)) (.int .u8 11) (.slice (some ⟨w2.heap.size, 0, none⟩) 1 1) (.int .u8 0) (.int .i64 0) (.int .i64 (qNum L en (qTake L en ⟨#[119, 105, 116, 104, 105, 110]⟩ (qName L en ⟨s.at_ + 1, s.e, s.off⟩).2)).1) (.int .i64 0) (.slice none 0 0) (.int .i64 o)) ⟨_, rfl, ⟨_, _, rfl, ?_, ClSl.nil _ _⟩, ?_, ?_⟩
  · exact StrSl.one (by repeat (first | with_reducible exact Hhs.out | with_reducible refine row_drewN ?_ _ | with_reducible apply row8_0 | with_reducible apply row8_1 | with_reducible apply row8_2 | with_reducible apply row8_3 | with_reducible apply row8_4 | with_reducible apply row8_5 | with_reducible apply row8_6 | with_reducible apply row8_7 | with_reducible exact row_new _ _ _ (by simp) | with_reducible refine row_alloc ?_ _ | with_reducible refine row_other ?_ (by omega) _)) (by (try simp) <;> omega)
  · exact (by repeat (first | with_reducible exact HR5.out | with_reducible refine RSt.setAt1 (s := s) ?_ | with_reducible refine RSt.drewN ?_ _ | with_reducible refine RSt.new ?_ _ | with_reducible refine RSt.setNew ?_ (by omega) _))
  · (repeat (first | with_reducible exact HK5.out | with_reducible refine KB.drewN ?_ _ | with_reducible refine KB.setP ?_ _ | with_reducible refine KB.setNew ?_ (by omega) _ | with_reducible refine KB.alloc ?_ _ (by (try simp) <;> omega)))
end Go.Proofs.YtfpcdgmdangmaaaGreatDoor
