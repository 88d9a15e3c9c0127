/-
  DERIVED. Several texts in one.
-/
import Derived.Test.YtfpcdgmdangmaaaGreatDoorYQEm
set_option linter.unusedVariables false
set_option linter.unusedSimpArgs false

/- DERIVED. The reference's parser: window, approve. -/
namespace Go.Proofs.YtfpcdgmdangmaaaGreatDoor
open Go.RowKit
set_option maxRecDepth 100000

set_option maxHeartbeats 40000000 in
theorem q_clause_window (rb : Nat) (L : List Tok) (hL : L.length ≤ 5000) (en : Int) (s : QS) (w : World) (h : RSt w rb L en s) (hlt : s.at_ < L.length) (hx : L[s.at_].text = ⟨#[119, 105, 110, 100, 111, 119]⟩) :
    Calls Tryz.prog 24 #[.pointer (some ⟨rb, 0, none⟩)] w (CMoved (qWindow L en (offOf en (L.drop s.at_)) ⟨s.at_ + 1, s.e, s.off⟩) rb L en w) := by
  have hfm : Tryz.prog.follows Departure.mixedOrders = true := by kernel_rfl
  have hrl := h.lt
  have H := Lib.hid h
  have i0 : (0 : Int) ≤ (s.at_ : Int) := Int.natCast_nonneg _
  have i1 : (s.at_ : Int) < (L.length : Int) := by omega
  have d1 : decide (s.at_ < L.length) = true := decide_eq_true hlt
  obtain ⟨o, ho⟩ : ∃ o, o = offOf en (L.drop s.at_) := ⟨_, rfl⟩
  rw [← ho]
  clear h
  unfold qWindow
  go_enter Tryz.func24, Tryz.ntmps24
  go_wp2_with (fail)
  go_at_call 44
  refine (q_offset rb L en s _ (by exact H.out.new _)).mono ?_
  rw [← ho]
  clear ho
  rintro e w1 ⟨n, rfl, hw⟩
  have hB : Below w.heap.size w w1 := by rw [hw]; exact below_dN _ ((Below.refl _ _).alloc (Nat.le_refl _) _)
  have hr : w1.heap[w.heap.size]? = some (.cells #[.int .u8 0, .slice none 0 0, .int .u8 0, .int .i64 0, .int .i64 0, .int .i64 0, .slice none 0 0, .int .i64 0] 43 (0, 0)) := by rw [hw]; exact row_new _ _ _ rfl
  have hz1 : w.heap.size < w1.heap.size := by rw [hw]; simp
  clear hw
  have HR1 := Lib.hid (H.out.below hB)
  have HK1 := Lib.hid (KB.of_below (pb := rb) hB)
  obtain ⟨z0, z1, z2, z3, z4, z5, z6, z7⟩ := eight_cells hr
  obtain ⟨g0, g1, g2, g3, g4, g5, g6, g7⟩ := eight_frozen hr
  have Hhr := Lib.hid hr
  obtain ⟨b, bo, bc, hc, hm, hbb, k0', -, q1', -⟩ := HR1.out.tok hlt
  rw [hx] at q1'
  obtain ⟨_, _, -, -, -, -, k1', -, -, -, f1', -⟩ := HR1.out.cells
  have hrl1 : rb < w1.heap.size := by omega
  unfold maxLen at hm
  have k0 := fun ob => (cell_alloc w1 ob hrl1).trans k0'
  have k1 := fun ob => (cell_alloc w1 ob hrl1).trans k1'
  have q1 := fun ob => (cell_alloc w1 ob (show b < w1.heap.size by omega)).trans q1'
  have f1 := fun ob => (frozen_alloc w1 ob hrl1).trans f1'
  have n1 : rb ≠ w1.heap.size := by omega
  have n2 : b ≠ w1.heap.size := by omega
  have n3 : b ≠ rb := by omega
  have n4 : w.heap.size ≠ w1.heap.size := by omega
  have n5 : rb ≠ w.heap.size := by omega
  have HX := Lib.hid hx
  clear hB hr hx k0' k1' q1' f1'
  go_wp2_with (fail)
  go_quiet (fail)
  go_wp2_with (fail)
  go_at_call 46
  refine (q_scope rb L hL en ⟨s.at_ + 1, s.e, s.off⟩ _ (by repeat (first | with_reducible exact HR1.out | with_reducible refine RSt.setAt1 (s := s) ?_ | with_reducible refine RSt.drewN ?_ _ | with_reducible refine RSt.new ?_ _ | with_reducible refine RSt.setNew ?_ (by omega) _))).mono ?_
  rintro e w2 ⟨rfl, P, k⟩
  have hz2 := k.size
  try simp at hz2
  have kk : KB w.heap.size rb w w2 := by refine KB.trans ?_ (k.mono (by (try simp) <;> omega)); (repeat (first | with_reducible exact HK1.out | with_reducible refine KB.drewN ?_ _ | with_reducible refine KB.setP ?_ _ | with_reducible refine KB.setNew ?_ (by omega) _ | with_reducible refine KB.alloc ?_ _ (by (try simp) <;> omega)))
  have hr : w2.heap[w.heap.size]? = some (.cells #[.int .u8 0, .slice none 0 0, .int .u8 0, .int .i64 0, .int .i64 0, .int .i64 0, .slice none 0 0, .int .i64 0] 43 (0, 0)) := ObjRow.keep k (by repeat (first | with_reducible exact Hhr.out | with_reducible refine row_drewN ?_ _ | with_reducible apply row8_0 | with_reducible apply row8_1 | with_reducible apply row8_2 | with_reducible apply row8_3 | with_reducible apply row8_4 | with_reducible apply row8_5 | with_reducible apply row8_6 | with_reducible apply row8_7 | with_reducible exact row_new _ _ _ (by simp) | with_reducible refine row_alloc ?_ _ | with_reducible refine row_other ?_ (by omega) _)) (by (try simp) <;> omega) (by omega)
  have Hhr := Lib.hid hr
  have hc2 : w2.heap[w1.heap.size]? = some (.cells #[.int .u8 2, .slice none 0 0, .int .u8 0, .int .i64 0, .int .i64 0, .int .i64 0, .slice none 0 0, .int .i64 o] 43 (0, 0)) := ObjRow.keep k (by repeat (first | with_reducible exact HNONE.out | with_reducible refine row_drewN ?_ _ | with_reducible apply row8_0 | with_reducible apply row8_1 | with_reducible apply row8_2 | with_reducible apply row8_3 | with_reducible apply row8_4 | with_reducible apply row8_5 | with_reducible apply row8_6 | with_reducible apply row8_7 | with_reducible exact row_new _ _ _ (by simp) | with_reducible refine row_alloc ?_ _ | with_reducible refine row_other ?_ (by omega) _)) (by (try simp) <;> omega) (by omega)
  have Hhc2 := Lib.hid hc2
  obtain ⟨c0, c1, c2, c3, c4, c5, c6, c7⟩ := eight_cells hc2
  obtain ⟨e0, e1, e2, e3, e4, e5, e6, e7⟩ := eight_frozen hc2
  obtain ⟨z0, z1, z2, z3, z4, z5, z6, z7⟩ := eight_cells hr
  obtain ⟨g0, g1, g2, g3, g4, g5, g6, g7⟩ := eight_frozen hr
  have HK2 := Lib.hid kk
  have HR2 := Lib.hid P
  clear k P kk hr hc2
  go_wp2_with (fail)
  go_at_call 47
  refine (q_number rb L hL en (qScope L en ⟨s.at_ + 1, s.e, s.off⟩).2 _ (by repeat (first | with_reducible exact HR2.out | with_reducible refine RSt.setAt1 (s := s) ?_ | with_reducible refine RSt.drewN ?_ _ | with_reducible refine RSt.new ?_ _ | with_reducible refine RSt.setNew ?_ (by omega) _))).mono ?_
  rintro e w3 ⟨rfl, P, k⟩
  have hz3 := k.size
  try simp at hz3
  have kk : KB w.heap.size rb w w3 := by refine KB.trans ?_ (k.mono (by (try simp) <;> omega)); (repeat (first | with_reducible exact HK2.out | with_reducible refine KB.drewN ?_ _ | with_reducible refine KB.setP ?_ _ | with_reducible refine KB.setNew ?_ (by omega) _ | with_reducible refine KB.alloc ?_ _ (by (try simp) <;> omega)))
  have hr : w3.heap[w.heap.size]? = some (.cells #[.int .u8 0, .slice none 0 0, .int .u8 0, .int .i64 0, .int .i64 0, .int .i64 0, .slice none 0 0, .int .i64 0] 43 (0, 0)) := ObjRow.keep k (by repeat (first | with_reducible exact Hhr.out | with_reducible refine row_drewN ?_ _ | with_reducible apply row8_0 | with_reducible apply row8_1 | with_reducible apply row8_2 | with_reducible apply row8_3 | with_reducible apply row8_4 | with_reducible apply row8_5 | with_reducible apply row8_6 | with_reducible apply row8_7 | with_reducible exact row_new _ _ _ (by simp) | with_reducible refine row_alloc ?_ _ | with_reducible refine row_other ?_ (by omega) _)) (by (try simp) <;> omega) (by omega)
  have Hhr := Lib.hid hr
  have hc2 : w3.heap[w1.heap.size]? = some (.cells #[.int .u8 2, .slice none 0 0, .int .u8 (qScope L en ⟨s.at_ + 1, s.e, s.off⟩).1, .int .i64 0, .int .i64 0, .int .i64 0, .slice none 0 0, .int .i64 o] 43 (0, 0)) := ObjRow.keep k (by repeat (first | with_reducible exact Hhc2.out | with_reducible refine row_drewN ?_ _ | with_reducible apply row8_0 | with_reducible apply row8_1 | with_reducible apply row8_2 | with_reducible apply row8_3 | with_reducible apply row8_4 | with_reducible apply row8_5 | with_reducible apply row8_6 | with_reducible apply row8_7 | with_reducible exact row_new _ _ _ (by simp) | with_reducible refine row_alloc ?_ _ | with_reducible refine row_other ?_ (by omega) _)) (by (try simp) <;> omega) (by omega)
  have Hhc2 := Lib.hid hc2
  obtain ⟨c0, c1, c2, c3, c4, c5, c6, c7⟩ := eight_cells hc2
  obtain ⟨e0, e1, e2, e3, e4, e5, e6, e7⟩ := eight_frozen hc2
  obtain ⟨z0, z1, z2, z3, z4, z5, z6, z7⟩ := eight_cells hr
  obtain ⟨g0, g1, g2, g3, g4, g5, g6, g7⟩ := eight_frozen hr
  have HK3 := Lib.hid kk
  have HR3 := Lib.hid P
  clear k P kk hr hc2
  go_wp2_with (fail)
  go_at_call 48
  refine (q_take rb ⟨#[102, 114, 111, 109]⟩ L hL en (qNum L en (qScope L en ⟨s.at_ + 1, s.e, s.off⟩).2).2 _ (by repeat (first | with_reducible exact HR3.out | with_reducible refine RSt.setAt1 (s := s) ?_ | with_reducible refine RSt.drewN ?_ _ | with_reducible refine RSt.new ?_ _ | with_reducible refine RSt.setNew ?_ (by omega) _))).mono ?_
  rintro e w4 ⟨rfl, P, k⟩
  have hz4 := k.size
  try simp at hz4
  have kk : KB w.heap.size rb w w4 := by refine KB.trans ?_ (k.mono (by (try simp) <;> omega)); (repeat (first | with_reducible exact HK3.out | with_reducible refine KB.drewN ?_ _ | with_reducible refine KB.setP ?_ _ | with_reducible refine KB.setNew ?_ (by omega) _ | with_reducible refine KB.alloc ?_ _ (by (try simp) <;> omega)))
  have hr : w4.heap[w.heap.size]? = some (.cells #[.int .u8 0, .slice none 0 0, .int .u8 0, .int .i64 0, .int .i64 0, .int .i64 0, .slice none 0 0, .int .i64 0] 43 (0, 0)) := ObjRow.keep k (by repeat (first | with_reducible exact Hhr.out | with_reducible refine row_drewN ?_ _ | with_reducible apply row8_0 | with_reducible apply row8_1 | with_reducible apply row8_2 | with_reducible apply row8_3 | with_reducible apply row8_4 | with_reducible apply row8_5 | with_reducible apply row8_6 | with_reducible apply row8_7 | with_reducible exact row_new _ _ _ (by simp) | with_reducible refine row_alloc ?_ _ | with_reducible refine row_other ?_ (by omega) _)) (by (try simp) <;> omega) (by omega)
  have Hhr := Lib.hid hr
  have hc2 : w4.heap[w1.heap.size]? = some (.cells #[.int .u8 2, .slice none 0 0, .int .u8 (qScope L en ⟨s.at_ + 1, s.e, s.off⟩).1, .int .i64 (qNum L en (qScope L en ⟨s.at_ + 1, s.e, s.off⟩).2).1, .int .i64 0, .int .i64 0, .slice none 0 0, .int .i64 o] 43 (0, 0)) := ObjRow.keep k (by repeat (first | with_reducible exact Hhc2.out | with_reducible refine row_drewN ?_ _ | with_reducible apply row8_0 | with_reducible apply row8_1 | with_reducible apply row8_2 | with_reducible apply row8_3 | with_reducible apply row8_4 | with_reducible apply row8_5 | with_reducible apply row8_6 | with_reducible apply row8_7 | with_reducible exact row_new _ _ _ (by simp) | with_reducible refine row_alloc ?_ _ | with_reducible refine row_other ?_ (by omega) _)) (by (try simp) <;> omega) (by omega)
  have Hhc2 := Lib.hid hc2
  obtain ⟨c0, c1, c2, c3, c4, c5, c6, c7⟩ := eight_cells hc2
  obtain ⟨e0, e1, e2, e3, e4, e5, e6, e7⟩ := eight_frozen hc2
  obtain ⟨z0, z1, z2, z3, z4, z5, z6, z7⟩ := eight_cells hr
  obtain ⟨g0, g1, g2, g3, g4, g5, g6, g7⟩ := eight_frozen hr
  have HK4 := Lib.hid kk
  have HR4 := Lib.hid P
  clear k P kk hr hc2
  go_wp2_with (fail)
  go_at_call 47
  refine (q_number rb L hL en (qTake L en ⟨#[102, 114, 111, 109]⟩ (qNum L en (qScope L en ⟨s.at_ + 1, s.e, s.off⟩).2).2) _ (by repeat (first | with_reducible exact HR4.out | with_reducible refine RSt.setAt1 (s := s) ?_ | with_reducible refine RSt.drewN ?_ _ | with_reducible refine RSt.new ?_ _ | with_reducible refine RSt.setNew ?_ (by omega) _))).mono ?_
  rintro e w5 ⟨rfl, P, k⟩
  have hz5 := k.size
  try simp at hz5
  have kk : KB w.heap.size rb w w5 := by refine KB.trans ?_ (k.mono (by (try simp) <;> omega)); (repeat (first | with_reducible exact HK4.out | with_reducible refine KB.drewN ?_ _ | with_reducible refine KB.setP ?_ _ | with_reducible refine KB.setNew ?_ (by omega) _ | with_reducible refine KB.alloc ?_ _ (by (try simp) <;> omega)))
  have hr : w5.heap[w.heap.size]? = some (.cells #[.int .u8 0, .slice none 0 0, .int .u8 0, .int .i64 0, .int .i64 0, .int .i64 0, .slice none 0 0, .int .i64 0] 43 (0, 0)) := ObjRow.keep k (by repeat (first | with_reducible exact Hhr.out | with_reducible refine row_drewN ?_ _ | with_reducible apply row8_0 | with_reducible apply row8_1 | with_reducible apply row8_2 | with_reducible apply row8_3 | with_reducible apply row8_4 | with_reducible apply row8_5 | with_reducible apply row8_6 | with_reducible apply row8_7 | with_reducible exact row_new _ _ _ (by simp) | with_reducible refine row_alloc ?_ _ | with_reducible refine row_other ?_ (by omega) _)) (by (try simp) <;> omega) (by omega)
  have Hhr := Lib.hid hr
  have hc2 : w5.heap[w1.heap.size]? = some (.cells #[.int .u8 2, .slice none 0 0, .int .u8 (qScope L en ⟨s.at_ + 1, s.e, s.off⟩).1, .int .i64 (qNum L en (qScope L en ⟨s.at_ + 1, s.e, s.off⟩).2).1, .int .i64 0, .int .i64 0, .slice none 0 0, .int .i64 o] 43 (0, 0)) := ObjRow.keep k (by repeat (first | with_reducible exact Hhc2.out | with_reducible refine row_drewN ?_ _ | with_reducible apply row8_0 | with_reducible apply row8_1 | with_reducible apply row8_2 | with_reducible apply row8_3 | with_reducible apply row8_4 | with_reducible apply row8_5 | with_reducible apply row8_6 | with_reducible apply row8_7 | with_reducible exact row_new _ _ _ (by simp) | with_reducible refine row_alloc ?_ _ | with_reducible refine row_other ?_ (by omega) _)) (by (try simp) <;> omega) (by omega)
  have Hhc2 := Lib.hid hc2
  obtain ⟨c0, c1, c2, c3, c4, c5, c6, c7⟩ := eight_cells hc2
  obtain ⟨e0, e1, e2, e3, e4, e5, e6, e7⟩ := eight_frozen hc2
  obtain ⟨z0, z1, z2, z3, z4, z5, z6, z7⟩ := eight_cells hr
  obtain ⟨g0, g1, g2, g3, g4, g5, g6, g7⟩ := eight_frozen hr
  have HK5 := Lib.hid kk
  have HR5 := Lib.hid P
  clear k P kk hr hc2
  go_wp2_with (fail)
  go_at_call 48
  refine (q_take rb ⟨#[116, 111]⟩ L hL en (qNum L en (qTake L en ⟨#[102, 114, 111, 109]⟩ (qNum L en (qScope L en ⟨s.at_ + 1, s.e, s.off⟩).2).2)).2 _ (by repeat (first | with_reducible exact HR5.out | with_reducible refine RSt.setAt1 (s := s) ?_ | with_reducible refine RSt.drewN ?_ _ | with_reducible refine RSt.new ?_ _ | with_reducible refine RSt.setNew ?_ (by omega) _))).mono ?_
  rintro e w6 ⟨rfl, P, k⟩
  have hz6 := k.size
  try simp at hz6
  have kk : KB w.heap.size rb w w6 := by refine KB.trans ?_ (k.mono (by (try simp) <;> omega)); (repeat (first | with_reducible exact HK5.out | with_reducible refine KB.drewN ?_ _ | with_reducible refine KB.setP ?_ _ | with_reducible refine KB.setNew ?_ (by omega) _ | with_reducible refine KB.alloc ?_ _ (by (try simp) <;> omega)))
  have hr : w6.heap[w.heap.size]? = some (.cells #[.int .u8 0, .slice none 0 0, .int .u8 0, .int .i64 0, .int .i64 0, .int .i64 0, .slice none 0 0, .int .i64 0] 43 (0, 0)) := ObjRow.keep k (by repeat (first | with_reducible exact Hhr.out | with_reducible refine row_drewN ?_ _ | with_reducible apply row8_0 | with_reducible apply row8_1 | with_reducible apply row8_2 | with_reducible apply row8_3 | with_reducible apply row8_4 | with_reducible apply row8_5 | with_reducible apply row8_6 | with_reducible apply row8_7 | with_reducible exact row_new _ _ _ (by simp) | with_reducible refine row_alloc ?_ _ | with_reducible refine row_other ?_ (by omega) _)) (by (try simp) <;> omega) (by omega)
  have Hhr := Lib.hid hr
  have hc2 : w6.heap[w1.heap.size]? = some (.cells #[.int .u8 2, .slice none 0 0, .int .u8 (qScope L en ⟨s.at_ + 1, s.e, s.off⟩).1, .int .i64 (qNum L en (qScope L en ⟨s.at_ + 1, s.e, s.off⟩).2).1, .int .i64 (qNum L en (qTake L en ⟨#[102, 114, 111, 109]⟩ (qNum L en (qScope L en ⟨s.at_ + 1, s.e, s.off⟩).2).2)).1, .int .i64 0, .slice none 0 0, .int .i64 o] 43 (0, 0)) := ObjRow.keep k (by repeat (first | with_reducible exact Hhc2.out | with_reducible refine row_drewN ?_ _ | with_reducible apply row8_0 | with_reducible apply row8_1 | with_reducible apply row8_2 | with_reducible apply row8_3 | with_reducible apply row8_4 | with_reducible apply row8_5 | with_reducible apply row8_6 | with_reducible apply row8_7 | with_reducible exact row_new _ _ _ (by simp) | with_reducible refine row_alloc ?_ _ | with_reducible refine row_other ?_ (by omega) _)) (by (try simp) <;> omega) (by omega)
  have Hhc2 := Lib.hid hc2
  obtain ⟨c0, c1, c2, c3, c4, c5, c6, c7⟩ := eight_cells hc2
  obtain ⟨e0, e1, e2, e3, e4, e5, e6, e7⟩ := eight_frozen hc2
  obtain ⟨z0, z1, z2, z3, z4, z5, z6, z7⟩ := eight_cells hr
  obtain ⟨g0, g1, g2, g3, g4, g5, g6, g7⟩ := eight_frozen hr
  have HK6 := Lib.hid kk
  have HR6 := Lib.hid P
  clear k P kk hr hc2
  go_wp2_with (fail)
  go_at_call 47
  refine (q_number rb L hL en (qTake L en ⟨#[116, 111]⟩ (qNum L en (qTake L en ⟨#[102, 114, 111, 109]⟩ (qNum L en (qScope L en ⟨s.at_ + 1, s.e, s.off⟩).2).2)).2) _ (by repeat (first | with_reducible exact HR6.out | with_reducible refine RSt.setAt1 (s := s) ?_ | with_reducible refine RSt.drewN ?_ _ | with_reducible refine RSt.new ?_ _ | with_reducible refine RSt.setNew ?_ (by omega) _))).mono ?_
  rintro e w7 ⟨rfl, P, k⟩
  have hz7 := k.size
  try simp at hz7
  have kk : KB w.heap.size rb w w7 := by refine KB.trans ?_ (k.mono (by (try simp) <;> omega)); (repeat (first | with_reducible exact HK6.out | with_reducible refine KB.drewN ?_ _ | with_reducible refine KB.setP ?_ _ | with_reducible refine KB.setNew ?_ (by omega) _ | with_reducible refine KB.alloc ?_ _ (by (try simp) <;> omega)))
  have hr : w7.heap[w.heap.size]? = some (.cells #[.int .u8 0, .slice none 0 0, .int .u8 0, .int .i64 0, .int .i64 0, .int .i64 0, .slice none 0 0, .int .i64 0] 43 (0, 0)) := ObjRow.keep k (by repeat (first | with_reducible exact Hhr.out | with_reducible refine row_drewN ?_ _ | with_reducible apply row8_0 | with_reducible apply row8_1 | with_reducible apply row8_2 | with_reducible apply row8_3 | with_reducible apply row8_4 | with_reducible apply row8_5 | with_reducible apply row8_6 | with_reducible apply row8_7 | with_reducible exact row_new _ _ _ (by simp) | with_reducible refine row_alloc ?_ _ | with_reducible refine row_other ?_ (by omega) _)) (by (try simp) <;> omega) (by omega)
  have Hhr := Lib.hid hr
  have hc2 : w7.heap[w1.heap.size]? = some (.cells #[.int .u8 2, .slice none 0 0, .int .u8 (qScope L en ⟨s.at_ + 1, s.e, s.off⟩).1, .int .i64 (qNum L en (qScope L en ⟨s.at_ + 1, s.e, s.off⟩).2).1, .int .i64 (qNum L en (qTake L en ⟨#[102, 114, 111, 109]⟩ (qNum L en (qScope L en ⟨s.at_ + 1, s.e, s.off⟩).2).2)).1, .int .i64 0, .slice none 0 0, .int .i64 o] 43 (0, 0)) := ObjRow.keep k (by repeat (first | with_reducible exact Hhc2.out | with_reducible refine row_drewN ?_ _ | with_reducible apply row8_0 | with_reducible apply row8_1 | with_reducible apply row8_2 | with_reducible apply row8_3 | with_reducible apply row8_4 | with_reducible apply row8_5 | with_reducible apply row8_6 | with_reducible apply row8_7 | with_reducible exact row_new _ _ _ (by simp) | with_reducible refine row_alloc ?_ _ | with_reducible refine row_other ?_ (by omega) _)) (by (try simp) <;> omega) (by omega)
  have Hhc2 := Lib.hid hc2
  obtain ⟨c0, c1, c2, c3, c4, c5, c6, c7⟩ := eight_cells hc2
  obtain ⟨e0, e1, e2, e3, e4, e5, e6, e7⟩ := eight_frozen hc2
  obtain ⟨z0, z1, z2, z3, z4, z5, z6, z7⟩ := eight_cells hr
  obtain ⟨g0, g1, g2, g3, g4, g5, g6, g7⟩ := eight_frozen hr
  have HK7 := Lib.hid kk
  have HR7 := Lib.hid P
  clear k P kk hr hc2
  go_wp2_with (fail)
  go_at_call 48
  refine (q_take rb ⟨#[59]⟩ L hL en (qNum L en (qTake L en ⟨#[116, 111]⟩ (qNum L en (qTake L en ⟨#[102, 114, 111, 109]⟩ (qNum L en (qScope L en ⟨s.at_ + 1, s.e, s.off⟩).2).2)).2)).2 _ (by repeat (first | with_reducible exact HR7.out | with_reducible refine RSt.setAt1 (s := s) ?_ | with_reducible refine RSt.drewN ?_ _ | with_reducible refine RSt.new ?_ _ | with_reducible refine RSt.setNew ?_ (by omega) _))).mono ?_
  rintro e w8 ⟨rfl, P, k⟩
  have hz8 := k.size
  try simp at hz8
  have kk : KB w.heap.size rb w w8 := by refine KB.trans ?_ (k.mono (by (try simp) <;> omega)); (repeat (first | with_reducible exact HK7.out | with_reducible refine KB.drewN ?_ _ | with_reducible refine KB.setP ?_ _ | with_reducible refine KB.setNew ?_ (by omega) _ | with_reducible refine KB.alloc ?_ _ (by (try simp) <;> omega)))
  have hr : w8.heap[w.heap.size]? = some (.cells #[.int .u8 0, .slice none 0 0, .int .u8 0, .int .i64 0, .int .i64 0, .int .i64 0, .slice none 0 0, .int .i64 0] 43 (0, 0)) := ObjRow.keep k (by repeat (first | with_reducible exact Hhr.out | with_reducible refine row_drewN ?_ _ | with_reducible apply row8_0 | with_reducible apply row8_1 | with_reducible apply row8_2 | with_reducible apply row8_3 | with_reducible apply row8_4 | with_reducible apply row8_5 | with_reducible apply row8_6 | with_reducible apply row8_7 | with_reducible exact row_new _ _ _ (by simp) | with_reducible refine row_alloc ?_ _ | with_reducible refine row_other ?_ (by omega) _)) (by (try simp) <;> omega) (by omega)
  have Hhr := Lib.hid hr
  have hc2 : w8.heap[w1.heap.size]? = some (.cells #[.int .u8 2, .slice none 0 0, .int .u8 (qScope L en ⟨s.at_ + 1, s.e, s.off⟩).1, .int .i64 (qNum L en (qScope L en ⟨s.at_ + 1, s.e, s.off⟩).2).1, .int .i64 (qNum L en (qTake L en ⟨#[102, 114, 111, 109]⟩ (qNum L en (qScope L en ⟨s.at_ + 1, s.e, s.off⟩).2).2)).1, .int .i64 (qNum L en (qTake L en ⟨#[116, 111]⟩ (qNum L en (qTake L en ⟨#[102, 114, 111, 109]⟩ (qNum L en (qScope L en ⟨s.at_ + 1, s.e, s.off⟩).2).2)).2)).1, .slice none 0 0, .int .i64 o] 43 (0, 0)) := ObjRow.keep k (by repeat (first | with_reducible exact Hhc2.out | with_reducible refine row_drewN ?_ _ | with_reducible apply row8_0 | with_reducible apply row8_1 | with_reducible apply row8_2 | with_reducible apply row8_3 | with_reducible apply row8_4 | with_reducible apply row8_5 | with_reducible apply row8_6 | with_reducible apply row8_7 | with_reducible exact row_new _ _ _ (by simp) | with_reducible refine row_alloc ?_ _ | with_reducible refine row_other ?_ (by omega) _)) (by (try simp) <;> omega) (by omega)
  have Hhc2 := Lib.hid hc2
  obtain ⟨c0, c1, c2, c3, c4, c5, c6, c7⟩ := eight_cells hc2
  obtain ⟨e0, e1, e2, e3, e4, e5, e6, e7⟩ := eight_frozen hc2
  obtain ⟨z0, z1, z2, z3, z4, z5, z6, z7⟩ := eight_cells hr
  obtain ⟨g0, g1, g2, g3, g4, g5, g6, g7⟩ := eight_frozen hr
  have HK8 := Lib.hid kk
  have HR8 := Lib.hid P
  clear k P kk hr hc2
  go_wp2_with (fail)
  refine ret8 (i := 2) (b := w.heap.size) rfl rfl rfl (row_store8 (by repeat (first | with_reducible exact Hhr.out | with_reducible refine row_drewN ?_ _ | with_reducible apply row8_0 | with_reducible apply row8_1 | with_reducible apply row8_2 | with_reducible apply row8_3 | with_reducible apply row8_4 | with_reducible apply row8_5 | with_reducible apply row8_6 | with_reducible apply row8_7 | with_reducible exact row_new _ _ _ (by simp) | with_reducible refine row_alloc ?_ _ | with_reducible refine row_other ?_ (by omega) _)) (.int .u8 2) (.slice none 0 0) (.int .u8 (qScope L en ⟨s.at_ + 1, s.e, s.off⟩).1) (.int .i64 (qNum L en (qScope L en ⟨s.at_ + 1, s.e, s.off⟩).2).1) (.int .i64 (qNum L en (qTake L en ⟨#[102, 114, 111, 109]⟩ (qNum L en (qScope L en ⟨s.at_ + 1, s.e, s.off⟩).2).2)).1) (.int .i64 (qNum L en (qTake L en ⟨#[116, 111]⟩ (qNum L en (qTake L en ⟨#[102, 114, 111, 109]⟩ (qNum L en (qScope L en ⟨s.at_ + 1, s.e, s.off⟩).2).2)).2)).1) (.slice none 0 0) (.int .i64 o)) ⟨_, rfl, ⟨_, _, rfl, ?_, ClSl.nil _ _⟩, ?_, ?_⟩
  · exact StrSl.nil _ _
  · exact (by repeat (first | with_reducible exact HR8.out | with_reducible refine RSt.setAt1 (s := s) ?_ | with_reducible refine RSt.drewN ?_ _ | with_reducible refine RSt.new ?_ _ | with_reducible refine RSt.setNew ?_ (by omega) _))
  · (repeat (first | with_reducible exact HK8.out | with_reducible refine KB.drewN ?_ _ | with_reducible refine KB.setP ?_ _ | with_reducible refine KB.setNew ?_ (by omega) _ | with_reducible refine KB.alloc ?_ _ (by (try simp) <;> omega)))

set_option maxHeartbeats 40000000 in
theorem q_clause_approve (rb : Nat) (L : List Tok) (hL : L.length ≤ 5000) (en : Int) (s : QS) (w : World) (h : RSt w rb L en s) (hlt : s.at_ < L.length) (hx : L[s.at_].text = ⟨#[97, 112, 112, 114, 111, 118, 101]⟩) :
    Calls Tryz.prog 24 #[.pointer (some ⟨rb, 0, none⟩)] w (CMoved (qApprove L en (offOf en (L.drop s.at_)) ⟨s.at_ + 1, s.e, s.off⟩) rb L en w) := by
  have hfm : Tryz.prog.follows Departure.mixedOrders = true := by kernel_rfl
  have hrl := h.lt
  have H := Lib.hid h
  have i0 : (0 : Int) ≤ (s.at_ : Int) := Int.natCast_nonneg _
  have i1 : (s.at_ : Int) < (L.length : Int) := by omega
  have d1 : decide (s.at_ < L.length) = true := decide_eq_true hlt
  obtain ⟨o, ho⟩ : ∃ o, o = offOf en (L.drop s.at_) := ⟨_, rfl⟩
  rw [← ho]
  clear h
  unfold qApprove
  go_enter Tryz.func24, Tryz.ntmps24
  go_wp2_with (fail)
  go_at_call 44
  refine (q_offset rb L en s _ (by exact H.out.new _)).mono ?_
  rw [← ho]
  clear ho
  rintro e w1 ⟨n, rfl, hw⟩
  have hB : Below w.heap.size w w1 := by rw [hw]; exact below_dN _ ((Below.refl _ _).alloc (Nat.le_refl _) _)
  have hr : w1.heap[w.heap.size]? = some (.cells #[.int .u8 0, .slice none 0 0, .int .u8 0, .int .i64 0, .int .i64 0, .int .i64 0, .slice none 0 0, .int .i64 0] 43 (0, 0)) := by rw [hw]; exact row_new _ _ _ rfl
  have hz1 : w.heap.size < w1.heap.size := by rw [hw]; simp
  clear hw
  have HR1 := Lib.hid (H.out.below hB)
  have HK1 := Lib.hid (KB.of_below (pb := rb) hB)
  obtain ⟨z0, z1, z2, z3, z4, z5, z6, z7⟩ := eight_cells hr
  obtain ⟨g0, g1, g2, g3, g4, g5, g6, g7⟩ := eight_frozen hr
  have Hhr := Lib.hid hr
  obtain ⟨b, bo, bc, hc, hm, hbb, k0', -, q1', -⟩ := HR1.out.tok hlt
  rw [hx] at q1'
  obtain ⟨_, _, -, -, -, -, k1', -, -, -, f1', -⟩ := HR1.out.cells
  have hrl1 : rb < w1.heap.size := by omega
  unfold maxLen at hm
  have k0 := fun ob => (cell_alloc w1 ob hrl1).trans k0'
  have k1 := fun ob => (cell_alloc w1 ob hrl1).trans k1'
  have q1 := fun ob => (cell_alloc w1 ob (show b < w1.heap.size by omega)).trans q1'
  have f1 := fun ob => (frozen_alloc w1 ob hrl1).trans f1'
  have n1 : rb ≠ w1.heap.size := by omega
  have n2 : b ≠ w1.heap.size := by omega
  have n3 : b ≠ rb := by omega
  have n4 : w.heap.size ≠ w1.heap.size := by omega
  have n5 : rb ≠ w.heap.size := by omega
  have HX := Lib.hid hx
  clear hB hr hx k0' k1' q1' f1'
  go_wp2_with (fail)
  go_quiet (fail)
  go_wp2_with (fail)
  go_at_call 46
  refine (q_scope rb L hL en ⟨s.at_ + 1, s.e, s.off⟩ _ (by repeat (first | with_reducible exact HR1.out | with_reducible refine RSt.setAt1 (s := s) ?_ | with_reducible refine RSt.drewN ?_ _ | with_reducible refine RSt.new ?_ _ | with_reducible refine RSt.setNew ?_ (by omega) _))).mono ?_
  rintro e w2 ⟨rfl, P, k⟩
  have hz2 := k.size
  try simp at hz2
  have kk : KB w.heap.size rb w w2 := by refine KB.trans ?_ (k.mono (by (try simp) <;> omega)); (repeat (first | with_reducible exact HK1.out | with_reducible refine KB.drewN ?_ _ | with_reducible refine KB.setP ?_ _ | with_reducible refine KB.setNew ?_ (by omega) _ | with_reducible refine KB.alloc ?_ _ (by (try simp) <;> omega)))
  have hr : w2.heap[w.heap.size]? = some (.cells #[.int .u8 0, .slice none 0 0, .int .u8 0, .int .i64 0, .int .i64 0, .int .i64 0, .slice none 0 0, .int .i64 0] 43 (0, 0)) := ObjRow.keep k (by repeat (first | with_reducible exact Hhr.out | with_reducible refine row_drewN ?_ _ | with_reducible apply row8_0 | with_reducible apply row8_1 | with_reducible apply row8_2 | with_reducible apply row8_3 | with_reducible apply row8_4 | with_reducible apply row8_5 | with_reducible apply row8_6 | with_reducible apply row8_7 | with_reducible exact row_new _ _ _ (by simp) | with_reducible refine row_alloc ?_ _ | with_reducible refine row_other ?_ (by omega) _)) (by (try simp) <;> omega) (by omega)
  have Hhr := Lib.hid hr
  have hc2 : w2.heap[w1.heap.size]? = some (.cells #[.int .u8 3, .slice none 0 0, .int .u8 0, .int .i64 0, .int .i64 0, .int .i64 0, .slice none 0 0, .int .i64 o] 43 (0, 0)) := ObjRow.keep k (by repeat (first | with_reducible exact HNONE.out | with_reducible refine row_drewN ?_ _ | with_reducible apply row8_0 | with_reducible apply row8_1 | with_reducible apply row8_2 | with_reducible apply row8_3 | with_reducible apply row8_4 | with_reducible apply row8_5 | with_reducible apply row8_6 | with_reducible apply row8_7 | with_reducible exact row_new _ _ _ (by simp) | with_reducible refine row_alloc ?_ _ | with_reducible refine row_other ?_ (by omega) _)) (by (try simp) <;> omega) (by omega)
  have Hhc2 := Lib.hid hc2
  obtain ⟨c0, c1, c2, c3, c4, c5, c6, c7⟩ := eight_cells hc2
  obtain ⟨e0, e1, e2, e3, e4, e5, e6, e7⟩ := eight_frozen hc2
  obtain ⟨z0, z1, z2, z3, z4, z5, z6, z7⟩ := eight_cells hr
  obtain ⟨g0, g1, g2, g3, g4, g5, g6, g7⟩ := eight_frozen hr
  have HK2 := Lib.hid kk
  have HR2 := Lib.hid P
  clear k P kk hr hc2
  go_wp2_with (fail)
  go_at_call 47
  refine (q_number rb L hL en (qScope L en ⟨s.at_ + 1, s.e, s.off⟩).2 _ (by repeat (first | with_reducible exact HR2.out | with_reducible refine RSt.setAt1 (s := s) ?_ | with_reducible refine RSt.drewN ?_ _ | with_reducible refine RSt.new ?_ _ | with_reducible refine RSt.setNew ?_ (by omega) _))).mono ?_
  rintro e w3 ⟨rfl, P, k⟩
  have hz3 := k.size
  try simp at hz3
  have kk : KB w.heap.size rb w w3 := by refine KB.trans ?_ (k.mono (by (try simp) <;> omega)); (repeat (first | with_reducible exact HK2.out | with_reducible refine KB.drewN ?_ _ | with_reducible refine KB.setP ?_ _ | with_reducible refine KB.setNew ?_ (by omega) _ | with_reducible refine KB.alloc ?_ _ (by (try simp) <;> omega)))
  have hr : w3.heap[w.heap.size]? = some (.cells #[.int .u8 0, .slice none 0 0, .int .u8 0, .int .i64 0, .int .i64 0, .int .i64 0, .slice none 0 0, .int .i64 0] 43 (0, 0)) := ObjRow.keep k (by repeat (first | with_reducible exact Hhr.out | with_reducible refine row_drewN ?_ _ | with_reducible apply row8_0 | with_reducible apply row8_1 | with_reducible apply row8_2 | with_reducible apply row8_3 | with_reducible apply row8_4 | with_reducible apply row8_5 | with_reducible apply row8_6 | with_reducible apply row8_7 | with_reducible exact row_new _ _ _ (by simp) | with_reducible refine row_alloc ?_ _ | with_reducible refine row_other ?_ (by omega) _)) (by (try simp) <;> omega) (by omega)
  have Hhr := Lib.hid hr
  have hc2 : w3.heap[w1.heap.size]? = some (.cells #[.int .u8 3, .slice none 0 0, .int .u8 (qScope L en ⟨s.at_ + 1, s.e, s.off⟩).1, .int .i64 0, .int .i64 0, .int .i64 0, .slice none 0 0, .int .i64 o] 43 (0, 0)) := ObjRow.keep k (by repeat (first | with_reducible exact Hhc2.out | with_reducible refine row_drewN ?_ _ | with_reducible apply row8_0 | with_reducible apply row8_1 | with_reducible apply row8_2 | with_reducible apply row8_3 | with_reducible apply row8_4 | with_reducible apply row8_5 | with_reducible apply row8_6 | with_reducible apply row8_7 | with_reducible exact row_new _ _ _ (by simp) | with_reducible refine row_alloc ?_ _ | with_reducible refine row_other ?_ (by omega) _)) (by (try simp) <;> omega) (by omega)
  have Hhc2 := Lib.hid hc2
  obtain ⟨c0, c1, c2, c3, c4, c5, c6, c7⟩ := eight_cells hc2
  obtain ⟨e0, e1, e2, e3, e4, e5, e6, e7⟩ := eight_frozen hc2
  obtain ⟨z0, z1, z2, z3, z4, z5, z6, z7⟩ := eight_cells hr
  obtain ⟨g0, g1, g2, g3, g4, g5, g6, g7⟩ := eight_frozen hr
  have HK3 := Lib.hid kk
  have HR3 := Lib.hid P
  clear k P kk hr hc2
  go_wp2_with (fail)
  go_at_call 48
  refine (q_take rb ⟨#[59]⟩ L hL en (qNum L en (qScope L en ⟨s.at_ + 1, s.e, s.off⟩).2).2 _ (by repeat (first | with_reducible exact HR3.out | with_reducible refine RSt.setAt1 (s := s) ?_ | with_reducible refine RSt.drewN ?_ _ | with_reducible refine RSt.new ?_ _ | with_reducible refine RSt.setNew ?_ (by omega) _))).mono ?_
  rintro e w4 ⟨rfl, P, k⟩
  have hz4 := k.size
  try simp at hz4
  have kk : KB w.heap.size rb w w4 := by refine KB.trans ?_ (k.mono (by (try simp) <;> omega)); (repeat (first | with_reducible exact HK3.out | with_reducible refine KB.drewN ?_ _ | with_reducible refine KB.setP ?_ _ | with_reducible refine KB.setNew ?_ (by omega) _ | with_reducible refine KB.alloc ?_ _ (by (try simp) <;> omega)))
  have hr : w4.heap[w.heap.size]? = some (.cells #[.int .u8 0, .slice none 0 0, .int .u8 0, .int .i64 0, .int .i64 0, .int .i64 0, .slice none 0 0, .int .i64 0] 43 (0, 0)) := ObjRow.keep k (by repeat (first | with_reducible exact Hhr.out | with_reducible refine row_drewN ?_ _ | with_reducible apply row8_0 | with_reducible apply row8_1 | with_reducible apply row8_2 | with_reducible apply row8_3 | with_reducible apply row8_4 | with_reducible apply row8_5 | with_reducible apply row8_6 | with_reducible apply row8_7 | with_reducible exact row_new _ _ _ (by simp) | with_reducible refine row_alloc ?_ _ | with_reducible refine row_other ?_ (by omega) _)) (by (try simp) <;> omega) (by omega)
  have Hhr := Lib.hid hr
  have hc2 : w4.heap[w1.heap.size]? = some (.cells #[.int .u8 3, .slice none 0 0, .int .u8 (qScope L en ⟨s.at_ + 1, s.e, s.off⟩).1, .int .i64 (qNum L en (qScope L en ⟨s.at_ + 1, s.e, s.off⟩).2).1, .int .i64 0, .int .i64 0, .slice none 0 0, .int .i64 o] 43 (0, 0)) := ObjRow.keep k (by repeat (first | with_reducible exact Hhc2.out | with_reducible refine row_drewN ?_ _ | with_reducible apply row8_0 | with_reducible apply row8_1 | with_reducible apply row8_2 | with_reducible apply row8_3 | with_reducible apply row8_4 | with_reducible apply row8_5 | with_reducible apply row8_6 | with_reducible apply row8_7 | with_reducible exact row_new _ _ _ (by simp) | with_reducible refine row_alloc ?_ _ | with_reducible refine row_other ?_ (by omega) _)) (by (try simp) <;> omega) (by omega)
  have Hhc2 := Lib.hid hc2
  obtain ⟨c0, c1, c2, c3, c4, c5, c6, c7⟩ := eight_cells hc2
  obtain ⟨e0, e1, e2, e3, e4, e5, e6, e7⟩ := eight_frozen hc2
  obtain ⟨z0, z1, z2, z3, z4, z5, z6, z7⟩ := eight_cells hr
  obtain ⟨g0, g1, g2, g3, g4, g5, g6, g7⟩ := eight_frozen hr
  have HK4 := Lib.hid kk
  have HR4 := Lib.hid P
  clear k P kk hr hc2
  go_wp2_with (fail)
  refine ret8 (i := 2) (b := w.heap.size) rfl rfl rfl (row_store8 (by repeat (first | with_reducible exact Hhr.out | with_reducible refine row_drewN ?_ _ | with_reducible apply row8_0 | with_reducible apply row8_1 | with_reducible apply row8_2 | with_reducible apply row8_3 | with_reducible apply row8_4 | with_reducible apply row8_5 | with_reducible apply row8_6 | with_reducible apply row8_7 | with_reducible exact row_new _ _ _ (by simp) | with_reducible refine row_alloc ?_ _ | with_reducible refine row_other ?_ (by omega) _)) (.int .u8 3) (.slice none 0 0) (.int .u8 (qScope L en ⟨s.at_ + 1, s.e, s.off⟩).1) (.int .i64 (qNum L en (qScope L en ⟨s.at_ + 1, s.e, s.off⟩).2).1) (.int .i64 0) (.int .i64 0) (.slice none 0 0) (.int .i64 o)) ⟨_, rfl, ⟨_, _, rfl, ?_, ClSl.nil _ _⟩, ?_, ?_⟩
  · exact StrSl.nil _ _
  · exact (by repeat (first | with_reducible exact HR4.out | with_reducible refine RSt.setAt1 (s := s) ?_ | with_reducible refine RSt.drewN ?_ _ | with_reducible refine RSt.new ?_ _ | with_reducible refine RSt.setNew ?_ (by omega) _))
  · (repeat (first | with_reducible exact HK4.out | with_reducible refine KB.drewN ?_ _ | with_reducible refine KB.setP ?_ _ | with_reducible refine KB.setNew ?_ (by omega) _ | with_reducible refine KB.alloc ?_ _ (by (try simp) <;> omega)))
end Go.Proofs.YtfpcdgmdangmaaaGreatDoor

/- DERIVED. The reference's parser: blast, cap. -/
namespace Go.Proofs.YtfpcdgmdangmaaaGreatDoor
open Go.RowKit
set_option maxRecDepth 100000

set_option maxHeartbeats 40000000 in
theorem q_clause_blast (rb : Nat) (L : List Tok) (hL : L.length ≤ 5000) (en : Int) (s : QS) (w : World) (h : RSt w rb L en s) (hlt : s.at_ < L.length) (hx : L[s.at_].text = ⟨#[98, 108, 97, 115, 116]⟩) :
    Calls Tryz.prog 24 #[.pointer (some ⟨rb, 0, none⟩)] w (CMoved (qCounted L en 4 (offOf en (L.drop s.at_)) ⟨s.at_ + 1, s.e, s.off⟩) rb L en w) := by
  have hfm : Tryz.prog.follows Departure.mixedOrders = true := by kernel_rfl
  have hrl := h.lt
  have H := Lib.hid h
  have i0 : (0 : Int) ≤ (s.at_ : Int) := Int.natCast_nonneg _
  have i1 : (s.at_ : Int) < (L.length : Int) := by omega
  have d1 : decide (s.at_ < L.length) = true := decide_eq_true hlt
  obtain ⟨o, ho⟩ : ∃ o, o = offOf en (L.drop s.at_) := ⟨_, rfl⟩
  rw [← ho]
  clear h
  unfold qCounted
  go_enter Tryz.func24, Tryz.ntmps24
  go_wp2_with (fail)
  go_at_call 44
  refine (q_offset rb L en s _ (by exact H.out.new _)).mono ?_
  rw [← ho]
  clear ho
  rintro e w1 ⟨n, rfl, hw⟩
  have hB : Below w.heap.size w w1 := by rw [hw]; exact below_dN _ ((Below.refl _ _).alloc (Nat.le_refl _) _)
  have hr : w1.heap[w.heap.size]? = some (.cells #[.int .u8 0, .slice none 0 0, .int .u8 0, .int .i64 0, .int .i64 0, .int .i64 0, .slice none 0 0, .int .i64 0] 43 (0, 0)) := by rw [hw]; exact row_new _ _ _ rfl
  have hz1 : w.heap.size < w1.heap.size := by rw [hw]; simp
  clear hw
  have HR1 := Lib.hid (H.out.below hB)
  have HK1 := Lib.hid (KB.of_below (pb := rb) hB)
  obtain ⟨z0, z1, z2, z3, z4, z5, z6, z7⟩ := eight_cells hr
  obtain ⟨g0, g1, g2, g3, g4, g5, g6, g7⟩ := eight_frozen hr
  have Hhr := Lib.hid hr
  obtain ⟨b, bo, bc, hc, hm, hbb, k0', -, q1', -⟩ := HR1.out.tok hlt
  rw [hx] at q1'
  obtain ⟨_, _, -, -, -, -, k1', -, -, -, f1', -⟩ := HR1.out.cells
  have hrl1 : rb < w1.heap.size := by omega
  unfold maxLen at hm
  have k0 := fun ob => (cell_alloc w1 ob hrl1).trans k0'
  have k1 := fun ob => (cell_alloc w1 ob hrl1).trans k1'
  have q1 := fun ob => (cell_alloc w1 ob (show b < w1.heap.size by omega)).trans q1'
  have f1 := fun ob => (frozen_alloc w1 ob hrl1).trans f1'
  have n1 : rb ≠ w1.heap.size := by omega
  have n2 : b ≠ w1.heap.size := by omega
  have n3 : b ≠ rb := by omega
  have n4 : w.heap.size ≠ w1.heap.size := by omega
  have n5 : rb ≠ w.heap.size := by omega
  have HX := Lib.hid hx
  clear hB hr hx k0' k1' q1' f1'
  go_wp2_with (fail)
  go_quiet (fail)
  go_wp2_with (fail)
  go_at_call 47
  refine (q_number rb L hL en ⟨s.at_ + 1, s.e, s.off⟩ _ (by repeat (first | with_reducible exact HR1.out | with_reducible refine RSt.setAt1 (s := s) ?_ | with_reducible refine RSt.drewN ?_ _ | with_reducible refine RSt.new ?_ _ | with_reducible refine RSt.setNew ?_ (by omega) _))).mono ?_
  rintro e w2 ⟨rfl, P, k⟩
  have hz2 := k.size
  try simp at hz2
  have kk : KB w.heap.size rb w w2 := by refine KB.trans ?_ (k.mono (by (try simp) <;> omega)); (repeat (first | with_reducible exact HK1.out | with_reducible refine KB.drewN ?_ _ | with_reducible refine KB.setP ?_ _ | with_reducible refine KB.setNew ?_ (by omega) _ | with_reducible refine KB.alloc ?_ _ (by (try simp) <;> omega)))
  have hr : w2.heap[w.heap.size]? = some (.cells #[.int .u8 0, .slice none 0 0, .int .u8 0, .int .i64 0, .int .i64 0, .int .i64 0, .slice none 0 0, .int .i64 0] 43 (0, 0)) := ObjRow.keep k (by repeat (first | with_reducible exact Hhr.out | with_reducible refine row_drewN ?_ _ | with_reducible apply row8_0 | with_reducible apply row8_1 | with_reducible apply row8_2 | with_reducible apply row8_3 | with_reducible apply row8_4 | with_reducible apply row8_5 | with_reducible apply row8_6 | with_reducible apply row8_7 | with_reducible exact row_new _ _ _ (by simp) | with_reducible refine row_alloc ?_ _ | with_reducible refine row_other ?_ (by omega) _)) (by (try simp) <;> omega) (by omega)
  have Hhr := Lib.hid hr
  have hc2 : w2.heap[w1.heap.size]? = some (.cells #[.int .u8 4, .slice none 0 0, .int .u8 0, .int .i64 0, .int .i64 0, .int .i64 0, .slice none 0 0, .int .i64 o] 43 (0, 0)) := ObjRow.keep k (by repeat (first | with_reducible exact HNONE.out | with_reducible refine row_drewN ?_ _ | with_reducible apply row8_0 | with_reducible apply row8_1 | with_reducible apply row8_2 | with_reducible apply row8_3 | with_reducible apply row8_4 | with_reducible apply row8_5 | with_reducible apply row8_6 | with_reducible apply row8_7 | with_reducible exact row_new _ _ _ (by simp) | with_reducible refine row_alloc ?_ _ | with_reducible refine row_other ?_ (by omega) _)) (by (try simp) <;> omega) (by omega)
  have Hhc2 := Lib.hid hc2
  obtain ⟨c0, c1, c2, c3, c4, c5, c6, c7⟩ := eight_cells hc2
  obtain ⟨e0, e1, e2, e3, e4, e5, e6, e7⟩ := eight_frozen hc2
  obtain ⟨z0, z1, z2, z3, z4, z5, z6, z7⟩ := eight_cells hr
  obtain ⟨g0, g1, g2, g3, g4, g5, g6, g7⟩ := eight_frozen hr
  have HK2 := Lib.hid kk
  have HR2 := Lib.hid P
  clear k P kk hr hc2
  go_wp2_with (fail)
  go_at_call 48
  refine (q_take rb ⟨#[59]⟩ L hL en (qNum L en ⟨s.at_ + 1, s.e, s.off⟩).2 _ (by repeat (first | with_reducible exact HR2.out | with_reducible refine RSt.setAt1 (s := s) ?_ | with_reducible refine RSt.drewN ?_ _ | with_reducible refine RSt.new ?_ _ | with_reducible refine RSt.setNew ?_ (by omega) _))).mono ?_
  rintro e w3 ⟨rfl, P, k⟩
  have hz3 := k.size
  try simp at hz3
  have kk : KB w.heap.size rb w w3 := by refine KB.trans ?_ (k.mono (by (try simp) <;> omega)); (repeat (first | with_reducible exact HK2.out | with_reducible refine KB.drewN ?_ _ | with_reducible refine KB.setP ?_ _ | with_reducible refine KB.setNew ?_ (by omega) _ | with_reducible refine KB.alloc ?_ _ (by (try simp) <;> omega)))
  have hr : w3.heap[w.heap.size]? = some (.cells #[.int .u8 0, .slice none 0 0, .int .u8 0, .int .i64 0, .int .i64 0, .int .i64 0, .slice none 0 0, .int .i64 0] 43 (0, 0)) := ObjRow.keep k (by repeat (first | with_reducible exact Hhr.out | with_reducible refine row_drewN ?_ _ | with_reducible apply row8_0 | with_reducible apply row8_1 | with_reducible apply row8_2 | with_reducible apply row8_3 | with_reducible apply row8_4 | with_reducible apply row8_5 | with_reducible apply row8_6 | with_reducible apply row8_7 | with_reducible exact row_new _ _ _ (by simp) | with_reducible refine row_alloc ?_ _ | with_reducible refine row_other ?_ (by omega) _)) (by (try simp) <;> omega) (by omega)
  have Hhr := Lib.hid hr
  have hc2 : w3.heap[w1.heap.size]? = some (.cells #[.int .u8 4, .slice none 0 0, .int .u8 0, .int .i64 0, .int .i64 (qNum L en ⟨s.at_ + 1, s.e, s.off⟩).1, .int .i64 0, .slice none 0 0, .int .i64 o] 43 (0, 0)) := ObjRow.keep k (by repeat (first | with_reducible exact Hhc2.out | with_reducible refine row_drewN ?_ _ | with_reducible apply row8_0 | with_reducible apply row8_1 | with_reducible apply row8_2 | with_reducible apply row8_3 | with_reducible apply row8_4 | with_reducible apply row8_5 | with_reducible apply row8_6 | with_reducible apply row8_7 | with_reducible exact row_new _ _ _ (by simp) | with_reducible refine row_alloc ?_ _ | with_reducible refine row_other ?_ (by omega) _)) (by (try simp) <;> omega) (by omega)
  have Hhc2 := Lib.hid hc2
  obtain ⟨c0, c1, c2, c3, c4, c5, c6, c7⟩ := eight_cells hc2
  obtain ⟨e0, e1, e2, e3, e4, e5, e6, e7⟩ := eight_frozen hc2
  obtain ⟨z0, z1, z2, z3, z4, z5, z6, z7⟩ := eight_cells hr
  obtain ⟨g0, g1, g2, g3, g4, g5, g6, g7⟩ := eight_frozen hr
  have HK3 := Lib.hid kk
  have HR3 := Lib.hid P
  clear k P kk hr hc2
  go_wp2_with (fail)
  refine ret8 (i := 2) (b := w.heap.size) rfl rfl rfl (row_store8 (by repeat (first | with_reducible exact Hhr.out | with_reducible refine row_drewN ?_ _ | with_reducible apply row8_0 | with_reducible apply row8_1 | with_reducible apply row8_2 | with_reducible apply row8_3 | with_reducible apply row8_4 | with_reducible apply row8_5 | with_reducible apply row8_6 | with_reducible apply row8_7 | with_reducible exact row_new _ _ _ (by simp) | with_reducible refine row_alloc ?_ _ | with_reducible refine row_other ?_ (by omega) _)) (.int .u8 4) (.slice none 0 0) (.int .u8 0) (.int .i64 0) (.int .i64 (qNum L en ⟨s.at_ + 1, s.e, s.off⟩).1) (.int .i64 0) (.slice none 0 0) (.int .i64 o)) ⟨_, rfl, ⟨_, _, rfl, ?_, ClSl.nil _ _⟩, ?_, ?_⟩
  · exact StrSl.nil _ _
  · exact (by repeat (first | with_reducible exact HR3.out | with_reducible refine RSt.setAt1 (s := s) ?_ | with_reducible refine RSt.drewN ?_ _ | with_reducible refine RSt.new ?_ _ | with_reducible refine RSt.setNew ?_ (by omega) _))
  · (repeat (first | with_reducible exact HK3.out | with_reducible refine KB.drewN ?_ _ | with_reducible refine KB.setP ?_ _ | with_reducible refine KB.setNew ?_ (by omega) _ | with_reducible refine KB.alloc ?_ _ (by (try simp) <;> omega)))

set_option maxHeartbeats 40000000 in
theorem q_clause_cap (rb : Nat) (L : List Tok) (hL : L.length ≤ 5000) (en : Int) (s : QS) (w : World) (h : RSt w rb L en s) (hlt : s.at_ < L.length) (hx : L[s.at_].text = ⟨#[99, 97, 112]⟩) :
    Calls Tryz.prog 24 #[.pointer (some ⟨rb, 0, none⟩)] w (CMoved (qCap L en (offOf en (L.drop s.at_)) ⟨s.at_ + 1, s.e, s.off⟩) rb L en w) := by
  have hfm : Tryz.prog.follows Departure.mixedOrders = true := by kernel_rfl
  have hrl := h.lt
  have H := Lib.hid h
  have i0 : (0 : Int) ≤ (s.at_ : Int) := Int.natCast_nonneg _
  have i1 : (s.at_ : Int) < (L.length : Int) := by omega
  have d1 : decide (s.at_ < L.length) = true := decide_eq_true hlt
  obtain ⟨o, ho⟩ : ∃ o, o = offOf en (L.drop s.at_) := ⟨_, rfl⟩
  rw [← ho]
  clear h
  unfold qCap
  go_enter Tryz.func24, Tryz.ntmps24
  go_wp2_with (fail)
  go_at_call 44
  refine (q_offset rb L en s _ (by exact H.out.new _)).mono ?_
  rw [← ho]
  clear ho
  rintro e w1 ⟨n, rfl, hw⟩
  have hB : Below w.heap.size w w1 := by rw [hw]; exact below_dN _ ((Below.refl _ _).alloc (Nat.le_refl _) _)
  have hr : w1.heap[w.heap.size]? = some (.cells #[.int .u8 0, .slice none 0 0, .int .u8 0, .int .i64 0, .int .i64 0, .int .i64 0, .slice none 0 0, .int .i64 0] 43 (0, 0)) := by rw [hw]; exact row_new _ _ _ rfl
  have hz1 : w.heap.size < w1.heap.size := by rw [hw]; simp
  clear hw
  have HR1 := Lib.hid (H.out.below hB)
  have HK1 := Lib.hid (KB.of_below (pb := rb) hB)
  obtain ⟨z0, z1, z2, z3, z4, z5, z6, z7⟩ := eight_cells hr
  obtain ⟨g0, g1, g2, g3, g4, g5, g6, g7⟩ := eight_frozen hr
  have Hhr := Lib.hid hr
  obtain ⟨b, bo, bc, hc, hm, hbb, k0', -, q1', -⟩ := HR1.out.tok hlt
  rw [hx] at q1'
  obtain ⟨_, _, -, -, -, -, k1', -, -, -, f1', -⟩ := HR1.out.cells
  have hrl1 : rb < w1.heap.size := by omega
  unfold maxLen at hm
  have k0 := fun ob => (cell_alloc w1 ob hrl1).trans k0'
  have k1 := fun ob => (cell_alloc w1 ob hrl1).trans k1'
  have q1 := fun ob => (cell_alloc w1 ob (show b < w1.heap.size by omega)).trans q1'
  have f1 := fun ob => (frozen_alloc w1 ob hrl1).trans f1'
  have n1 : rb ≠ w1.heap.size := by omega
  have n2 : b ≠ w1.heap.size := by omega
  have n3 : b ≠ rb := by omega
  have n4 : w.heap.size ≠ w1.heap.size := by omega
  have n5 : rb ≠ w.heap.size := by omega
  have HX := Lib.hid hx
  clear hB hr hx k0' k1' q1' f1'
  go_wp2_with (fail)
  go_quiet (fail)
  go_wp2_with (fail)
  go_at_call 48
  refine (q_take rb ⟨#[102, 101, 101, 100]⟩ L hL en ⟨s.at_ + 1, s.e, s.off⟩ _ (by repeat (first | with_reducible exact HR1.out | with_reducible refine RSt.setAt1 (s := s) ?_ | with_reducible refine RSt.drewN ?_ _ | with_reducible refine RSt.new ?_ _ | with_reducible refine RSt.setNew ?_ (by omega) _))).mono ?_
  rintro e w2 ⟨rfl, P, k⟩
  have hz2 := k.size
  try simp at hz2
  have kk : KB w.heap.size rb w w2 := by refine KB.trans ?_ (k.mono (by (try simp) <;> omega)); (repeat (first | with_reducible exact HK1.out | with_reducible refine KB.drewN ?_ _ | with_reducible refine KB.setP ?_ _ | with_reducible refine KB.setNew ?_ (by omega) _ | with_reducible refine KB.alloc ?_ _ (by (try simp) <;> omega)))
  have hr : w2.heap[w.heap.size]? = some (.cells #[.int .u8 0, .slice none 0 0, .int .u8 0, .int .i64 0, .int .i64 0, .int .i64 0, .slice none 0 0, .int .i64 0] 43 (0, 0)) := ObjRow.keep k (by repeat (first | with_reducible exact Hhr.out | with_reducible refine row_drewN ?_ _ | with_reducible apply row8_0 | with_reducible apply row8_1 | with_reducible apply row8_2 | with_reducible apply row8_3 | with_reducible apply row8_4 | with_reducible apply row8_5 | with_reducible apply row8_6 | with_reducible apply row8_7 | with_reducible exact row_new _ _ _ (by simp) | with_reducible refine row_alloc ?_ _ | with_reducible refine row_other ?_ (by omega) _)) (by (try simp) <;> omega) (by omega)
  have Hhr := Lib.hid hr
  have hc2 : w2.heap[w1.heap.size]? = some (.cells #[.int .u8 5, .slice none 0 0, .int .u8 0, .int .i64 0, .int .i64 0, .int .i64 0, .slice none 0 0, .int .i64 o] 43 (0, 0)) := ObjRow.keep k (by repeat (first | with_reducible exact HNONE.out | with_reducible refine row_drewN ?_ _ | with_reducible apply row8_0 | with_reducible apply row8_1 | with_reducible apply row8_2 | with_reducible apply row8_3 | with_reducible apply row8_4 | with_reducible apply row8_5 | with_reducible apply row8_6 | with_reducible apply row8_7 | with_reducible exact row_new _ _ _ (by simp) | with_reducible refine row_alloc ?_ _ | with_reducible refine row_other ?_ (by omega) _)) (by (try simp) <;> omega) (by omega)
  have Hhc2 := Lib.hid hc2
  obtain ⟨c0, c1, c2, c3, c4, c5, c6, c7⟩ := eight_cells hc2
  obtain ⟨e0, e1, e2, e3, e4, e5, e6, e7⟩ := eight_frozen hc2
  obtain ⟨z0, z1, z2, z3, z4, z5, z6, z7⟩ := eight_cells hr
  obtain ⟨g0, g1, g2, g3, g4, g5, g6, g7⟩ := eight_frozen hr
  have HK2 := Lib.hid kk
  have HR2 := Lib.hid P
  clear k P kk hr hc2
  go_wp2_with (fail)
  go_at_call 47
  refine (q_number rb L hL en (qTake L en ⟨#[102, 101, 101, 100]⟩ ⟨s.at_ + 1, s.e, s.off⟩) _ (by repeat (first | with_reducible exact HR2.out | with_reducible refine RSt.setAt1 (s := s) ?_ | with_reducible refine RSt.drewN ?_ _ | with_reducible refine RSt.new ?_ _ | with_reducible refine RSt.setNew ?_ (by omega) _))).mono ?_
  rintro e w3 ⟨rfl, P, k⟩
  have hz3 := k.size
  try simp at hz3
  have kk : KB w.heap.size rb w w3 := by refine KB.trans ?_ (k.mono (by (try simp) <;> omega)); (repeat (first | with_reducible exact HK2.out | with_reducible refine KB.drewN ?_ _ | with_reducible refine KB.setP ?_ _ | with_reducible refine KB.setNew ?_ (by omega) _ | with_reducible refine KB.alloc ?_ _ (by (try simp) <;> omega)))
  have hr : w3.heap[w.heap.size]? = some (.cells #[.int .u8 0, .slice none 0 0, .int .u8 0, .int .i64 0, .int .i64 0, .int .i64 0, .slice none 0 0, .int .i64 0] 43 (0, 0)) := ObjRow.keep k (by repeat (first | with_reducible exact Hhr.out | with_reducible refine row_drewN ?_ _ | with_reducible apply row8_0 | with_reducible apply row8_1 | with_reducible apply row8_2 | with_reducible apply row8_3 | with_reducible apply row8_4 | with_reducible apply row8_5 | with_reducible apply row8_6 | with_reducible apply row8_7 | with_reducible exact row_new _ _ _ (by simp) | with_reducible refine row_alloc ?_ _ | with_reducible refine row_other ?_ (by omega) _)) (by (try simp) <;> omega) (by omega)
  have Hhr := Lib.hid hr
  have hc2 : w3.heap[w1.heap.size]? = some (.cells #[.int .u8 5, .slice none 0 0, .int .u8 0, .int .i64 0, .int .i64 0, .int .i64 0, .slice none 0 0, .int .i64 o] 43 (0, 0)) := ObjRow.keep k (by repeat (first | with_reducible exact Hhc2.out | with_reducible refine row_drewN ?_ _ | with_reducible apply row8_0 | with_reducible apply row8_1 | with_reducible apply row8_2 | with_reducible apply row8_3 | with_reducible apply row8_4 | with_reducible apply row8_5 | with_reducible apply row8_6 | with_reducible apply row8_7 | with_reducible exact row_new _ _ _ (by simp) | with_reducible refine row_alloc ?_ _ | with_reducible refine row_other ?_ (by omega) _)) (by (try simp) <;> omega) (by omega)
  have Hhc2 := Lib.hid hc2
  obtain ⟨c0, c1, c2, c3, c4, c5, c6, c7⟩ := eight_cells hc2
  obtain ⟨e0, e1, e2, e3, e4, e5, e6, e7⟩ := eight_frozen hc2
  obtain ⟨z0, z1, z2, z3, z4, z5, z6, z7⟩ := eight_cells hr
  obtain ⟨g0, g1, g2, g3, g4, g5, g6, g7⟩ := eight_frozen hr
  have HK3 := Lib.hid kk
  have HR3 := Lib.hid P
  clear k P kk hr hc2
  go_wp2_with (fail)
  go_at_call 48
  refine (q_take rb ⟨#[97, 116]⟩ L hL en (qNum L en (qTake L en ⟨#[102, 101, 101, 100]⟩ ⟨s.at_ + 1, s.e, s.off⟩)).2 _ (by repeat (first | with_reducible exact HR3.out | with_reducible refine RSt.setAt1 (s := s) ?_ | with_reducible refine RSt.drewN ?_ _ | with_reducible refine RSt.new ?_ _ | with_reducible refine RSt.setNew ?_ (by omega) _))).mono ?_
  rintro e w4 ⟨rfl, P, k⟩
  have hz4 := k.size
  try simp at hz4
  have kk : KB w.heap.size rb w w4 := by refine KB.trans ?_ (k.mono (by (try simp) <;> omega)); (repeat (first | with_reducible exact HK3.out | with_reducible refine KB.drewN ?_ _ | with_reducible refine KB.setP ?_ _ | with_reducible refine KB.setNew ?_ (by omega) _ | with_reducible refine KB.alloc ?_ _ (by (try simp) <;> omega)))
  have hr : w4.heap[w.heap.size]? = some (.cells #[.int .u8 0, .slice none 0 0, .int .u8 0, .int .i64 0, .int .i64 0, .int .i64 0, .slice none 0 0, .int .i64 0] 43 (0, 0)) := ObjRow.keep k (by repeat (first | with_reducible exact Hhr.out | with_reducible refine row_drewN ?_ _ | with_reducible apply row8_0 | with_reducible apply row8_1 | with_reducible apply row8_2 | with_reducible apply row8_3 | with_reducible apply row8_4 | with_reducible apply row8_5 | with_reducible apply row8_6 | with_reducible apply row8_7 | with_reducible exact row_new _ _ _ (by simp) | with_reducible refine row_alloc ?_ _ | with_reducible refine row_other ?_ (by omega) _)) (by (try simp) <;> omega) (by omega)
  have Hhr := Lib.hid hr
  have hc2 : w4.heap[w1.heap.size]? = some (.cells #[.int .u8 5, .slice none 0 0, .int .u8 0, .int .i64 (qNum L en (qTake L en ⟨#[102, 101, 101, 100]⟩ ⟨s.at_ + 1, s.e, s.off⟩)).1, .int .i64 0, .int .i64 0, .slice none 0 0, .int .i64 o] 43 (0, 0)) := ObjRow.keep k (by repeat (first | with_reducible exact Hhc2.out | with_reducible refine row_drewN ?_ _ | with_reducible apply row8_0 | with_reducible apply row8_1 | with_reducible apply row8_2 | with_reducible apply row8_3 | with_reducible apply row8_4 | with_reducible apply row8_5 | with_reducible apply row8_6 | with_reducible apply row8_7 | with_reducible exact row_new _ _ _ (by simp) | with_reducible refine row_alloc ?_ _ | with_reducible refine row_other ?_ (by omega) _)) (by (try simp) <;> omega) (by omega)
  have Hhc2 := Lib.hid hc2
  obtain ⟨c0, c1, c2, c3, c4, c5, c6, c7⟩ := eight_cells hc2
  obtain ⟨e0, e1, e2, e3, e4, e5, e6, e7⟩ := eight_frozen hc2
  obtain ⟨z0, z1, z2, z3, z4, z5, z6, z7⟩ := eight_cells hr
  obtain ⟨g0, g1, g2, g3, g4, g5, g6, g7⟩ := eight_frozen hr
  have HK4 := Lib.hid kk
  have HR4 := Lib.hid P
  clear k P kk hr hc2
  go_wp2_with (fail)
  go_at_call 47
  refine (q_number rb L hL en (qTake L en ⟨#[97, 116]⟩ (qNum L en (qTake L en ⟨#[102, 101, 101, 100]⟩ ⟨s.at_ + 1, s.e, s.off⟩)).2) _ (by repeat (first | with_reducible exact HR4.out | with_reducible refine RSt.setAt1 (s := s) ?_ | with_reducible refine RSt.drewN ?_ _ | with_reducible refine RSt.new ?_ _ | with_reducible refine RSt.setNew ?_ (by omega) _))).mono ?_
  rintro e w5 ⟨rfl, P, k⟩
  have hz5 := k.size
  try simp at hz5
  have kk : KB w.heap.size rb w w5 := by refine KB.trans ?_ (k.mono (by (try simp) <;> omega)); (repeat (first | with_reducible exact HK4.out | with_reducible refine KB.drewN ?_ _ | with_reducible refine KB.setP ?_ _ | with_reducible refine KB.setNew ?_ (by omega) _ | with_reducible refine KB.alloc ?_ _ (by (try simp) <;> omega)))
  have hr : w5.heap[w.heap.size]? = some (.cells #[.int .u8 0, .slice none 0 0, .int .u8 0, .int .i64 0, .int .i64 0, .int .i64 0, .slice none 0 0, .int .i64 0] 43 (0, 0)) := ObjRow.keep k (by repeat (first | with_reducible exact Hhr.out | with_reducible refine row_drewN ?_ _ | with_reducible apply row8_0 | with_reducible apply row8_1 | with_reducible apply row8_2 | with_reducible apply row8_3 | with_reducible apply row8_4 | with_reducible apply row8_5 | with_reducible apply row8_6 | with_reducible apply row8_7 | with_reducible exact row_new _ _ _ (by simp) | with_reducible refine row_alloc ?_ _ | with_reducible refine row_other ?_ (by omega) _)) (by (try simp) <;> omega) (by omega)
  have Hhr := Lib.hid hr
  have hc2 : w5.heap[w1.heap.size]? = some (.cells #[.int .u8 5, .slice none 0 0, .int .u8 0, .int .i64 (qNum L en (qTake L en ⟨#[102, 101, 101, 100]⟩ ⟨s.at_ + 1, s.e, s.off⟩)).1, .int .i64 0, .int .i64 0, .slice none 0 0, .int .i64 o] 43 (0, 0)) := ObjRow.keep k (by repeat (first | with_reducible exact Hhc2.out | with_reducible refine row_drewN ?_ _ | with_reducible apply row8_0 | with_reducible apply row8_1 | with_reducible apply row8_2 | with_reducible apply row8_3 | with_reducible apply row8_4 | with_reducible apply row8_5 | with_reducible apply row8_6 | with_reducible apply row8_7 | with_reducible exact row_new _ _ _ (by simp) | with_reducible refine row_alloc ?_ _ | with_reducible refine row_other ?_ (by omega) _)) (by (try simp) <;> omega) (by omega)
  have Hhc2 := Lib.hid hc2
  obtain ⟨c0, c1, c2, c3, c4, c5, c6, c7⟩ := eight_cells hc2
  obtain ⟨e0, e1, e2, e3, e4, e5, e6, e7⟩ := eight_frozen hc2
  obtain ⟨z0, z1, z2, z3, z4, z5, z6, z7⟩ := eight_cells hr
  obtain ⟨g0, g1, g2, g3, g4, g5, g6, g7⟩ := eight_frozen hr
  have HK5 := Lib.hid kk
  have HR5 := Lib.hid P
  clear k P kk hr hc2
  go_wp2_with (fail)
  go_at_call 48
  refine (q_take rb ⟨#[59]⟩ L hL en (qNum L en (qTake L en ⟨#[97, 116]⟩ (qNum L en (qTake L en ⟨#[102, 101, 101, 100]⟩ ⟨s.at_ + 1, s.e, s.off⟩)).2)).2 _ (by repeat (first | with_reducible exact HR5.out | with_reducible refine RSt.setAt1 (s := s) ?_ | with_reducible refine RSt.drewN ?_ _ | with_reducible refine RSt.new ?_ _ | with_reducible refine RSt.setNew ?_ (by omega) _))).mono ?_
  rintro e w6 ⟨rfl, P, k⟩
  have hz6 := k.size
  try simp at hz6
  have kk : KB w.heap.size rb w w6 := by refine KB.trans ?_ (k.mono (by (try simp) <;> omega)); (repeat (first | with_reducible exact HK5.out | with_reducible refine KB.drewN ?_ _ | with_reducible refine KB.setP ?_ _ | with_reducible refine KB.setNew ?_ (by omega) _ | with_reducible refine KB.alloc ?_ _ (by (try simp) <;> omega)))
  have hr : w6.heap[w.heap.size]? = some (.cells #[.int .u8 0, .slice none 0 0, .int .u8 0, .int .i64 0, .int .i64 0, .int .i64 0, .slice none 0 0, .int .i64 0] 43 (0, 0)) := ObjRow.keep k (by repeat (first | with_reducible exact Hhr.out | with_reducible refine row_drewN ?_ _ | with_reducible apply row8_0 | with_reducible apply row8_1 | with_reducible apply row8_2 | with_reducible apply row8_3 | with_reducible apply row8_4 | with_reducible apply row8_5 | with_reducible apply row8_6 | with_reducible apply row8_7 | with_reducible exact row_new _ _ _ (by simp) | with_reducible refine row_alloc ?_ _ | with_reducible refine row_other ?_ (by omega) _)) (by (try simp) <;> omega) (by omega)
  have Hhr := Lib.hid hr
  have hc2 : w6.heap[w1.heap.size]? = some (.cells #[.int .u8 5, .slice none 0 0, .int .u8 0, .int .i64 (qNum L en (qTake L en ⟨#[102, 101, 101, 100]⟩ ⟨s.at_ + 1, s.e, s.off⟩)).1, .int .i64 (qNum L en (qTake L en ⟨#[97, 116]⟩ (qNum L en (qTake L en ⟨#[102, 101, 101, 100]⟩ ⟨s.at_ + 1, s.e, s.off⟩)).2)).1, .int .i64 0, .slice none 0 0, .int .i64 o] 43 (0, 0)) := ObjRow.keep k (by repeat (first | with_reducible exact Hhc2.out | with_reducible refine row_drewN ?_ _ | with_reducible apply row8_0 | with_reducible apply row8_1 | with_reducible apply row8_2 | with_reducible apply row8_3 | with_reducible apply row8_4 | with_reducible apply row8_5 | with_reducible apply row8_6 | with_reducible apply row8_7 | with_reducible exact row_new _ _ _ (by simp) | with_reducible refine row_alloc ?_ _ | with_reducible refine row_other ?_ (by omega) _)) (by (try simp) <;> omega) (by omega)
  have Hhc2 := Lib.hid hc2
  obtain ⟨c0, c1, c2, c3, c4, c5, c6, c7⟩ := eight_cells hc2
  obtain ⟨e0, e1, e2, e3, e4, e5, e6, e7⟩ := eight_frozen hc2
  obtain ⟨z0, z1, z2, z3, z4, z5, z6, z7⟩ := eight_cells hr
  obtain ⟨g0, g1, g2, g3, g4, g5, g6, g7⟩ := eight_frozen hr
  have HK6 := Lib.hid kk
  have HR6 := Lib.hid P
  clear k P kk hr hc2
  go_wp2_with (fail)
  refine ret8 (i := 2) (b := w.heap.size) rfl rfl rfl (row_store8 (by repeat (first | with_reducible exact Hhr.out | with_reducible refine row_drewN ?_ _ | with_reducible apply row8_0 | with_reducible apply row8_1 | with_reducible apply row8_2 | with_reducible apply row8_3 | with_reducible apply row8_4 | with_reducible apply row8_5 | with_reducible apply row8_6 | with_reducible apply row8_7 | with_reducible exact row_new _ _ _ (by simp) | with_reducible refine row_alloc ?_ _ | with_reducible refine row_other ?_ (by omega) _)) (.int .u8 5) (.slice none 0 0) (.int .u8 0) (.int .i64 (qNum L en (qTake L en ⟨#[102, 101, 101, 100]⟩ ⟨s.at_ + 1, s.e, s.off⟩)).1) (.int .i64 (qNum L en (qTake L en ⟨#[97, 116]⟩ (qNum L en (qTake L en ⟨#[102, 101, 101, 100]⟩ ⟨s.at_ + 1, s.e, s.off⟩)).2)).1) (.int .i64 0) (.slice none 0 0) (.int .i64 o)) ⟨_, rfl, ⟨_, _, rfl, ?_, ClSl.nil _ _⟩, ?_, ?_⟩
  · exact StrSl.nil _ _
  · exact (by repeat (first | with_reducible exact HR6.out | with_reducible refine RSt.setAt1 (s := s) ?_ | with_reducible refine RSt.drewN ?_ _ | with_reducible refine RSt.new ?_ _ | with_reducible refine RSt.setNew ?_ (by omega) _))
  · (repeat (first | with_reducible exact HK6.out | with_reducible refine KB.drewN ?_ _ | with_reducible refine KB.setP ?_ _ | with_reducible refine KB.setNew ?_ (by omega) _ | with_reducible refine KB.alloc ?_ _ (by (try simp) <;> omega)))
end Go.Proofs.YtfpcdgmdangmaaaGreatDoor
