/-
  DERIVED. Several texts in one.
-/
import Derived.Test.YtfpcdgmdangmaaaGreatDoorYQEm
import Derived.Test.YtfpcdgmdangmaaaGreatDoorYPPm
set_option linter.unusedVariables false
set_option linter.unusedSimpArgs false

/- DERIVED. The reference's parser: an item that begins with no word of one; a clause that has none. -/
namespace Go.Proofs.YtfpcdgmdangmaaaGreatDoor
open Go.RowKit
set_option maxRecDepth 100000

theorem RSt.setBack {w : World} {rb : Nat} {L : List Tok} {en : Int} {s : QS} (h : RSt w rb L en ⟨s.at_ + 1, s.e, s.off⟩) : RSt (w.setCell ⟨rb, 1, none⟩ (.int .i64 s.at_)) rb L en s := h.setAt s.at_
/-- None of some words. -/
def itemWords : List (List UInt8) := [[99, 111, 114, 101, 115], [114, 101, 112, 108, 105, 99, 97, 115], [108, 101, 97, 115, 116], [115, 112, 114, 101, 97, 100], [97, 112, 97, 114, 116], [110, 101, 97, 114], [102, 105, 114, 109, 119, 97, 114, 101]]
def clauseWords : List (List UInt8) := [[115, 101, 114, 118, 105, 99, 101], [119, 105, 110, 100, 111, 119], [97, 112, 112, 114, 111, 118, 101], [98, 108, 97, 115, 116], [99, 97, 112]]
def NoneOf (ws : List (List UInt8)) (s : ByteArray) : Prop := ∀ x ∈ ws, (s.toList == x) = false

set_option maxHeartbeats 40000000 in
theorem q_item_end (rb : Nat) (L : List Tok) (hL : L.length ≤ 5000) (en : Int) (s : QS) (w : World) (h : RSt w rb L en s) (hge : L.length ≤ s.at_) :
    Calls Tryz.prog 84 #[.pointer (some ⟨rb, 0, none⟩)] w (CMoved (.mk 0 [] 0 0 0 0 [] (offOf en (L.drop s.at_)), qFail L en s) rb L en w) := by
  have hfm : Tryz.prog.follows Departure.mixedOrders = true := by kernel_rfl
  have hrl := h.lt
  have H := Lib.hid h
  have d1 : decide (s.at_ < L.length) = false := decide_eq_false (by omega)
  have i1 : (L.length : Int) ≤ (s.at_ : Int) := by omega
  obtain ⟨o, ho⟩ : ∃ o, o = offOf en (L.drop s.at_) := ⟨_, rfl⟩
  rw [← ho]
  clear h
  go_enter Tryz.func84, Tryz.ntmps84
  go_wp2_with (fail)
  go_at_call 44
  refine (q_offset rb L en s _ (by exact H.out.new _)).mono ?_
  rw [← ho]
  clear ho
  rintro e w1 ⟨n, rfl, hw⟩
  have hB : Below w.heap.size w w1 := by rw [hw]; exact below_dN _ ((Below.refl _ _).alloc (Nat.le_refl _) _)
  have hr : w1.heap[w.heap.size]? = some (.cells #[.int .u8 0, .slice none 0 0, .int .u8 0, .int .i64 0, .int .i64 0, .int .i64 0, .slice none 0 0, .int .i64 0] 43 (0, 0)) := by rw [hw]; exact row_new _ _ _ rfl
  have hz1 : w.heap.size < w1.heap.size := by rw [hw]; simp
  clear hw
  have HR1 := Lib.hid (H.out.below hB)
  have HK1 := Lib.hid (KB.of_below (pb := rb) hB)
  have Hhr := Lib.hid hr
  obtain ⟨A, bc, hc, hm, -, k0', k1', -, -, -, f1', -⟩ := HR1.out.cells
  have hrl1 : rb < w1.heap.size := by omega
  unfold maxLen at hm
  have k0 := fun ob => (cell_alloc w1 ob hrl1).trans k0'
  have k1 := fun ob => (cell_alloc w1 ob hrl1).trans k1'
  have n1 : rb ≠ w1.heap.size := by omega
  have n4 : w.heap.size ≠ w1.heap.size := by omega
  clear hB hr k0' k1' f1'
  go_wp2_with (fail)
  go_quiet (fail)
  go_wp2_with (fail)
  go_at_call 49
  refine (q_fail rb L en s _ (by repeat (first | with_reducible exact HR1.out | with_reducible refine RSt.drewN ?_ _ | with_reducible refine RSt.new ?_ _ | with_reducible refine RSt.setNew ?_ (by omega) _))).mono ?_
  rintro e w2 ⟨rfl, P, k⟩
  have hz2 := k.size
  try simp at hz2
  have kk : KB w.heap.size rb w w2 := by refine KB.trans ?_ (k.mono (by (try simp) <;> omega)); (repeat (first | with_reducible exact HK1.out | with_reducible refine KB.drewN ?_ _ | with_reducible refine KB.setP ?_ _ | with_reducible refine KB.setNew ?_ (by omega) _ | with_reducible refine KB.alloc ?_ _ (by (try simp) <;> omega)))
  have hr2 : w2.heap[w.heap.size]? = some (.cells #[.int .u8 0, .slice none 0 0, .int .u8 0, .int .i64 0, .int .i64 0, .int .i64 0, .slice none 0 0, .int .i64 0] 43 (0, 0)) := ObjRow.keep k (by repeat (first | with_reducible exact Hhr.out | with_reducible refine row_drewN ?_ _ | with_reducible refine row_alloc ?_ _ | with_reducible refine row_other ?_ (by omega) _)) (by (try simp) <;> omega) (by omega)
  have hc2 : w2.heap[w1.heap.size]? = some (.cells #[.int .u8 0, .slice none 0 0, .int .u8 0, .int .i64 0, .int .i64 0, .int .i64 0, .slice none 0 0, .int .i64 o] 43 (0, 0)) := ObjRow.keep k (by repeat (first | with_reducible refine row_drewN ?_ _ | with_reducible apply row8_0 | with_reducible apply row8_1 | with_reducible apply row8_2 | with_reducible apply row8_3 | with_reducible apply row8_4 | with_reducible apply row8_5 | with_reducible apply row8_6 | with_reducible apply row8_7 | with_reducible exact row_new _ _ _ (by simp))) (by (try simp) <;> omega) (by omega)
  have Hhr2 := Lib.hid hr2
  have HK2 := Lib.hid kk
  have HR2 := Lib.hid P
  obtain ⟨c0, c1, c2, c3, c4, c5, c6, c7⟩ := eight_cells hc2
  obtain ⟨z0, z1, z2, z3, z4, z5, z6, z7⟩ := eight_cells hr2
  obtain ⟨g0, g1, g2, g3, g4, g5, g6, g7⟩ := eight_frozen hr2
  clear k P kk hr2 hc2
  go_wp2_with (fail)
  refine ret8 (i := 2) (b := w.heap.size) rfl rfl rfl (row_store8 Hhr2.out (.int .u8 0) (.slice none 0 0) (.int .u8 0) (.int .i64 0) (.int .i64 0) (.int .i64 0) (.slice none 0 0) (.int .i64 o)) ⟨_, rfl, ⟨_, _, rfl, StrSl.nil _ _, ClSl.nil _ _⟩, ?_, ?_⟩
  · repeat (first | with_reducible exact HR2.out | with_reducible refine RSt.setNew ?_ (by omega) _)
  · repeat (first | with_reducible exact HK2.out | with_reducible refine KB.setNew ?_ (by omega) _)

set_option maxHeartbeats 40000000 in
theorem q_item_none (rb : Nat) (L : List Tok) (hL : L.length ≤ 5000) (en : Int) (s : QS) (w : World) (h : RSt w rb L en s) (hlt : s.at_ < L.length) (hx : NoneOf itemWords L[s.at_].text) :
    Calls Tryz.prog 84 #[.pointer (some ⟨rb, 0, none⟩)] w (CMoved (.mk 0 [] 0 0 0 0 [] (offOf en (L.drop s.at_)), qFail L en s) rb L en w) := by
  have hfm : Tryz.prog.follows Departure.mixedOrders = true := by kernel_rfl
  have hrl := h.lt
  have H := Lib.hid h
  have i0 : (0 : Int) ≤ (s.at_ : Int) := Int.natCast_nonneg _
  have i1 : (s.at_ : Int) < (L.length : Int) := by omega
  have d1 : decide (s.at_ < L.length) = true := decide_eq_true hlt
  obtain ⟨o, ho⟩ : ∃ o, o = offOf en (L.drop s.at_) := ⟨_, rfl⟩
  rw [← ho]
  clear h
  go_enter Tryz.func84, Tryz.ntmps84
  go_wp2_with (fail)
  go_at_call 44
  refine (q_offset rb L en s _ (by exact H.out.new _)).mono ?_
  rw [← ho]
  clear ho
  rintro e w1 ⟨n, rfl, hw⟩
  have hB : Below w.heap.size w w1 := by rw [hw]; exact below_dN _ ((Below.refl _ _).alloc (Nat.le_refl _) _)
  have hr : w1.heap[w.heap.size]? = some (.cells #[.int .u8 0, .slice none 0 0, .int .u8 0, .int .i64 0, .int .i64 0, .int .i64 0, .slice none 0 0, .int .i64 0] 43 (0, 0)) := by rw [hw]; exact row_new _ _ _ rfl
  have hz1 : w.heap.size < w1.heap.size := by rw [hw]; simp
  clear hw
  have HR1 := Lib.hid (H.out.below hB)
  have HK1 := Lib.hid (KB.of_below (pb := rb) hB)
  have Hhr := Lib.hid hr
  obtain ⟨b, bo, bc, hc, hm, hbb, k0', -, q1', -⟩ := HR1.out.tok hlt
  obtain ⟨_, _, -, -, -, -, k1', -, -, -, f1', -⟩ := HR1.out.cells
  generalize L[s.at_].text = tx at q1' hx
  have dx0 : (tx.toList == [99, 111, 114, 101, 115]) = false := hx _ (by simp [itemWords])
  have dx1 : (tx.toList == [114, 101, 112, 108, 105, 99, 97, 115]) = false := hx _ (by simp [itemWords])
  have dx2 : (tx.toList == [108, 101, 97, 115, 116]) = false := hx _ (by simp [itemWords])
  have dx3 : (tx.toList == [102, 105, 114, 109, 119, 97, 114, 101]) = false := hx _ (by simp [itemWords])
  have dx4 : (tx.toList == [115, 112, 114, 101, 97, 100]) = false := hx _ (by simp [itemWords])
  have dx5 : (tx.toList == [97, 112, 97, 114, 116]) = false := hx _ (by simp [itemWords])
  have dx6 : (tx.toList == [110, 101, 97, 114]) = false := hx _ (by simp [itemWords])
  have hrl1 : rb < w1.heap.size := by omega
  unfold maxLen at hm
  have k0 := fun ob => (cell_alloc w1 ob hrl1).trans k0'
  have k1 := fun ob => (cell_alloc w1 ob hrl1).trans k1'
  have q1 := fun ob => (cell_alloc w1 ob (show b < w1.heap.size by omega)).trans q1'
  have f1 := fun ob => (frozen_alloc w1 ob hrl1).trans f1'
  have n1 : rb ≠ w1.heap.size := by omega
  have n2 : b ≠ w1.heap.size := by omega
  have n3 : b ≠ rb := by omega
  have n4 : w.heap.size ≠ w1.heap.size := by omega
  have n5 : rb ≠ w.heap.size := by omega
  clear hB hr hx k0' k1' q1' f1'
  go_wp2_with (fail)
  go_quiet (fail)
  go_wp2_with (fail)
  go_quiet (fail)
  go_wp2_with (fail)
  go_at_call 49
  refine (q_fail rb L en s _ (by repeat (first | with_reducible exact HR1.out | with_reducible refine RSt.setBack (s := s) ?_ | with_reducible refine RSt.setAt1 (s := s) ?_ | with_reducible refine RSt.drewN ?_ _ | with_reducible refine RSt.new ?_ _ | with_reducible refine RSt.setNew ?_ (by omega) _))).mono ?_
  rintro e w2 ⟨rfl, P, k⟩
  have hz2 := k.size
  try simp at hz2
  have kk : KB w.heap.size rb w w2 := by refine KB.trans ?_ (k.mono (by (try simp) <;> omega)); (repeat (first | with_reducible exact HK1.out | with_reducible refine KB.drewN ?_ _ | with_reducible refine KB.setP ?_ _ | with_reducible refine KB.setNew ?_ (by omega) _ | with_reducible refine KB.alloc ?_ _ (by (try simp) <;> omega)))
  have hr2 : w2.heap[w.heap.size]? = some (.cells #[.int .u8 0, .slice none 0 0, .int .u8 0, .int .i64 0, .int .i64 0, .int .i64 0, .slice none 0 0, .int .i64 0] 43 (0, 0)) := ObjRow.keep k (by repeat (first | with_reducible exact Hhr.out | with_reducible refine row_drewN ?_ _ | with_reducible apply row8_0 | with_reducible apply row8_1 | with_reducible apply row8_2 | with_reducible apply row8_3 | with_reducible apply row8_4 | with_reducible apply row8_5 | with_reducible apply row8_6 | with_reducible apply row8_7 | with_reducible exact row_new _ _ _ (by simp) | with_reducible refine row_alloc ?_ _ | with_reducible refine row_other ?_ (by omega) _)) (by (try simp) <;> omega) (by omega)
  have hc2 : w2.heap[w1.heap.size]? = some (.cells #[.int .u8 0, .slice none 0 0, .int .u8 0, .int .i64 0, .int .i64 0, .int .i64 0, .slice none 0 0, .int .i64 o] 43 (0, 0)) := ObjRow.keep k (by repeat (first | with_reducible exact HNONE.out | with_reducible refine row_drewN ?_ _ | with_reducible apply row8_0 | with_reducible apply row8_1 | with_reducible apply row8_2 | with_reducible apply row8_3 | with_reducible apply row8_4 | with_reducible apply row8_5 | with_reducible apply row8_6 | with_reducible apply row8_7 | with_reducible exact row_new _ _ _ (by simp) | with_reducible refine row_alloc ?_ _ | with_reducible refine row_other ?_ (by omega) _)) (by (try simp) <;> omega) (by omega)
  have Hhr2 := Lib.hid hr2
  have HK2 := Lib.hid kk
  have HR2 := Lib.hid P
  obtain ⟨c0, c1, c2, c3, c4, c5, c6, c7⟩ := eight_cells hc2
  obtain ⟨z0, z1, z2, z3, z4, z5, z6, z7⟩ := eight_cells hr2
  obtain ⟨g0, g1, g2, g3, g4, g5, g6, g7⟩ := eight_frozen hr2
  clear k P kk hr2 hc2
  go_wp2_with (fail)
  refine ret8 (i := 2) (b := w.heap.size) rfl rfl rfl (row_store8 Hhr2.out (.int .u8 0) (.slice none 0 0) (.int .u8 0) (.int .i64 0) (.int .i64 0) (.int .i64 0) (.slice none 0 0) (.int .i64 o)) ⟨_, rfl, ⟨_, _, rfl, StrSl.nil _ _, ClSl.nil _ _⟩, ?_, ?_⟩
  · repeat (first | with_reducible exact HR2.out | with_reducible refine RSt.setNew ?_ (by omega) _)
  · repeat (first | with_reducible exact HK2.out | with_reducible refine KB.setNew ?_ (by omega) _)

set_option maxHeartbeats 40000000 in
theorem q_clause_none (rb : Nat) (L : List Tok) (hL : L.length ≤ 5000) (en : Int) (s : QS) (w : World) (h : RSt w rb L en s) (hlt : s.at_ < L.length) (hx : NoneOf clauseWords L[s.at_].text) :
    Calls Tryz.prog 24 #[.pointer (some ⟨rb, 0, none⟩)] w (CMoved (.mk 0 [] 0 0 0 0 [] (offOf en (L.drop s.at_)), qFail L en s) rb L en w) := by
  have hfm : Tryz.prog.follows Departure.mixedOrders = true := by kernel_rfl
  have hrl := h.lt
  have H := Lib.hid h
  have i0 : (0 : Int) ≤ (s.at_ : Int) := Int.natCast_nonneg _
  have i1 : (s.at_ : Int) < (L.length : Int) := by omega
  have d1 : decide (s.at_ < L.length) = true := decide_eq_true hlt
  obtain ⟨o, ho⟩ : ∃ o, o = offOf en (L.drop s.at_) := ⟨_, rfl⟩
  rw [← ho]
  clear h
  go_enter Tryz.func24, Tryz.ntmps24
  go_wp2_with (fail)
  go_at_call 44
  refine (q_offset rb L en s _ (by exact H.out.new _)).mono ?_
  rw [← ho]
  clear ho
  rintro e w1 ⟨n, rfl, hw⟩
  have hB : Below w.heap.size w w1 := by rw [hw]; exact below_dN _ ((Below.refl _ _).alloc (Nat.le_refl _) _)
  have hr : w1.heap[w.heap.size]? = some (.cells #[.int .u8 0, .slice none 0 0, .int .u8 0, .int .i64 0, .int .i64 0, .int .i64 0, .slice none 0 0, .int .i64 0] 43 (0, 0)) := by rw [hw]; exact row_new _ _ _ rfl
  have hz1 : w.heap.size < w1.heap.size := by rw [hw]; simp
  clear hw
  have HR1 := Lib.hid (H.out.below hB)
  have HK1 := Lib.hid (KB.of_below (pb := rb) hB)
  have Hhr := Lib.hid hr
  obtain ⟨b, bo, bc, hc, hm, hbb, k0', -, q1', -⟩ := HR1.out.tok hlt
  obtain ⟨_, _, -, -, -, -, k1', -, -, -, f1', -⟩ := HR1.out.cells
  generalize L[s.at_].text = tx at q1' hx
  have dx0 : (tx.toList == [115, 101, 114, 118, 105, 99, 101]) = false := hx _ (by simp [clauseWords])
  have dx1 : (tx.toList == [119, 105, 110, 100, 111, 119]) = false := hx _ (by simp [clauseWords])
  have dx2 : (tx.toList == [97, 112, 112, 114, 111, 118, 101]) = false := hx _ (by simp [clauseWords])
  have dx3 : (tx.toList == [98, 108, 97, 115, 116]) = false := hx _ (by simp [clauseWords])
  have dx4 : (tx.toList == [99, 97, 112]) = false := hx _ (by simp [clauseWords])
  have hrl1 : rb < w1.heap.size := by omega
  unfold maxLen at hm
  have k0 := fun ob => (cell_alloc w1 ob hrl1).trans k0'
  have k1 := fun ob => (cell_alloc w1 ob hrl1).trans k1'
  have q1 := fun ob => (cell_alloc w1 ob (show b < w1.heap.size by omega)).trans q1'
  have f1 := fun ob => (frozen_alloc w1 ob hrl1).trans f1'
  have n1 : rb ≠ w1.heap.size := by omega
  have n2 : b ≠ w1.heap.size := by omega
  have n3 : b ≠ rb := by omega
  have n4 : w.heap.size ≠ w1.heap.size := by omega
  have n5 : rb ≠ w.heap.size := by omega
  clear hB hr hx k0' k1' q1' f1'
  go_wp2_with (fail)
  go_quiet (fail)
  go_wp2_with (fail)
  go_at_call 49
  refine (q_fail rb L en s _ (by repeat (first | with_reducible exact HR1.out | with_reducible refine RSt.setBack (s := s) ?_ | with_reducible refine RSt.setAt1 (s := s) ?_ | with_reducible refine RSt.drewN ?_ _ | with_reducible refine RSt.new ?_ _ | with_reducible refine RSt.setNew ?_ (by omega) _))).mono ?_
  rintro e w2 ⟨rfl, P, k⟩
  have hz2 := k.size
  try simp at hz2
  have kk : KB w.heap.size rb w w2 := by refine KB.trans ?_ (k.mono (by (try simp) <;> omega)); (repeat (first | with_reducible exact HK1.out | with_reducible refine KB.drewN ?_ _ | with_reducible refine KB.setP ?_ _ | with_reducible refine KB.setNew ?_ (by omega) _ | with_reducible refine KB.alloc ?_ _ (by (try simp) <;> omega)))
  have hr2 : w2.heap[w.heap.size]? = some (.cells #[.int .u8 0, .slice none 0 0, .int .u8 0, .int .i64 0, .int .i64 0, .int .i64 0, .slice none 0 0, .int .i64 0] 43 (0, 0)) := ObjRow.keep k (by repeat (first | with_reducible exact Hhr.out | with_reducible refine row_drewN ?_ _ | with_reducible apply row8_0 | with_reducible apply row8_1 | with_reducible apply row8_2 | with_reducible apply row8_3 | with_reducible apply row8_4 | with_reducible apply row8_5 | with_reducible apply row8_6 | with_reducible apply row8_7 | with_reducible exact row_new _ _ _ (by simp) | with_reducible refine row_alloc ?_ _ | with_reducible refine row_other ?_ (by omega) _)) (by (try simp) <;> omega) (by omega)
  have hc2 : w2.heap[w1.heap.size]? = some (.cells #[.int .u8 0, .slice none 0 0, .int .u8 0, .int .i64 0, .int .i64 0, .int .i64 0, .slice none 0 0, .int .i64 o] 43 (0, 0)) := ObjRow.keep k (by repeat (first | with_reducible exact HNONE.out | with_reducible refine row_drewN ?_ _ | with_reducible apply row8_0 | with_reducible apply row8_1 | with_reducible apply row8_2 | with_reducible apply row8_3 | with_reducible apply row8_4 | with_reducible apply row8_5 | with_reducible apply row8_6 | with_reducible apply row8_7 | with_reducible exact row_new _ _ _ (by simp) | with_reducible refine row_alloc ?_ _ | with_reducible refine row_other ?_ (by omega) _)) (by (try simp) <;> omega) (by omega)
  have Hhr2 := Lib.hid hr2
  have HK2 := Lib.hid kk
  have HR2 := Lib.hid P
  obtain ⟨c0, c1, c2, c3, c4, c5, c6, c7⟩ := eight_cells hc2
  obtain ⟨z0, z1, z2, z3, z4, z5, z6, z7⟩ := eight_cells hr2
  obtain ⟨g0, g1, g2, g3, g4, g5, g6, g7⟩ := eight_frozen hr2
  clear k P kk hr2 hc2
  go_wp2_with (fail)
  refine ret8 (i := 2) (b := w.heap.size) rfl rfl rfl (row_store8 Hhr2.out (.int .u8 0) (.slice none 0 0) (.int .u8 0) (.int .i64 0) (.int .i64 0) (.int .i64 0) (.slice none 0 0) (.int .i64 o)) ⟨_, rfl, ⟨_, _, rfl, StrSl.nil _ _, ClSl.nil _ _⟩, ?_, ?_⟩
  · repeat (first | with_reducible exact HR2.out | with_reducible refine RSt.setNew ?_ (by omega) _)
  · repeat (first | with_reducible exact HK2.out | with_reducible refine KB.setNew ?_ (by omega) _)
end Go.Proofs.YtfpcdgmdangmaaaGreatDoor

/- DERIVED. The reference's parser: apart, a loop that appends names. -/
namespace Go.Proofs.YtfpcdgmdangmaaaGreatDoor
open Go.RowKit
set_option maxRecDepth 100000

/-- A world as a letter: what is known of it. -/
theorem gen_world {P : Program} {c : Code} {Q : Exit → Act → World → Prop} {a : Act} {W : World} (F : World → Prop) (hF : F W) (h : ∀ W0, F W0 → c.wp P Q a W0) : c.wp P Q a W := h W hF
/-- What a loop of the reference's parser has left: 0 behind an error. -/
def leftQ (w : World) (rb : Nat) : Nat := match w.cell? ⟨rb, 0, none⟩, w.cell? ⟨rb, 1, none⟩, w.cell? ⟨rb, 3, none⟩ with
  | some (.slice _ n _), some (.int _ a), some (.int _ e) => if e = 0 then n + 1 - a.toNat else 0
  | _, _, _ => 0
def leftS (L : List Tok) (s : QS) : Nat := if s.e = 0 then L.length + 1 - s.at_ else 0
theorem RSt.left {w : World} {rb : Nat} {L : List Tok} {en : Int} {s : QS} (h : RSt w rb L en s) : leftQ w rb = leftS L s := by
  obtain ⟨A, c, -, -, -, k0, k1, -, k3, -⟩ := h.cells
  simp [leftQ, leftS, k0, k1, k3]
theorem RSt.grown {w w' : World} {rb : Nat} {L : List Tok} {en : Int} {s : QS} {row : Option Nat} (h : RSt w rb L en s) (hg : w.grownBy w' row) (hr : ∀ b, row = some b → rb < b) : RSt w' rb L en s :=
  h.stands fun b hb => hg.block b (by have := h.lt; omega) (fun e => by have := hr b e.symm; omega)
theorem KB.undrew2 {rb : Nat} {n : Nat} {a b : World} (h : KB n rb a.drew b) : KB n rb a b := ⟨h.os, h.tape, h.output, h.size, h.block⟩

/-- The fuel of a loop is enough. -/
def Fuel (L : List Tok) (n : Nat) (s : QS) : Prop := 0 < n ∧ (s.e = 0 → s.at_ ≤ L.length ∧ L.length - s.at_ + 1 < n)
/-- Between two rounds of the loop of apart. -/
def QApRel (w : World) (rb cb : Nat) (L : List Tok) (en o : Int) (R0 : List ByteArray × QS) (wr : World) : Prop :=
  ∃ (n : Nat) (acc : List ByteArray) (s : QS) (v : Value), R0 = qLoop (fun s => !qIs L (fitLit ⟨#[44]⟩) s) (qOther L en) n acc s ∧ Fuel L n s ∧ acc.length + n ≤ 5010 ∧ RSt wr rb L en s ∧ KB w.heap.size rb w wr ∧
    wr.heap[w.heap.size]? = some (.cells #[.int .u8 0, .slice none 0 0, .int .u8 0, .int .i64 0, .int .i64 0, .int .i64 0, .slice none 0 0, .int .i64 0] 43 (0, 0)) ∧
    wr.heap[cb]? = some (.cells #[.int .u8 10, v, .int .u8 0, .int .i64 0, .int .i64 0, .int .i64 0, .slice none 0 0, .int .i64 o] 43 (0, 0)) ∧
    wr.ownsRow w.heap.size 9 1 v acc.length (acc.map .string)
theorem infoStr2 : (Tryz.prog.info? 9).map (fun i => (i.zero, i.size, i.bytes)) = some (some (.string ⟨#[]⟩), 1, 16) := by kernel_rfl
theorem strong_name_lt {l : List Tok} {x : ByteArray} {r : List Tok} (h : pName l = .ok (x, r)) : r.length < l.length := (takes_bind (takes_next fitName) (fun t => falls_ok t.text)) l x r h
theorem name_fuel {L : List Tok} {en : Int} {n : Nat} {s : QS} (h : s.e = 0) (hl : s.at_ < L.length) (hf : Fuel L (n + 1) s) : Fuel L n (qOther L en s).2 ∧ leftS L (qOther L en s).2 < leftS L s := by
  have h1 := (sim_name L en).2 ⟨s.at_ + 1, s.e, s.off⟩ h hl
  obtain ⟨h2, h3⟩ := hf
  have h3 := h3 h
  unfold leftS Fuel qOther
  rw [if_pos h]
  cases e : pName (L.drop (s.at_ + 1)) with
  | error r =>
    rw [e] at h1
    rw [if_neg (by rw [h1.1]; decide)]
    exact ⟨⟨by omega, fun c => absurd (h1.1.symm.trans c) (by decide)⟩, by omega⟩
  | ok x =>
    obtain ⟨x, r⟩ := x
    rw [e] at h1
    obtain ⟨_, h4, h5, h6⟩ := h1
    have h7 := strong_name_lt e
    rw [← h6] at h7
    simp only [List.length_drop] at h7
    rw [if_pos h4]
    exact ⟨⟨by omega, fun _ => ⟨h5, by omega⟩⟩, by omega⟩

set_option maxHeartbeats 40000000 in
theorem q_item_apart (rb : Nat) (L : List Tok) (hL : L.length ≤ 5000) (en : Int) (s : QS) (w : World) (h : RSt w rb L en s) (hlt : s.at_ < L.length) (hx : L[s.at_].text = ⟨#[97, 112, 97, 114, 116]⟩) :
    Calls Tryz.prog 84 #[.pointer (some ⟨rb, 0, none⟩)] w (CMoved (qApart L en (offOf en (L.drop s.at_)) ⟨s.at_ + 1, s.e, s.off⟩) rb L en w) := by
  have hfm : Tryz.prog.follows Departure.mixedOrders = true := by kernel_rfl
  obtain ⟨i0', hi, hz0, hz1', hz2⟩ := info_parts infoStr2
  have hrl := h.lt
  have H := Lib.hid h
  have i0 : (0 : Int) ≤ (s.at_ : Int) := Int.natCast_nonneg _
  have i1 : (s.at_ : Int) < (L.length : Int) := by omega
  have d1 : decide (s.at_ < L.length) = true := decide_eq_true hlt
  obtain ⟨o, ho⟩ : ∃ o, o = offOf en (L.drop s.at_) := ⟨_, rfl⟩
  rw [← ho]
  obtain ⟨R0, hR0⟩ : ∃ R0, R0 = qNames L en ⟨s.at_ + 1, s.e, s.off⟩ := ⟨_, rfl⟩
  unfold qApart
  rw [← hR0]
  have HR0 := Lib.hid hR0
  clear h hR0
  go_enter Tryz.func84, Tryz.ntmps84
  go_wp2_with (fail)
  go_at_call 44
  refine (q_offset rb L en s _ (by exact H.out.new _)).mono ?_
  rw [← ho]
  clear ho
  rintro e w1 ⟨n, rfl, hw⟩
  have hB : Below w.heap.size w w1 := by rw [hw]; exact below_dN _ ((Below.refl _ _).alloc (Nat.le_refl _) _)
  have hr : w1.heap[w.heap.size]? = some (.cells #[.int .u8 0, .slice none 0 0, .int .u8 0, .int .i64 0, .int .i64 0, .int .i64 0, .slice none 0 0, .int .i64 0] 43 (0, 0)) := by rw [hw]; exact row_new _ _ _ rfl
  have hz1 : w.heap.size < w1.heap.size := by rw [hw]; simp
  clear hw
  have HR1 := Lib.hid (H.out.below hB)
  have HK1 := Lib.hid (KB.of_below (pb := rb) hB)
  obtain ⟨z0, z1, z2, z3, z4, z5, z6, z7⟩ := eight_cells hr
  obtain ⟨g0, g1, g2, g3, g4, g5, g6, g7⟩ := eight_frozen hr
  have Hhr := Lib.hid hr
  obtain ⟨b, bo, bc, hc, hm, hbb, k0', -, q1', -⟩ := HR1.out.tok hlt
  rw [hx] at q1'
  obtain ⟨_, _, -, -, -, -, k1', -, -, -, f1', -⟩ := HR1.out.cells
  have hrl1 : rb < w1.heap.size := by omega
  unfold maxLen at hm
  have k0 := fun ob => (cell_alloc w1 ob hrl1).trans k0'
  have k1 := fun ob => (cell_alloc w1 ob hrl1).trans k1'
  have q1 := fun ob => (cell_alloc w1 ob (show b < w1.heap.size by omega)).trans q1'
  have f1 := fun ob => (frozen_alloc w1 ob hrl1).trans f1'
  have n1 : rb ≠ w1.heap.size := by omega
  have n2 : b ≠ w1.heap.size := by omega
  have n3 : b ≠ rb := by omega
  have n4 : w.heap.size ≠ w1.heap.size := by omega
  have n5 : rb ≠ w.heap.size := by omega
  have HX := Lib.hid hx
  clear hB hr hx k0' k1' q1' f1'
  go_wp2_with (fail)
  go_quiet (fail)
  go_wp2_with (fail)
  go_quiet (fail)
  go_wp2_with (fail)
  refine gen_world (fun W0 => RSt W0 rb L en ⟨s.at_ + 1, s.e, s.off⟩ ∧ KB w.heap.size rb w W0 ∧ W0.heap[w.heap.size]? = some (.cells #[.int .u8 0, .slice none 0 0, .int .u8 0, .int .i64 0, .int .i64 0, .int .i64 0, .slice none 0 0, .int .i64 0] 43 (0, 0)) ∧ W0.heap[w1.heap.size]? = some (.cells #[.int .u8 10, .slice none 0 0, .int .u8 0, .int .i64 0, .int .i64 0, .int .i64 0, .slice none 0 0, .int .i64 o] 43 (0, 0)) ∧ w1.heap.size < W0.heap.size) ⟨(by repeat (first | with_reducible exact HR1.out | with_reducible refine RSt.setAt1 (s := s) ?_ | with_reducible refine RSt.drewN ?_ _ | with_reducible refine RSt.new ?_ _ | with_reducible refine RSt.setNew ?_ (by omega) _)), by (repeat (first | with_reducible exact HK1.out | with_reducible refine KB.drewN ?_ _ | with_reducible refine KB.setP ?_ _ | with_reducible refine KB.setNew ?_ (by omega) _ | with_reducible refine KB.alloc ?_ _ (by (try simp) <;> omega))), (by repeat (first | with_reducible exact Hhr.out | with_reducible refine row_drewN ?_ _ | with_reducible apply row8_0 | with_reducible apply row8_1 | with_reducible apply row8_2 | with_reducible apply row8_3 | with_reducible apply row8_4 | with_reducible apply row8_5 | with_reducible apply row8_6 | with_reducible apply row8_7 | with_reducible exact row_new _ _ _ (by simp) | with_reducible refine row_alloc ?_ _ | with_reducible refine row_other ?_ (by omega) _)), (by repeat (first | with_reducible exact HNONE.out | with_reducible refine row_drewN ?_ _ | with_reducible apply row8_0 | with_reducible apply row8_1 | with_reducible apply row8_2 | with_reducible apply row8_3 | with_reducible apply row8_4 | with_reducible apply row8_5 | with_reducible apply row8_6 | with_reducible apply row8_7 | with_reducible exact row_new _ _ _ (by simp) | with_reducible refine row_alloc ?_ _ | with_reducible refine row_other ?_ (by omega) _)), by (try simp) <;> omega⟩ ?_
  rintro W0 ⟨P0, K0, hr0, hc0, hzW⟩
  clear k0 k1 q1 f1 HX HR1 HK1 Hhr
  obtain ⟨c0, c1, c2, c3, c4, c5, c6, c7⟩ := eight_cells hc0
  obtain ⟨f0, f1, f2, f3, f4, f5, f6, f7⟩ := eight_frozen hc0
  have hfu : Fuel L (L.length + 3) (qName L en ⟨s.at_ + 1, s.e, s.off⟩).2 := by
    refine ⟨by omega, fun he => ?_⟩
    by_cases hse : s.e = 0
    · have h1 := (sim_name L en).2 ⟨s.at_ + 1, s.e, s.off⟩ hse hlt
      simp only at h1
      cases e : pName (L.drop (s.at_ + 1)) with
      | error r => rw [e] at h1; exact absurd (h1.1.symm.trans he) (by decide)
      | ok x => obtain ⟨x, r⟩ := x; rw [e] at h1; exact ⟨h1.2.2.1, by omega⟩
    · exact absurd (((sim_name L en).1 ⟨s.at_ + 1, s.e, s.off⟩ hse).1.symm.trans he) hse
  have HFU := Lib.hid hfu
  have HP0 := Lib.hid P0
  have HK0 := Lib.hid K0
  have Hhr0 := Lib.hid hr0
  have Hhc0 := Lib.hid hc0
  clear P0 K0 hr0 hc0 hfu
  go_region_law (first | (go_simp; go_at_call 82; refine (q_name rb L hL en ⟨s.at_ + 1, s.e, s.off⟩ _ (by exact HP0.out.drew)).mono ?_; rintro e w4 ⟨rfl, P, k'⟩; have k := KB.undrew k'; have hz4 := k.size; have hcl4 : w1.heap.size < w4.heap.size := (by omega); have K4 := Lib.hid (HK0.out.trans (k.mono (by have := HK0.out.size; omega))); have HP4 := Lib.hid P; have hc4 := ObjRow.keep k Hhc0.out (by omega) (by omega); have Hhr4 := Lib.hid (ObjRow.keep k Hhr0.out (by omega) (by omega)); have Hhc4 := Lib.hid hc4; obtain ⟨d0, d1', d2, d3, d4, d5, d6, d7⟩ := eight_cells hc4; clear k k' P hc4) | (refine step_append_lies _ rfl (.tmp 65) (.tmp 68) 40 rfl w.heap.size 9 i0' (.string ⟨#[]⟩) 1 16 Tryz.underlying40 hi hz0 hz1' hz2 rfl (by decide) (.slice none 0 0) 0 [] (by simp [Act.eval, Act.put]) (World.ownsRow_nil _ _ _ _) ⟨w4.heap.size, 0, none⟩ 1 1 [.string (qName L en ⟨s.at_ + 1, s.e, s.off⟩).1] (by simp [Act.eval, Act.put]) rfl (cell_one_new _ _ _) (by intro u hu; simp at hu; subst hu; rfl) (by omega) (by simp only [maxLen]; omega) (by omega) (by (try simp) <;> omega) _ rfl ?_; intro g cap w5 hown5 hgrow hat hlt5; have hc5 := (hgrow.block w1.heap.size (by (try simp) <;> omega) (by simp [Value.ownBlock])).trans (row_alloc Hhc4.out _); obtain ⟨e0, e1, e2, e3, e4, e5, e6, e7⟩ := eight_cells hc5; obtain ⟨g0', g1', g2', g3', g4', g5', g6', g7'⟩ := eight_frozen hc5; have Hhc5 := Lib.hid hc5; clear hc5))
  all_goals go_wp2_with (fail)
  all_goals (
    have hP5 := (HP4.out.new (.cells #[.string (qName L en ⟨s.at_ + 1, s.e, s.off⟩).1] 9)).grown hgrow (fun b e => by simp [Value.ownBlock] at e)
    have hP6 := hP5.setNew (j := 1) (B := w1.heap.size) (by omega) (.slice (some ⟨g, 0, none⟩) 1 cap)
    have hK6 := ((K4.out.alloc (.cells #[.string (qName L en ⟨s.at_ + 1, s.e, s.off⟩).1] 9) (by omega)).grownStep hgrow (by (try simp) <;> omega) (fun b e => by simp [Value.ownBlock] at e)).setNew (j := 1) (B := w1.heap.size) (by omega) (.slice (some ⟨g, 0, none⟩) 1 cap)
    have hr6 := row_other ((hgrow.block w.heap.size (by (try simp) <;> omega) (by simp [Value.ownBlock])).trans (row_alloc Hhr4.out _)) (by omega : w.heap.size ≠ w1.heap.size) (i := 1) (.slice (some ⟨g, 0, none⟩) 1 cap)
    have hc6 := row8_1 Hhc5.out (.slice (some ⟨g, 0, none⟩) 1 cap)
    have ho6 := ownsRow_move (w' := w5.setCell ⟨w1.heap.size, 1, none⟩ (.slice (some ⟨g, 0, none⟩) 1 cap)) hown5 fun g' hg' => heap_setCell_ne _ _ (fun e => by subst e; exact ownsRow_typ hown5 Hhc5.out (by decide) hg')
    have HP6 := Lib.hid hP6
    have HK6 := Lib.hid hK6
    have Hhr6 := Lib.hid hr6
    have Hhc6 := Lib.hid hc6
    have Hho6 := Lib.hid ho6
    clear hP5 hP6 hK6 hr6 hc6 ho6
    go_loopw [72] (fun _ wr => QApRel w rb w1.heap.size L en o R0 wr) (fun _ wr => leftQ wr rb)
    case atStart => exact ⟨L.length + 3, [(qName L en ⟨s.at_ + 1, s.e, s.off⟩).1], (qName L en ⟨s.at_ + 1, s.e, s.off⟩).2, .slice (some ⟨g, 0, none⟩) 1 cap, HR0.out, HFU.out, by simp; omega, HP6.out, HK6.out, Hhr6.out, Hhc6.out, Hho6.out⟩
    case round =>
      obtain ⟨n, acc, s', v, hR, hF, hA, P, K, hr, hc, hown⟩ := hrel
      obtain ⟨vA, vn, vc, rfl⟩ := ownsRow_slice hown
      have hms := P.left
      have hzr := K.size
      have hcl : w1.heap.size < wr.heap.size := (Array.getElem?_eq_some_iff.1 hc).1
      have hpc : rb < wr.heap.size := P.lt
      obtain ⟨m, rfl⟩ : ∃ m, n = m + 1 := ⟨n - 1, by have := hF.1; omega⟩
      have HI := Lib.hid (q_is rb ⟨#[44]⟩ L en s' wr P)
      have Hms := Lib.hid hms
      have HP := Lib.hid P
      have HK := Lib.hid K
      have Hhr' := Lib.hid hr
      have Hhc' := Lib.hid hc
      have Hown := Lib.hid hown
      cases hq : qIs L (fitLit ⟨#[44]⟩) s' with
      | false =>
        have hst : R0 = (acc, s') := by rw [hR]; simp [qLoop, hq]
        have Hst := Lib.hid hst
        have Hq := Lib.hid hq
        clear hms P K hr hc hown hR hF hst hq
        go_wp2_with (go_at_call 83; refine HI.out.mono ?_; rintro e w2 ⟨nq2, rfl, rfl⟩; rw [Hq.out])
        go_at_call 48
        refine (q_take rb ⟨#[59]⟩ L hL en s' _ (by exact HP.out.drewN _)).mono ?_
        rintro e w3 ⟨rfl, P, k⟩
        have kk : KB w.heap.size rb w w3 := (HK.out.drewN _).trans (k.mono (by (try simp) <;> omega))
        have hr3 := ObjRow.keep k (row_drewN Hhr'.out _) (by (try simp) <;> omega) (by omega)
        have hc3 := ObjRow.keep k (row_drewN Hhc'.out _) (by (try simp) <;> omega) (by omega)
        have hown3 := ownsRow_move (w' := w3) Hown.out fun g' hg' => by
          have := Hown.out.lt g' hg'
          exact k.block g' (by (try simp) <;> omega) (fun e => by omega)
        have hnr := ownsRow_typ hown3 hr3 (by decide)
        obtain ⟨c0, c1, c2, c3, c4, c5, c6, c7⟩ := eight_cells hc3
        obtain ⟨f0, f1, f2, f3, f4, f5, f6, f7⟩ := eight_frozen hc3
        obtain ⟨z0, z1, z2, z3, z4, z5, z6, z7⟩ := eight_cells hr3
        obtain ⟨g0, g1, g2, g3, g4, g5, g6, g7⟩ := eight_frozen hr3
        have Hhr3 := Lib.hid hr3
        have HP3 := Lib.hid P
        have HK3 := Lib.hid kk
        have Hown3 := Lib.hid hown3
        have Hnr := Lib.hid hnr
        clear k P kk hr3 hc3 hown3 hnr
        go_wp2_with (fail)
        rw [Hst.out]
        refine ret8 (i := 2) (b := w.heap.size) rfl rfl rfl (row_store8 Hhr3.out (.int .u8 10) (.slice vA vn vc) (.int .u8 0) (.int .i64 0) (.int .i64 0) (.int .i64 0) (.slice none 0 0) (.int .i64 o)) ⟨_, rfl, ⟨_, _, rfl, ?_, ClSl.nil _ _⟩, ?_, ?_⟩
        · refine StrSl.of_own (ownsRow_move Hown3.out fun g' hg' => ?_) (Nat.le_refl _)
          have hgn : g' ≠ w.heap.size := fun e => Hnr.out (by rw [← e]; exact hg')
          simp only [heap_setCell_ne _ _ hgn]
        · repeat (first | with_reducible exact HP3.out | with_reducible refine RSt.setNew ?_ (by omega) _)
        · repeat (first | with_reducible exact HK3.out | with_reducible refine KB.setNew ?_ (by omega) _)
      | true =>
        obtain ⟨hse, hlt', -⟩ := (qGet_eq L en (fitLit ⟨#[44]⟩) (fun _ => ()) () s').2 hq
        have hst : R0 = qLoop (fun s => !qIs L (fitLit ⟨#[44]⟩) s) (qOther L en) m (acc ++ [(qOther L en s').1]) (qOther L en s').2 := by rw [hR]; simp [qLoop, hq]
        obtain ⟨hF2, hlf⟩ := name_fuel (en := en) hse hlt' hF
        have Hst := Lib.hid hst
        have Hq := Lib.hid hq
        have HF2 := Lib.hid hF2
        have Hlf := Lib.hid hlf
        obtain ⟨_, _, -, -, -, -, k1, -, -, -, f1, -⟩ := P.cells
        have i0'' : (0 : Int) ≤ (s'.at_ : Int) := Int.natCast_nonneg _
        have i1'' : (s'.at_ : Int) < (L.length : Int) := by omega
        clear hms P K hr hc hown hR hF hst hq hF2 hlf hse
        go_wp2_with (go_at_call 83; refine HI.out.mono ?_; rintro e w2 ⟨nq2, rfl, rfl⟩; rw [Hq.out])
        refine gen_world (fun W0 => RSt W0 rb L en ⟨s'.at_ + 1, s'.e, s'.off⟩ ∧ KB w.heap.size rb w W0 ∧ W0.heap[w.heap.size]? = some (.cells #[.int .u8 0, .slice none 0 0, .int .u8 0, .int .i64 0, .int .i64 0, .int .i64 0, .slice none 0 0, .int .i64 0] 43 (0, 0)) ∧ W0.heap[w1.heap.size]? = some (.cells #[.int .u8 10, .slice vA vn vc, .int .u8 0, .int .i64 0, .int .i64 0, .int .i64 0, .slice none 0 0, .int .i64 o] 43 (0, 0)) ∧ w1.heap.size < W0.heap.size ∧ W0.ownsRow w.heap.size 9 1 (.slice vA vn vc) acc.length (acc.map .string)) ⟨(HP.out.drewN _).setAt1, (HK.out.drewN _).setP _, row_other (row_drewN Hhr'.out _) (by omega) _, row_other (row_drewN Hhc'.out _) (by omega) _, by (try simp) <;> omega, ownsRow_move Hown.out fun g' hg' => (heap_setCell_ne _ _ (fun e => by have := (Hown.out.lt g' hg').1; omega))⟩ ?_
        rintro W0 ⟨P0, K0, hr0, hc0, hzW0, hown0⟩
        clear k1 f1 HP HK Hhr' Hhc' Hown HI
        have hvc := Lib.hid (ownsRow_typ hown0 hc0 (by decide))
        obtain ⟨c0, c1, c2, c3, c4, c5, c6, c7⟩ := eight_cells hc0
        obtain ⟨f0, f1, f2, f3, f4, f5, f6, f7⟩ := eight_frozen hc0
        have HP0' := Lib.hid P0
        have HK0' := Lib.hid K0
        have Hhr0' := Lib.hid hr0
        have Hhc0' := Lib.hid hc0
        have Hown0 := Lib.hid hown0
        clear P0 K0 hr0 hc0 hown0
        go_region_law (first | (go_simp; go_at_call 82; refine (q_name rb L hL en ⟨s'.at_ + 1, s'.e, s'.off⟩ _ (by exact HP0'.out.drew)).mono ?_; rintro e w4 ⟨rfl, P, k'⟩; have k := KB.undrew k'; have hz4 := k.size; have hcl4 : w1.heap.size < w4.heap.size := (by omega); have K4 := Lib.hid (HK0'.out.trans (k.mono (by have := HK0'.out.size; omega))); have HP4 := Lib.hid P; have hc4 := ObjRow.keep k Hhc0'.out (by omega) (by omega); have Hhr4 := Lib.hid (ObjRow.keep k Hhr0'.out (by omega) (by omega)); have Hown4 := Lib.hid (ownsRow_move (w' := w4) Hown0.out fun g' hg' => by have := Hown0.out.lt g' hg'; exact k.block g' (by omega) (fun e => by omega)); have Hhc4 := Lib.hid hc4; obtain ⟨d0, d1', d2, d3, d4, d5, d6, d7⟩ := eight_cells hc4; clear k k' P hc4) | (refine step_append_lies _ rfl (.tmp 81) (.tmp 84) 40 rfl w.heap.size 9 i0' (.string ⟨#[]⟩) 1 16 Tryz.underlying40 hi hz0 hz1' hz2 rfl (by decide) (.slice vA vn vc) acc.length (acc.map .string) (by simp [Act.eval, Act.put]) (Hown4.out.alloc _) ⟨w4.heap.size, 0, none⟩ 1 1 [.string (qOther L en s').1] (by simp [Act.eval, Act.put]) rfl (cell_one_new _ _ _) (by intro u hu; simp at hu; subst hu; rfl) (by omega) (by simp only [maxLen]; omega) (by omega) (by (try simp) <;> omega) _ rfl ?_; intro g cap w5 hown5 hgrow hat hlt5; have hc5 := (hgrow.block w1.heap.size (by (try simp) <;> omega) (fun e => hvc.out e.symm)).trans (row_alloc Hhc4.out _); obtain ⟨e0, e1, e2, e3, e4, e5, e6, e7⟩ := eight_cells hc5; obtain ⟨g0', g1', g2', g3', g4', g5', g6', g7'⟩ := eight_frozen hc5; have Hhc5 := Lib.hid hc5; clear hc5))
        all_goals go_wp2_with (fail)
        all_goals (
          have hrow : ∀ k, (Value.slice vA vn vc).ownBlock = some k → w.heap.size ≤ k := fun k e => (Hown4.out.lt k e).1
          have hP5 := (HP4.out.new (.cells #[.string (qOther L en s').1] 9)).grown hgrow (fun b e => by have := hrow b e; omega)
          have hP6 := hP5.setNew (j := 1) (B := w1.heap.size) (by omega) (.slice (some ⟨g, 0, none⟩) (acc.length + 1) cap)
          refine ⟨⟨m, acc ++ [(qOther L en s').1], (qOther L en s').2, .slice (some ⟨g, 0, none⟩) (acc.length + 1) cap, Hst.out, HF2.out, by simp; omega, hP6, ?_, ?_, ?_, ?_⟩, ?_⟩
          · exact ((K4.out.alloc _ (by omega)).grownStep hgrow (by (try simp) <;> omega) hrow).setNew (by omega) _
          · refine row_other ((hgrow.block w.heap.size (by (try simp) <;> omega) (fun e => ?_)).trans (row_alloc Hhr4.out _)) (by omega) _
            exact ownsRow_typ Hown4.out Hhr4.out (by decide) e.symm
          · exact row8_1 Hhc5.out _
          · rw [List.length_append, List.map_append]
            refine ownsRow_move hown5 fun g' hg' => heap_setCell_ne _ _ ?_
            intro e
            subst e
            exact ownsRow_typ hown5 Hhc5.out (by decide) hg'
          · rw [hP6.left, Hms.out]; exact Hlf.out))
end Go.Proofs.YtfpcdgmdangmaaaGreatDoor

/- DERIVED. The reference's parser: any item. -/
namespace Go.Proofs.YtfpcdgmdangmaaaGreatDoor
open Go.RowKit
set_option maxRecDepth 100000

theorem txt_eq {t : ByteArray} {l : List UInt8} (h : t.toList = l) : t = ⟨l.toArray⟩ := by
  rw [ByteArray.toList_eq] at h
  apply ByteArray.ext
  rw [← h]
theorem txt_eq2 {k t : ByteArray} (h : k.toList = t.toList) : t = k := by
  rw [ByteArray.toList_eq, ByteArray.toList_eq] at h
  apply ByteArray.ext
  apply Array.toList_inj.1
  exact h.symm
theorem byWord_some {L : List Tok} {en : Int} {tab : List (ByteArray × (Int → QS → Cl × QS))} {s : QS} (f : Int → QS → Cl × QS) (h : assocB (qWord L s) tab = some f) : qByWord L en tab s = f (offOf en (L.drop s.at_)) ⟨s.at_ + 1, s.e, s.off⟩ := by unfold qByWord; rw [h]
theorem byWord_none {L : List Tok} {en : Int} {tab : List (ByteArray × (Int → QS → Cl × QS))} {s : QS} (h : assocB (qWord L s) tab = none) : qByWord L en tab s = (.mk 0 [] 0 0 0 0 [] (offOf en (L.drop s.at_)), qFail L en s) := by unfold qByWord; rw [h]
theorem q_item (rb : Nat) (L : List Tok) (hL : L.length ≤ 5000) (en : Int) (s : QS) (w : World) (h : RSt w rb L en s) : Calls Tryz.prog 84 #[.pointer (some ⟨rb, 0, none⟩)] w (CMoved (qItem L en s) rb L en w) := by
  have hq := fun f (hf : assocB (qWord L s) (itemQ L en) = some f) => byWord_some (en := en) f hf
  have hq0 := fun (hf : assocB (qWord L s) (itemQ L en) = none) => byWord_none (en := en) hf
  unfold qItem
  by_cases hlt : s.at_ < L.length
  · have hw : qWord L s = L[s.at_].text := by unfold qWord; rw [List.getElem?_eq_getElem hlt]
    by_cases e0 : L[s.at_].text = ⟨#[99, 111, 114, 101, 115]⟩
    · have ha : assocB (qWord L s) (itemQ L en) = some (qCounted L en 6) := by rw [hw, e0]; simp [assocB, itemQ, ByteArray.toList_eq]
      rw [hq _ ha]
      exact q_item_cores rb L hL en s w h hlt e0
    · by_cases e1 : L[s.at_].text = ⟨#[114, 101, 112, 108, 105, 99, 97, 115]⟩
      · have ha : assocB (qWord L s) (itemQ L en) = some (qCounted L en 7) := by rw [hw, e1]; simp [assocB, itemQ, ByteArray.toList_eq]
        rw [hq _ ha]
        exact q_item_replicas rb L hL en s w h hlt e1
      · by_cases e2 : L[s.at_].text = ⟨#[108, 101, 97, 115, 116]⟩
        · have ha : assocB (qWord L s) (itemQ L en) = some (qCounted L en 8) := by rw [hw, e2]; simp [assocB, itemQ, ByteArray.toList_eq]
          rw [hq _ ha]
          exact q_item_least rb L hL en s w h hlt e2
        · by_cases e3 : L[s.at_].text = ⟨#[115, 112, 114, 101, 97, 100]⟩
          · have ha : assocB (qWord L s) (itemQ L en) = some (qSpread L en) := by rw [hw, e3]; simp [assocB, itemQ, ByteArray.toList_eq]
            rw [hq _ ha]
            exact q_item_spread rb L hL en s w h hlt e3
          · by_cases e4 : L[s.at_].text = ⟨#[97, 112, 97, 114, 116]⟩
            · have ha : assocB (qWord L s) (itemQ L en) = some (qApart L en) := by rw [hw, e4]; simp [assocB, itemQ, ByteArray.toList_eq]
              rw [hq _ ha]
              exact q_item_apart rb L hL en s w h hlt e4
            · by_cases e5 : L[s.at_].text = ⟨#[110, 101, 97, 114]⟩
              · have ha : assocB (qWord L s) (itemQ L en) = some (qNear L en) := by rw [hw, e5]; simp [assocB, itemQ, ByteArray.toList_eq]
                rw [hq _ ha]
                exact q_item_near rb L hL en s w h hlt e5
              · by_cases e6 : L[s.at_].text = ⟨#[102, 105, 114, 109, 119, 97, 114, 101]⟩
                · have ha : assocB (qWord L s) (itemQ L en) = some (qCounted L en 12) := by rw [hw, e6]; simp [assocB, itemQ, ByteArray.toList_eq]
                  rw [hq _ ha]
                  exact q_item_firmware rb L hL en s w h hlt e6
                · have hn : NoneOf itemWords L[s.at_].text := by
                    intro x hx
                    rw [beq_eq_false_iff_ne]
                    intro hxx
                    simp only [itemWords, List.mem_cons, List.not_mem_nil, or_false] at hx
                    rcases hx with rfl | rfl | rfl | rfl | rfl | rfl | rfl
                    · exact e0 (txt_eq hxx)
                    · exact e1 (txt_eq hxx)
                    · exact e2 (txt_eq hxx)
                    · exact e3 (txt_eq hxx)
                    · exact e4 (txt_eq hxx)
                    · exact e5 (txt_eq hxx)
                    · exact e6 (txt_eq hxx)
                  have ha : assocB (qWord L s) (itemQ L en) = none := by
                    rw [hw]
                    simp only [assocB, itemQ]
                    rw [if_neg (fun c => e0 (txt_eq2 c))]
                    rw [if_neg (fun c => e1 (txt_eq2 c))]
                    rw [if_neg (fun c => e2 (txt_eq2 c))]
                    rw [if_neg (fun c => e3 (txt_eq2 c))]
                    rw [if_neg (fun c => e4 (txt_eq2 c))]
                    rw [if_neg (fun c => e5 (txt_eq2 c))]
                    rw [if_neg (fun c => e6 (txt_eq2 c))]
                  rw [hq0 ha]
                  exact q_item_none rb L hL en s w h hlt hn
  · have ha : assocB (qWord L s) (itemQ L en) = none := by
      have hw : qWord L s = ⟨#[]⟩ := by unfold qWord; rw [List.getElem?_eq_none (by omega)]
      rw [hw]; simp [assocB, itemQ, ByteArray.toList_eq]
    rw [hq0 ha]
    exact q_item_end rb L hL en s w h (by omega)
end Go.Proofs.YtfpcdgmdangmaaaGreatDoor
