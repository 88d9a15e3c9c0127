/-
  DERIVED. fits, some of its ways.
-/
import Derived.Test.YtplnnpkohdmiaaaGreatDoorYFAm
set_option linter.unusedVariables false
set_option linter.unusedSimpArgs false
namespace Go.Proofs.YtplnnpkohdmiaaaGreatDoor
open Go.RowKit
set_option maxRecDepth 100000
set_option linter.unusedSimpArgs false

set_option maxHeartbeats 8000000 in
theorem fitsP9b (s : Shp) (c : Cl) (hc : c.own) (vn vi : Value) (ok : Nat → Prop) (w : World) (ht : Tab w) (hn : StrSl w ok vn c.names) (hi : ClSl w ok vi c.items)
    (dL1 : decide ((c.names.length : Int) ≤ s.names) = true)
    (dL2 : decide (min 1 s.names ≤ (c.names.length : Int)) = true)
    (hA : c.names.all isNameB = true)
    (hD : (scB c.dom).toList.isEmpty = true)
    (eD : s.dom = false)
    (hE : (c.dom == 0) = true)
    (hN1 : fitNumB c.idx s.idx = true)
    (hN2 : fitNumB c.a s.a = true)
    (hN3 : fitNumB c.b s.b = true)
    (eS : s.items = true) :
    Calls Tryz.prog 22 #[s.val, .agg #[.int .u8 c.kind, vn, .int .u8 c.dom, .int .i64 c.idx, .int .i64 c.a, .int .i64 c.b, vi, .int .i64 c.off]] w fun e w' => e = .returned (.bool (fitsB s c)) ∧ Below w.heap.size w w' := by
  obtain ⟨⟨i0, i1⟩, ⟨a0, a1⟩, ⟨b0, b1⟩, hz⟩ := hc
  obtain ⟨A1, p1, rfl, hn2, hn3, -⟩ := id hn
  obtain ⟨A2, p2, rfl, hi2, hi3, -⟩ := id hi
  unfold fitsB
  obtain ⟨sn, sd, si, sa, sb, st⟩ := s
  dsimp only [Shp.val] at *
  obtain ⟨W0, hW0⟩ : ∃ W0, W0 = (w.alloc (.cells #[.int .i64 sn, .bool sd, .bool si, .bool sa, .bool sb, .bool st] 48)).alloc (.cells #[.int .u8 c.kind, .slice A1 c.names.length p1, .int .u8 c.dom, .int .i64 c.idx, .int .i64 c.a, .int .i64 c.b, .slice A2 c.items.length p2, .int .i64 c.off] 36) := ⟨_, rfl⟩
  have HB := Lib.hid (show Below w.heap.size w W0 from by rw [hW0]; exact ((Below.refl w.heap.size w).alloc (Nat.le_refl _) _).alloc (by simp) _)
  have HT := Lib.hid (show Tab W0 from by rw [hW0]; exact (ht.alloc _).alloc _)
  have Hn := Lib.hid (hn.below HB.out)
  have hsz : W0.heap.size = w.heap.size + 2 := by rw [hW0]; simp
  obtain ⟨ι, F, hF, hall⟩ := family W0.heap.size W0
  have hne : Nonempty ι := (hall _ (Below.refl _ _)).elim fun i _ => ⟨i⟩
  have cS := fun i => six_cells (((hF i).block w.heap.size (by omega)).trans (show W0.heap[w.heap.size]? = some (.cells #[.int .i64 sn, .bool sd, .bool si, .bool sa, .bool sb, .bool st] 48) from by rw [hW0]; exact row_alloc (row_new _ _ _ rfl) _))
  have cC := fun i => eight_cells (((hF i).block (w.heap.size + 1) (by omega)).trans (show W0.heap[w.heap.size + 1]? = some (.cells #[.int .u8 c.kind, .slice A1 c.names.length p1, .int .u8 c.dom, .int .i64 c.idx, .int .i64 c.a, .int .i64 c.b, .slice A2 c.items.length p2, .int .i64 c.off] 36) from by rw [hW0]; exact row_new _ _ _ (by simp)))
  have hszF : ∀ i, W0.heap.size ≤ (F i).heap.size := fun i => (hF i).size
  have cA : ∀ i, Calls Tryz.prog 42 #[.slice A1 c.names.length p1, .func (.func 43) #[] #[]] (F i) fun e w'' => e = .returned (.bool (c.names.all isNameB)) ∧ ∃ j, w'' = F j := fun i => Calls.fam hall (hF i) (hszF i) (c_allS _ _ ok hz _ (Hn.out.below (hF i)))
  have cD : ∀ i, Calls Tryz.prog 35 #[.int .u8 c.dom] (F i) fun e w'' => e = .returned (.string (scB c.dom)) ∧ ∃ j, w'' = F j := fun i => (c_scopeOf _ _).mono fun e w' ⟨he, hw⟩ => ⟨he, ⟨i, hw⟩⟩
  have cN1 : ∀ i, Calls Tryz.prog 44 #[.int .i64 c.idx, .bool si] (F i) fun e w'' => e = .returned (.bool (fitNumB c.idx si)) ∧ ∃ j, w'' = F j := fun i => Calls.fam hall (hF i) (hszF i) (c_fitsNumber _ _ i0 i1 _ (HT.out.on (hF i)))
  have cN2 : ∀ i, Calls Tryz.prog 44 #[.int .i64 c.a, .bool sa] (F i) fun e w'' => e = .returned (.bool (fitNumB c.a sa)) ∧ ∃ j, w'' = F j := fun i => Calls.fam hall (hF i) (hszF i) (c_fitsNumber _ _ a0 a1 _ (HT.out.on (hF i)))
  have cN3 : ∀ i, Calls Tryz.prog 44 #[.int .i64 c.b, .bool sb] (F i) fun e w'' => e = .returned (.bool (fitNumB c.b sb)) ∧ ∃ j, w'' = F j := fun i => Calls.fam hall (hF i) (hszF i) (c_fitsNumber _ _ b0 b1 _ (HT.out.on (hF i)))
  have HF := Lib.hid hF
  have Hall := Lib.hid hall
  simp only [forall_and] at cS cC
  obtain ⟨s0, s1, s2, s3, s4, s5⟩ := cS
  obtain ⟨k0, k1, k2, k3, k4, k5, k6, k7⟩ := cC
  clear hF hall hz hn hi ht hszF
  subst eD
  subst eS
  rw [hA] at cA
  rw [hN1] at cN1
  rw [hN2] at cN2
  rw [hN3] at cN3
  have HA := Lib.hid cA
  have HD := Lib.hid cD
  have HN1 := Lib.hid cN1
  have HN2 := Lib.hid cN2
  have HN3 := Lib.hid cN3
  clear cA cD cN1 cN2 cN3
  go_enter Tryz.func22, Tryz.ntmps22
  go_wp2_with (fail)
  simp only [List.append_eq, List.cons_append, List.nil_append]
  refine wp_region_quiet_F F (by kernel_rfl) (by kernel_rfl) (Hall.out _ ?_) ?_
  · rw [hW0]; exact (Below.refl _ _).drew
  clear hW0
  repeat (go_big_quiet_step (first | with_reducible exact HA.out _ | with_reducible exact HD.out _ | with_reducible exact HN1.out _ | with_reducible exact HN2.out _ | with_reducible exact HN3.out _))
  all_goals refine wpQuiet_nil ?_
  all_goals rintro _ ⟨i, rfl⟩
  all_goals go_wp2_with (fail)
  all_goals go_ret
  all_goals exact ⟨ret_bool (by simp [neNil, dL1, dL2, hA, hD, hE, hN1, hN2, hN3]), HB.out.trans ((HF.out i).mono (by omega))⟩

set_option maxHeartbeats 8000000 in
theorem fitsP10b (s : Shp) (c : Cl) (hc : c.own) (vn vi : Value) (ok : Nat → Prop) (w : World) (ht : Tab w) (hn : StrSl w ok vn c.names) (hi : ClSl w ok vi c.items)
    (dL1 : decide ((c.names.length : Int) ≤ s.names) = true)
    (dL2 : decide (min 1 s.names ≤ (c.names.length : Int)) = true)
    (hA : c.names.all isNameB = true)
    (hD : (scB c.dom).toList.isEmpty = true)
    (eD : s.dom = false)
    (hE : (c.dom == 0) = true)
    (hN1 : fitNumB c.idx s.idx = true)
    (hN2 : fitNumB c.a s.a = true)
    (hN3 : fitNumB c.b s.b = true)
    (eS : s.items = false)
    (hI : ((c.items.length : Int) == 0) = false) :
    Calls Tryz.prog 22 #[s.val, .agg #[.int .u8 c.kind, vn, .int .u8 c.dom, .int .i64 c.idx, .int .i64 c.a, .int .i64 c.b, vi, .int .i64 c.off]] w fun e w' => e = .returned (.bool (fitsB s c)) ∧ Below w.heap.size w w' := by
  obtain ⟨⟨i0, i1⟩, ⟨a0, a1⟩, ⟨b0, b1⟩, hz⟩ := hc
  obtain ⟨A1, p1, rfl, hn2, hn3, -⟩ := id hn
  obtain ⟨A2, p2, rfl, hi2, hi3, -⟩ := id hi
  unfold fitsB
  obtain ⟨sn, sd, si, sa, sb, st⟩ := s
  dsimp only [Shp.val] at *
  obtain ⟨W0, hW0⟩ : ∃ W0, W0 = (w.alloc (.cells #[.int .i64 sn, .bool sd, .bool si, .bool sa, .bool sb, .bool st] 48)).alloc (.cells #[.int .u8 c.kind, .slice A1 c.names.length p1, .int .u8 c.dom, .int .i64 c.idx, .int .i64 c.a, .int .i64 c.b, .slice A2 c.items.length p2, .int .i64 c.off] 36) := ⟨_, rfl⟩
  have HB := Lib.hid (show Below w.heap.size w W0 from by rw [hW0]; exact ((Below.refl w.heap.size w).alloc (Nat.le_refl _) _).alloc (by simp) _)
  have HT := Lib.hid (show Tab W0 from by rw [hW0]; exact (ht.alloc _).alloc _)
  have Hn := Lib.hid (hn.below HB.out)
  have hsz : W0.heap.size = w.heap.size + 2 := by rw [hW0]; simp
  obtain ⟨ι, F, hF, hall⟩ := family W0.heap.size W0
  have hne : Nonempty ι := (hall _ (Below.refl _ _)).elim fun i _ => ⟨i⟩
  have cS := fun i => six_cells (((hF i).block w.heap.size (by omega)).trans (show W0.heap[w.heap.size]? = some (.cells #[.int .i64 sn, .bool sd, .bool si, .bool sa, .bool sb, .bool st] 48) from by rw [hW0]; exact row_alloc (row_new _ _ _ rfl) _))
  have cC := fun i => eight_cells (((hF i).block (w.heap.size + 1) (by omega)).trans (show W0.heap[w.heap.size + 1]? = some (.cells #[.int .u8 c.kind, .slice A1 c.names.length p1, .int .u8 c.dom, .int .i64 c.idx, .int .i64 c.a, .int .i64 c.b, .slice A2 c.items.length p2, .int .i64 c.off] 36) from by rw [hW0]; exact row_new _ _ _ (by simp)))
  have hszF : ∀ i, W0.heap.size ≤ (F i).heap.size := fun i => (hF i).size
  have cA : ∀ i, Calls Tryz.prog 42 #[.slice A1 c.names.length p1, .func (.func 43) #[] #[]] (F i) fun e w'' => e = .returned (.bool (c.names.all isNameB)) ∧ ∃ j, w'' = F j := fun i => Calls.fam hall (hF i) (hszF i) (c_allS _ _ ok hz _ (Hn.out.below (hF i)))
  have cD : ∀ i, Calls Tryz.prog 35 #[.int .u8 c.dom] (F i) fun e w'' => e = .returned (.string (scB c.dom)) ∧ ∃ j, w'' = F j := fun i => (c_scopeOf _ _).mono fun e w' ⟨he, hw⟩ => ⟨he, ⟨i, hw⟩⟩
  have cN1 : ∀ i, Calls Tryz.prog 44 #[.int .i64 c.idx, .bool si] (F i) fun e w'' => e = .returned (.bool (fitNumB c.idx si)) ∧ ∃ j, w'' = F j := fun i => Calls.fam hall (hF i) (hszF i) (c_fitsNumber _ _ i0 i1 _ (HT.out.on (hF i)))
  have cN2 : ∀ i, Calls Tryz.prog 44 #[.int .i64 c.a, .bool sa] (F i) fun e w'' => e = .returned (.bool (fitNumB c.a sa)) ∧ ∃ j, w'' = F j := fun i => Calls.fam hall (hF i) (hszF i) (c_fitsNumber _ _ a0 a1 _ (HT.out.on (hF i)))
  have cN3 : ∀ i, Calls Tryz.prog 44 #[.int .i64 c.b, .bool sb] (F i) fun e w'' => e = .returned (.bool (fitNumB c.b sb)) ∧ ∃ j, w'' = F j := fun i => Calls.fam hall (hF i) (hszF i) (c_fitsNumber _ _ b0 b1 _ (HT.out.on (hF i)))
  have HF := Lib.hid hF
  have Hall := Lib.hid hall
  simp only [forall_and] at cS cC
  obtain ⟨s0, s1, s2, s3, s4, s5⟩ := cS
  obtain ⟨k0, k1, k2, k3, k4, k5, k6, k7⟩ := cC
  clear hF hall hz hn hi ht hszF
  subst eD
  subst eS
  rw [hA] at cA
  rw [hN1] at cN1
  rw [hN2] at cN2
  rw [hN3] at cN3
  have HA := Lib.hid cA
  have HD := Lib.hid cD
  have HN1 := Lib.hid cN1
  have HN2 := Lib.hid cN2
  have HN3 := Lib.hid cN3
  clear cA cD cN1 cN2 cN3
  go_enter Tryz.func22, Tryz.ntmps22
  go_wp2_with (fail)
  simp only [List.append_eq, List.cons_append, List.nil_append]
  refine wp_region_quiet_F F (by kernel_rfl) (by kernel_rfl) (Hall.out _ ?_) ?_
  · rw [hW0]; exact (Below.refl _ _).drew
  clear hW0
  repeat (go_big_quiet_step (first | with_reducible exact HA.out _ | with_reducible exact HD.out _ | with_reducible exact HN1.out _ | with_reducible exact HN2.out _ | with_reducible exact HN3.out _))
  all_goals refine wpQuiet_nil ?_
  all_goals rintro _ ⟨i, rfl⟩
  all_goals go_wp2_with (fail)
  all_goals go_ret
  all_goals exact ⟨ret_bool (by simp [neNil, dL1, dL2, hA, hD, hE, hN1, hN2, hN3, hI]), HB.out.trans ((HF.out i).mono (by omega))⟩

set_option maxHeartbeats 8000000 in
theorem fitsP11b (s : Shp) (c : Cl) (hc : c.own) (vn vi : Value) (ok : Nat → Prop) (w : World) (ht : Tab w) (hn : StrSl w ok vn c.names) (hi : ClSl w ok vi c.items)
    (dL1 : decide ((c.names.length : Int) ≤ s.names) = true)
    (dL2 : decide (min 1 s.names ≤ (c.names.length : Int)) = true)
    (hA : c.names.all isNameB = true)
    (hD : (scB c.dom).toList.isEmpty = true)
    (eD : s.dom = false)
    (hE : (c.dom == 0) = true)
    (hN1 : fitNumB c.idx s.idx = true)
    (hN2 : fitNumB c.a s.a = true)
    (hN3 : fitNumB c.b s.b = true)
    (eS : s.items = false)
    (hI : ((c.items.length : Int) == 0) = true) :
    Calls Tryz.prog 22 #[s.val, .agg #[.int .u8 c.kind, vn, .int .u8 c.dom, .int .i64 c.idx, .int .i64 c.a, .int .i64 c.b, vi, .int .i64 c.off]] w fun e w' => e = .returned (.bool (fitsB s c)) ∧ Below w.heap.size w w' := by
  obtain ⟨⟨i0, i1⟩, ⟨a0, a1⟩, ⟨b0, b1⟩, hz⟩ := hc
  obtain ⟨A1, p1, rfl, hn2, hn3, -⟩ := id hn
  obtain ⟨A2, p2, rfl, hi2, hi3, -⟩ := id hi
  unfold fitsB
  obtain ⟨sn, sd, si, sa, sb, st⟩ := s
  dsimp only [Shp.val] at *
  obtain ⟨W0, hW0⟩ : ∃ W0, W0 = (w.alloc (.cells #[.int .i64 sn, .bool sd, .bool si, .bool sa, .bool sb, .bool st] 48)).alloc (.cells #[.int .u8 c.kind, .slice A1 c.names.length p1, .int .u8 c.dom, .int .i64 c.idx, .int .i64 c.a, .int .i64 c.b, .slice A2 c.items.length p2, .int .i64 c.off] 36) := ⟨_, rfl⟩
  have HB := Lib.hid (show Below w.heap.size w W0 from by rw [hW0]; exact ((Below.refl w.heap.size w).alloc (Nat.le_refl _) _).alloc (by simp) _)
  have HT := Lib.hid (show Tab W0 from by rw [hW0]; exact (ht.alloc _).alloc _)
  have Hn := Lib.hid (hn.below HB.out)
  have hsz : W0.heap.size = w.heap.size + 2 := by rw [hW0]; simp
  obtain ⟨ι, F, hF, hall⟩ := family W0.heap.size W0
  have hne : Nonempty ι := (hall _ (Below.refl _ _)).elim fun i _ => ⟨i⟩
  have cS := fun i => six_cells (((hF i).block w.heap.size (by omega)).trans (show W0.heap[w.heap.size]? = some (.cells #[.int .i64 sn, .bool sd, .bool si, .bool sa, .bool sb, .bool st] 48) from by rw [hW0]; exact row_alloc (row_new _ _ _ rfl) _))
  have cC := fun i => eight_cells (((hF i).block (w.heap.size + 1) (by omega)).trans (show W0.heap[w.heap.size + 1]? = some (.cells #[.int .u8 c.kind, .slice A1 c.names.length p1, .int .u8 c.dom, .int .i64 c.idx, .int .i64 c.a, .int .i64 c.b, .slice A2 c.items.length p2, .int .i64 c.off] 36) from by rw [hW0]; exact row_new _ _ _ (by simp)))
  have hszF : ∀ i, W0.heap.size ≤ (F i).heap.size := fun i => (hF i).size
  have cA : ∀ i, Calls Tryz.prog 42 #[.slice A1 c.names.length p1, .func (.func 43) #[] #[]] (F i) fun e w'' => e = .returned (.bool (c.names.all isNameB)) ∧ ∃ j, w'' = F j := fun i => Calls.fam hall (hF i) (hszF i) (c_allS _ _ ok hz _ (Hn.out.below (hF i)))
  have cD : ∀ i, Calls Tryz.prog 35 #[.int .u8 c.dom] (F i) fun e w'' => e = .returned (.string (scB c.dom)) ∧ ∃ j, w'' = F j := fun i => (c_scopeOf _ _).mono fun e w' ⟨he, hw⟩ => ⟨he, ⟨i, hw⟩⟩
  have cN1 : ∀ i, Calls Tryz.prog 44 #[.int .i64 c.idx, .bool si] (F i) fun e w'' => e = .returned (.bool (fitNumB c.idx si)) ∧ ∃ j, w'' = F j := fun i => Calls.fam hall (hF i) (hszF i) (c_fitsNumber _ _ i0 i1 _ (HT.out.on (hF i)))
  have cN2 : ∀ i, Calls Tryz.prog 44 #[.int .i64 c.a, .bool sa] (F i) fun e w'' => e = .returned (.bool (fitNumB c.a sa)) ∧ ∃ j, w'' = F j := fun i => Calls.fam hall (hF i) (hszF i) (c_fitsNumber _ _ a0 a1 _ (HT.out.on (hF i)))
  have cN3 : ∀ i, Calls Tryz.prog 44 #[.int .i64 c.b, .bool sb] (F i) fun e w'' => e = .returned (.bool (fitNumB c.b sb)) ∧ ∃ j, w'' = F j := fun i => Calls.fam hall (hF i) (hszF i) (c_fitsNumber _ _ b0 b1 _ (HT.out.on (hF i)))
  have HF := Lib.hid hF
  have Hall := Lib.hid hall
  simp only [forall_and] at cS cC
  obtain ⟨s0, s1, s2, s3, s4, s5⟩ := cS
  obtain ⟨k0, k1, k2, k3, k4, k5, k6, k7⟩ := cC
  clear hF hall hz hn hi ht hszF
  subst eD
  subst eS
  rw [hA] at cA
  rw [hN1] at cN1
  rw [hN2] at cN2
  rw [hN3] at cN3
  have HA := Lib.hid cA
  have HD := Lib.hid cD
  have HN1 := Lib.hid cN1
  have HN2 := Lib.hid cN2
  have HN3 := Lib.hid cN3
  clear cA cD cN1 cN2 cN3
  go_enter Tryz.func22, Tryz.ntmps22
  go_wp2_with (fail)
  simp only [List.append_eq, List.cons_append, List.nil_append]
  refine wp_region_quiet_F F (by kernel_rfl) (by kernel_rfl) (Hall.out _ ?_) ?_
  · rw [hW0]; exact (Below.refl _ _).drew
  clear hW0
  repeat (go_big_quiet_step (first | with_reducible exact HA.out _ | with_reducible exact HD.out _ | with_reducible exact HN1.out _ | with_reducible exact HN2.out _ | with_reducible exact HN3.out _))
  all_goals refine wpQuiet_nil ?_
  all_goals rintro _ ⟨i, rfl⟩
  all_goals go_wp2_with (fail)
  all_goals go_ret
  all_goals exact ⟨ret_bool (by simp [neNil, dL1, dL2, hA, hD, hE, hN1, hN2, hN3, hI]), HB.out.trans ((HF.out i).mono (by omega))⟩
end Go.Proofs.YtplnnpkohdmiaaaGreatDoor
