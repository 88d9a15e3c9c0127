/-
  DERIVED. Copy of the specification (stage 13).
-/
import Derived.Test.YtplncglgolhfaaaEQ
namespace Go.Proofs.Ytplncglgolhfaaa
open Go.RowKit
set_option maxRecDepth 100000
set_option linter.unusedVariables false
set_option linter.unusedSimpArgs false

theorem ret2w' {fn : Func} {a : Act} {W : World} {R : Ending → World → Prop} {b i : Nat} {x0 x1 : Value} (hfn : fn.results = #[.cell i 36]) (hp : a.tmps[i]?.getD undef = .pointer (some ⟨b, 0, none⟩)) (hd : a.defers = [])
    (h : W.heap[b]? = some (.cells #[x0, x1] 36 (0, 0))) (hR : R (.returned (.agg #[x0, x1])) W) : bodyPost Try.prog fn R .ret a W := by
  have c0 : W.cell? ⟨b, 0, none⟩ = some x0 := cell_of h rfl
  have c1 : W.cell? ⟨b, 1, none⟩ = some x1 := cell_of h rfl
  exact bodyPost_ret (v := .agg #[x0, x1]) (by simp [results, hfn, hp, go_sem, c0, c1]) hd hR
theorem OwnW.set {base g : Nat} {w : World} {p : WP} {d : WorldD} (h : OwnW base w p d) (hg : g < base) (x0 x1 : Value) : OwnW base ((w.setCell ⟨g, 0, none⟩ x0).setCell ⟨g, 1, none⟩ x1) p d :=
  ⟨ownsRow_setCell_below (ownsRow_setCell_below h.1 (a := ⟨g, 0, none⟩) hg _) (a := ⟨g, 1, none⟩) hg _, ownsRow_setCell_below (ownsRow_setCell_below h.2 (a := ⟨g, 0, none⟩) hg _) (a := ⟨g, 1, none⟩) hg _⟩
set_option maxHeartbeats 16000000 in
theorem c_Copy (p : WP) (d : WorldD) (hm : d.reps.length ≤ 1000) (hm2 : d.hosts.length ≤ 1000) (w : World) (h : WoAt w p d) :
    Calls Try.prog 25 #[.agg (woA p d)] w fun e w' => ∃ p', e = .returned (.agg (woA p' d)) ∧ OwnW w.heap.size w' p' d ∧ Below w.heap.size w w' := by
  unfold woA
  obtain ⟨ih, hih, hh0, hh1, hh2⟩ := info_parts hst_info
  obtain ⟨ir, hir, hr0, hr1, hr2⟩ := info_parts rep_info
  obtain ⟨W1, h1⟩ : ∃ W, W = w.alloc (.cells (woA p d) 36) := ⟨_, rfl⟩
  obtain ⟨W2, h2⟩ : ∃ W, W = W1.alloc (.cells #[.slice none 0 0, .slice none 0 0] 36) := ⟨_, rfl⟩
  obtain ⟨W, h3⟩ : ∃ W, W = W2.alloc (.cells #[.slice none 0 0, .slice none 0 0] 36) := ⟨_, rfl⟩
  obtain ⟨B0, b1, b2, b3⟩ := three_boxes h1 h2 h3
  have HB := Lib.hid B0
  have HW := Lib.hid (at_lt b3)
  have HF := Lib.hid (fun (X : World) (hX : Below (w.heap.size + 1 + 1) W X) => (⟨cell_of ((hX.block _ (by omega)).trans b1) rfl, cell_of ((hX.block _ (by omega)).trans b1) rfl, cell_of ((hX.block _ (by omega)).trans b2) rfl, cell_of ((hX.block _ (by omega)).trans b2) rfl, frz ((hX.block _ (by omega)).trans b2) 0, frz ((hX.block _ (by omega)).trans b2) 1⟩ : X.cell? ⟨w.heap.size, 0, none⟩ = some (.slice p.a1 d.hosts.length p.c1) ∧ X.cell? ⟨w.heap.size, 1, none⟩ = some (.slice p.a2 d.reps.length p.c2) ∧ X.cell? ⟨w.heap.size + 1, 0, none⟩ = some (.slice none 0 0) ∧ X.cell? ⟨w.heap.size + 1, 1, none⟩ = some (.slice none 0 0) ∧ X.frozen? ⟨w.heap.size + 1, 0, none⟩ = false ∧ X.frozen? ⟨w.heap.size + 1, 1, none⟩ = false))
  have HRB := Lib.hid (fun (X : World) (hX : Below (w.heap.size + 1 + 1) W X) => (hX.block _ (by omega)).trans b2)
  have HO := Lib.hid b3
  have H := Lib.hid (fun (X : World) (hX : Below w.heap.size w X) => h.on hX (Nat.le_refl _))
  have n1 := h.hosts.1; have n2 := h.hosts.2.1; have n3 := h.reps.1; have n4 := h.reps.2.1
  unfold maxLen at n2 n4
  have hA1 : p.a1 = none → d.hosts.length = 0 ∧ p.c1 = 0 := fun e => by have h1 := h.hosts; rw [e] at h1; have := h1.none_nil; exact ⟨by rw [this.1]; rfl, this.2⟩
  have hA2 : p.a2 = none → d.reps.length = 0 ∧ p.c2 = 0 := fun e => by have h1 := h.reps; rw [e] at h1; have := h1.none_nil; exact ⟨by rw [this.1]; rfl, this.2⟩
  have HA1 := Lib.hid hA1
  have HA2 := Lib.hid hA2
  obtain ⟨f0, f1, r0, r1, u0, u1⟩ := HF.out W (Below.refl _ _)
  have o0 : W.cell? ⟨w.heap.size + 1 + 1, 0, none⟩ = some (.slice none 0 0) := cell_of b3 rfl
  clear h B0 b1 b2 b3 hA1 hA2
  unfold woA at h1
  rw [h3, h2, h1] at f0 f1 r0 r1 u0 u1 o0
  generalize hA : w.heap.size = B at *
  go_enter Try.func25, Try.ntmps25
  go_wp2_with first
    | (at_builtin; rw [← h1, ← h2, ← h3]; clear h1 h2 h3 f0 f1 r0 r1 u0 u1 o0; refine wpList_append_any _ rfl _ _ 33 rfl W.heap.size 51 ih (.agg #[.int .u8 0, .int .i64 0]) 2 16 Try.underlying33 hih hh0 hh1 hh2 rfl (by omega) (.slice none 0 0) 0 [] rfl (World.ownsRow_nil _ _ _ _) p.a1 d.hosts.length p.c1 (cellsV 2 hstV d.hosts) rfl HA1.out (cellsV_len _) ((H.out W HB.out).hosts.cells (by omega)) (cellsV_one hst_one _) (by unfold maxLen; omega) (by omega) (Nat.le_refl _) ?_; intro z1 Z1 hown1 hgrow1; obtain ⟨A1, c1, rfl⟩ := own_shape hown1; have HK1 := Lib.hid ((Below.refl W.heap.size W).grown hgrow1 (Nat.le_refl _) (fun k hk => by cases hk)); have HO1 := Lib.hid (show Z1.ownsRow W.heap.size 51 2 (.slice A1 d.hosts.length c1) d.hosts.length (cellsV 2 hstV d.hosts) by simpa using hown1); clear hown1 hgrow1; have ob1 := box_on HO.out HK1.out (Nat.le_refl _); have o0 : Z1.cell? ⟨B + 1 + 1, 0, none⟩ = some (.slice none 0 0) := cell_of ob1 rfl; have q0 := frz ob1 0; obtain ⟨Y1, hY1⟩ : ∃ Y, Y = Z1.setCell ⟨B + 1 + 1, 0, none⟩ (.slice A1 d.hosts.length c1) := ⟨_, rfl⟩; have KZ1 : Below (B + 1 + 1) W Z1 := HK1.out.mono (by have := HW.out; omega); have KY1 := KZ1.setCell (p := ⟨B + 1 + 1, 0, none⟩) (Nat.le_refl _) (.slice A1 d.hosts.length c1); rw [← hY1] at KY1; have KY1 := Lib.hid KY1; clear KZ1; have OY1 := Lib.hid (show Y1.ownsRow W.heap.size 51 2 (.slice A1 d.hosts.length c1) d.hosts.length (cellsV 2 hstV d.hosts) by rw [hY1]; exact ownsRow_setCell_below HO1.out (a := ⟨B + 1 + 1, 0, none⟩) HW.out _); have BY1 := Lib.hid (show Y1.heap[B + 1 + 1]? = some (.cells #[.slice A1 d.hosts.length c1, .slice none 0 0] 36 (0, 0)) by rw [hY1]; exact set_field ob1 _); have SY1 := Lib.hid (show W.heap.size ≤ Y1.heap.size by rw [hY1]; simpa [World.setCell] using HK1.out.size); obtain ⟨f0, f1, -, -, -, -⟩ := HF.out Y1 KY1.out; have o1 : Y1.cell? ⟨B + 1 + 1, 1, none⟩ = some (.slice none 0 0) := cell_of BY1.out rfl; rw [hY1] at f0 f1 o1; have HE1 := Lib.hid hY1; clear ob1 hY1)
    | (at_builtin; rw [← HE1.out]; clear f0 f1 o1; refine wpList_append_any _ rfl _ _ 34 rfl Y1.heap.size 41 ir (.agg #[.int .i64 0, .int .i64 0]) 2 16 Try.underlying34 hir hr0 hr1 hr2 rfl (by omega) (.slice none 0 0) 0 [] rfl (World.ownsRow_nil _ _ _ _) p.a2 d.reps.length p.c2 (cellsV 2 repV d.reps) rfl HA2.out (cellsV_len _) ((H.out Y1 (below_join HB.out (KY1.out.mono (Nat.le_refl _)) (by have h1 := HB.out.size; have h2 := HW.out; omega))).reps.cells (by omega)) (cellsV_one rep_one _) (by unfold maxLen; omega) (by omega) (Nat.le_refl _) ?_; intro z2 Z2 hown2 hgrow2; obtain ⟨A2, c2, rfl⟩ := own_shape hown2; have HK2 := Lib.hid ((Below.refl Y1.heap.size Y1).grown hgrow2 (Nat.le_refl _) (fun k hk => by cases hk)); have HO2 := Lib.hid (show Z2.ownsRow Y1.heap.size 41 2 (.slice A2 d.reps.length c2) d.reps.length (cellsV 2 repV d.reps) by simpa using hown2); have OZ2 := Lib.hid (own_on OY1.out HK2.out (Nat.le_refl _)); clear hown2 hgrow2; have ob2 := box_on BY1.out HK2.out (Nat.le_refl _); have o1 : Z2.cell? ⟨B + 1 + 1, 1, none⟩ = some (.slice none 0 0) := cell_of ob2 rfl; have q1 := frz ob2 1; obtain ⟨Y2, hY2⟩ : ∃ Y, Y = Z2.setCell ⟨B + 1 + 1, 1, none⟩ (.slice A2 d.reps.length c2) := ⟨_, rfl⟩; have KZ2 : Below (B + 1 + 1) Y1 Z2 := HK2.out.mono (by have h1 := HW.out; have h2 := SY1.out; omega); have KY2 := (KY1.out.trans KZ2).setCell (p := ⟨B + 1 + 1, 1, none⟩) (Nat.le_refl _) (.slice A2 d.reps.length c2); rw [← hY2] at KY2; have KY2 := Lib.hid KY2; clear KZ2; have OY2 := Lib.hid (show OwnW W.heap.size Y2 ⟨A1, c1, A2, c2⟩ d by rw [hY2]; exact ⟨ownsRow_setCell_below OZ2.out (a := ⟨B + 1 + 1, 1, none⟩) HW.out _, ownsRow_setCell_below (own_mono HO2.out SY1.out) (a := ⟨B + 1 + 1, 1, none⟩) HW.out _⟩); have BY2 := Lib.hid (show Y2.heap[B + 1 + 1]? = some (.cells #[.slice A1 d.hosts.length c1, .slice A2 d.reps.length c2] 36 (0, 0)) by rw [hY2]; exact set_field ob2 _); have o2 : Y2.cell? ⟨B + 1 + 1, 0, none⟩ = some (.slice A1 d.hosts.length c1) := cell_of BY2.out rfl; have o3 : Y2.cell? ⟨B + 1 + 1, 1, none⟩ = some (.slice A2 d.reps.length c2) := cell_of BY2.out rfl; obtain ⟨-, -, r0, r1, u0, u1⟩ := HF.out Y2 KY2.out; rw [hY2] at o2 o3 r0 r1 u0 u1; have HE2 := Lib.hid hY2; clear ob2 hY2)
  rw [← HE2.out]
  refine ret2w' (i := 2) (b := B + 1) rfl rfl rfl (row_store2 (HRB.out Y2 KY2.out) _ _) ⟨⟨A1, c1, A2, c2⟩, rfl, ?_, ?_⟩
  · exact (OY2.out.set (by have := HW.out; omega) _ _).mono (by have := HB.out.size; omega)
  · exact ends2 (below_join HB.out (KY2.out.mono (Nat.le_refl _)) (by have h1 := HB.out.size; have h2 := HW.out; omega)) (by omega) _ _
end Go.Proofs.Ytplncglgolhfaaa
