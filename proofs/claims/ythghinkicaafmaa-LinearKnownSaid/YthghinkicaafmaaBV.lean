/-
  DERIVED. The law LinearSeeks, from what own does (stage 6).
-/
import Derived.Test.YthghinkicaafmaaBT
namespace Go.Proofs.Ythghinkicaafmaa
open Go.RowKit
set_option maxRecDepth 100000

/-- Arguments, as a value. -/
def argsV (C : Int) (P : Value) (s : Int) (I : Value) (n t l : Int) : Value := .agg #[.int .i64 C, P, .int .i64 s, I, .int .i64 n, .int .i64 t, .int .i64 l]
theorem args_cells {X : World} {b : Nat} {x0 x1 x2 x3 x4 x5 x6 : Value} (h : X.heap[b]? = some (.cells #[x0, x1, x2, x3, x4, x5, x6] 27 (0, 0))) :
    X.cell? ⟨b, 0, none⟩ = some x0 ∧ X.cell? ⟨b, 1, none⟩ = some x1 ∧ X.cell? ⟨b, 2, none⟩ = some x2 ∧ X.cell? ⟨b, 3, none⟩ = some x3 ∧ X.cell? ⟨b, 4, none⟩ = some x4 ∧ X.cell? ⟨b, 5, none⟩ = some x5 ∧ X.cell? ⟨b, 6, none⟩ = some x6 :=
  ⟨cell_of h rfl, cell_of h rfl, cell_of h rfl, cell_of h rfl, cell_of h rfl, cell_of h rfl, cell_of h rfl⟩
set_option maxHeartbeats 8000000 in
theorem w_LinearSeeks (C s n t l : Int) (P I : Value) (w : World) (ps : List (Int × Int × Int)) (ins : List (List Int)) (n2 : Int)
    (hown : ∀ X, Below w.heap.size w X → Calls Try.prog 10 #[argsV C P s I n t l] X fun e w' => ∃ P' I', e = .returned (argsV C P' s I' n2 t l) ∧ (∀ Y, (∀ k o, X.heap.size ≤ k → w'.heap[k]? = some o → Y.heap[k]? = some o) → PtSl Y P' ps ∧ LiSl Y I' ins) ∧ Below X.heap.size X w') :
    Calls Try.prog 4 #[argsV C P s I n t l] w fun e w' => e = .returned (.bool true) ∧ Below w.heap.size w w' := by
  obtain ⟨W, hW⟩ : ∃ W, W = w.alloc (.cells #[.int .i64 C, P, .int .i64 s, I, .int .i64 n, .int .i64 t, .int .i64 l] 27) := ⟨_, rfl⟩
  have HB0 := Lib.hid (show Below w.heap.size w W by subst hW; exact (Below.refl _ _).alloc (Nat.le_refl _) _)
  have HX0 := Lib.hid (show W.heap[w.heap.size]? = some (.cells #[.int .i64 C, P, .int .i64 s, I, .int .i64 n, .int .i64 t, .int .i64 l] 27 (0, 0)) by subst hW; exact heap_alloc_new _ _)
  have HO := Lib.hid (hown W HB0.out)
  obtain ⟨x0, x1, x2, x3, x4, x5, x6⟩ := args_cells HX0.out
  unfold argsV at HO ⊢
  clear hown
  go_enter Try.func4, Try.ntmps4
  go_wp2_with (fail)
  rw [← hW]
  clear hW
  go_at_call 10
  refine HO.out.mono ?_
  rintro e w1 ⟨P', I', rfl, hpi, b1⟩
  obtain ⟨A1, c1, rfl, -, -⟩ := (hpi w1 fun _ _ _ h => h).1.shape
  obtain ⟨A2, c2, rfl, -, -⟩ := (hpi w1 fun _ _ _ h => h).2.shape
  have HX1 := Lib.hid ((b1.block _ (at_lt HX0.out)).trans HX0.out)
  have HB1 := Lib.hid (below_join HB0.out b1 HB0.out.size)
  have hz0 := at_lt HX0.out
  obtain ⟨Z, hZ⟩ : ∃ Z, Z = ((((((w1.setCell ⟨w.heap.size, 0, none⟩ (.int .i64 C)).setCell ⟨w.heap.size, 1, none⟩ (.slice A1 ps.length c1)).setCell ⟨w.heap.size, 2, none⟩ (.int .i64 s)).setCell ⟨w.heap.size, 3, none⟩ (.slice A2 ins.length c2)).setCell ⟨w.heap.size, 4, none⟩ (.int .i64 n2)).setCell ⟨w.heap.size, 5, none⟩ (.int .i64 t)).setCell ⟨w.heap.size, 6, none⟩ (.int .i64 l) := ⟨_, rfl⟩
  have HXz := Lib.hid (show Z.heap[w.heap.size]? = some (.cells #[.int .i64 C, .slice A1 ps.length c1, .int .i64 s, .slice A2 ins.length c2, .int .i64 n2, .int .i64 t, .int .i64 l] 27 (0, 0)) by subst hZ; exact set_field (set_field (set_field (set_field (set_field (set_field (set_field HX1.out _) _) _) _) _) _) _)
  have hbt : But w.heap.size w1 Z := by subst hZ; exact ((((((But.store _ _).trans (But.store _ _)).trans (But.store _ _)).trans (But.store _ _)).trans (But.store _ _)).trans (But.store _ _)).trans (But.store _ _)
  have HBz := Lib.hid (hbt.below HB1.out (Nat.le_refl _))
  have HPz := Lib.hid (hpi Z fun k o hk hh => hbt.same k o (by omega) hh)
  have HPy := Lib.hid (fun (q : Int) => hpi (Z.setCell ⟨w.heap.size, 4, none⟩ (.int .i64 q)) fun k o hk hh => (But.store _ _).same k o (by omega) (hbt.same k o (by omega) hh))
  obtain ⟨y0, y1', y2', y3, y4, y5, y6⟩ := args_cells HXz.out
  have q0 : w1.frozen? ⟨w.heap.size, 0, none⟩ = false := by simp [World.frozen?, HX1.out]
  have q1 : w1.frozen? ⟨w.heap.size, 1, none⟩ = false := by simp [World.frozen?, HX1.out]
  have q2 : w1.frozen? ⟨w.heap.size, 2, none⟩ = false := by simp [World.frozen?, HX1.out]
  have q3 : w1.frozen? ⟨w.heap.size, 3, none⟩ = false := by simp [World.frozen?, HX1.out]
  have q4 : w1.frozen? ⟨w.heap.size, 4, none⟩ = false := by simp [World.frozen?, HX1.out]
  have q5 : w1.frozen? ⟨w.heap.size, 5, none⟩ = false := by simp [World.frozen?, HX1.out]
  have q6 : w1.frozen? ⟨w.heap.size, 6, none⟩ = false := by simp [World.frozen?, HX1.out]
  have HZE := Lib.hid hZ
  clear x0 x1 x2 x3 x4 x5 x6 hpi b1 hbt
  obtain ⟨x0, x1, x2, x3, x4, x5, x6⟩ := args_cells HX1.out
  rw [hZ] at y0 y1' y2' y3 y4 y5 y6
  clear hZ
  rcases hd : (n2 == 1000) with _ | _
  · go_wp2_with (fail)
    rw [← HZE.out]
    clear x0 x1 x2 x3 x4 x5 x6 y0 y1' y2' y3 y4 y5 y6 q0 q1 q2 q3 q4 q5 q6
    have HXZ := Lib.hid HXz.out
    have HBZ := Lib.hid HBz.out
    have HPI := Lib.hid HPz.out
    obtain ⟨r1, hr1⟩ : ∃ r, fltL C ps s ins n2 = r := ⟨_, rfl⟩
    obtain ⟨y1, hy1⟩ : ∃ y, y = if r1 = 0 then fstP C ps s ins n2 l else 0 := ⟨_, rfl⟩
    obtain ⟨⟨y2, r2⟩, hr2⟩ : ∃ p, lstP C ps s ins n2 l = p := ⟨_, rfl⟩
    have H1 := Lib.hid (fun (X : World) (h : Below Z.heap.size Z X) => c_First C ps s ins n2 l (.slice A1 ps.length c1) (.slice A2 ins.length c2) X (HPI.out.1.on h (Nat.le_refl _)) (HPI.out.2.on h (Nat.le_refl _)) y1 r1 hr1 hy1)
    have H2 := Lib.hid (fun (X : World) (h : Below Z.heap.size Z X) => d_First C ps s ins n2 l (.slice A1 ps.length c1) (.slice A2 ins.length c2) X (HPI.out.1.on h (Nat.le_refl _)) (HPI.out.2.on h (Nat.le_refl _)) y1 r1 hr1 hy1)
    have H3 := Lib.hid (fun (X : World) (h : Below Z.heap.size Z X) => c_Least C ps s ins n2 l (.slice A1 ps.length c1) (.slice A2 ins.length c2) X (HPI.out.1.on h (Nat.le_refl _)) (HPI.out.2.on h (Nat.le_refl _)) y2 r2 hr2)
    have H4 := Lib.hid (fun (X : World) (h : Below Z.heap.size Z X) => d_Least C ps s ins n2 l (.slice A1 ps.length c1) (.slice A2 ins.length c2) X (HPI.out.1.on h (Nat.le_refl _)) (HPI.out.2.on h (Nat.le_refl _)) y2 r2 hr2)
    unfold lnV at H1 H2 H3 H4
    have hlt := at_lt HXZ.out
    clear hr1 hy1 hr2
    go_at_call 22
    refine (H1.out Z (Below.refl _ _)).mono ?_
    rintro e v1 ⟨rfl, b1⟩
    have HV1 := Lib.hid (b1)
    have HB1x := Lib.hid (below_join HBZ.out HV1.out HBZ.out.size)
    clear b1
    obtain ⟨x0, x1, x2, x3, x4, x5, x6⟩ := args_cells ((HV1.out.block _ hlt).trans HXZ.out)
    go_wp2_with (fail)
    clear x0 x1 x2 x3 x4 x5 x6
    go_at_call 23
    refine (H2.out v1 HV1.out).mono ?_
    rintro e v2 ⟨rfl, b2⟩
    have HV2 := Lib.hid (below_join HV1.out b2 HV1.out.size)
    have HB2x := Lib.hid (below_join HBZ.out HV2.out HBZ.out.size)
    clear b2
    obtain ⟨x0, x1, x2, x3, x4, x5, x6⟩ := args_cells ((HV2.out.block _ hlt).trans HXZ.out)
    go_wp2_with (fail)
    clear x0 x1 x2 x3 x4 x5 x6
    go_at_call 24
    refine (H3.out v2 HV2.out).mono ?_
    rintro e v3 ⟨rfl, b3⟩
    have HV3 := Lib.hid (below_join HV2.out b3 HV2.out.size)
    have HB3x := Lib.hid (below_join HBZ.out HV3.out HBZ.out.size)
    clear b3
    obtain ⟨x0, x1, x2, x3, x4, x5, x6⟩ := args_cells ((HV3.out.block _ hlt).trans HXZ.out)
    go_wp2_with (fail)
    clear x0 x1 x2 x3 x4 x5 x6
    go_at_call 25
    refine (H4.out v3 HV3.out).mono ?_
    rintro e v4 ⟨rfl, b4⟩
    have HV4 := Lib.hid (below_join HV3.out b4 HV3.out.size)
    have HB4x := Lib.hid (below_join HBZ.out HV4.out HBZ.out.size)
    clear b4
    obtain ⟨x0, x1, x2, x3, x4, x5, x6⟩ := args_cells ((HV4.out.block _ hlt).trans HXZ.out)
    go_wp2_with (fail)
    clear x0 x1 x2 x3 x4 x5 x6
    go_at_call 21
    refine (c_works _).mono ?_
    rintro e v5 ⟨rfl, b5⟩
    have HBE := Lib.hid (below_join HB4x.out b5 HB4x.out.size)
    clear b5
    go_wp2_with (fail)
    go_ret
    exact ⟨rfl, HBE.out⟩
  · go_wp2_with (fail)
    rw [← HZE.out]
    clear x0 x1 x2 x3 x4 x5 x6 y0 y1' y2' y3 y4 y5 y6 q0 q1 q2 q3 q4 q5 q6
    obtain ⟨Z2, hZ2⟩ : ∃ Z2, Z2 = Z.setCell ⟨w.heap.size, 4, none⟩ (.int .i64 100) := ⟨_, rfl⟩
    have HXZ := Lib.hid (show Z2.heap[w.heap.size]? = some (.cells #[.int .i64 C, .slice A1 ps.length c1, .int .i64 s, .slice A2 ins.length c2, .int .i64 100, .int .i64 t, .int .i64 l] 27 (0, 0)) by subst hZ2; exact set_field HXz.out _)
    have HBZ := Lib.hid (show Below w.heap.size w Z2 by subst hZ2; exact HBz.out.setCell (p := ⟨w.heap.size, 4, none⟩) (Nat.le_refl _) _)
    have HPI := Lib.hid (show PtSl Z2 (.slice A1 ps.length c1) ps ∧ LiSl Z2 (.slice A2 ins.length c2) ins by subst hZ2; exact HPy.out 100)
    rw [← hZ2]
    clear hZ2
    obtain ⟨r1, hr1⟩ : ∃ r, fltL C ps s ins 100 = r := ⟨_, rfl⟩
    obtain ⟨y1, hy1⟩ : ∃ y, y = if r1 = 0 then fstP C ps s ins 100 l else 0 := ⟨_, rfl⟩
    obtain ⟨⟨y2, r2⟩, hr2⟩ : ∃ p, lstP C ps s ins 100 l = p := ⟨_, rfl⟩
    have H1 := Lib.hid (fun (X : World) (h : Below Z2.heap.size Z2 X) => c_First C ps s ins 100 l (.slice A1 ps.length c1) (.slice A2 ins.length c2) X (HPI.out.1.on h (Nat.le_refl _)) (HPI.out.2.on h (Nat.le_refl _)) y1 r1 hr1 hy1)
    have H2 := Lib.hid (fun (X : World) (h : Below Z2.heap.size Z2 X) => d_First C ps s ins 100 l (.slice A1 ps.length c1) (.slice A2 ins.length c2) X (HPI.out.1.on h (Nat.le_refl _)) (HPI.out.2.on h (Nat.le_refl _)) y1 r1 hr1 hy1)
    have H3 := Lib.hid (fun (X : World) (h : Below Z2.heap.size Z2 X) => c_Least C ps s ins 100 l (.slice A1 ps.length c1) (.slice A2 ins.length c2) X (HPI.out.1.on h (Nat.le_refl _)) (HPI.out.2.on h (Nat.le_refl _)) y2 r2 hr2)
    have H4 := Lib.hid (fun (X : World) (h : Below Z2.heap.size Z2 X) => d_Least C ps s ins 100 l (.slice A1 ps.length c1) (.slice A2 ins.length c2) X (HPI.out.1.on h (Nat.le_refl _)) (HPI.out.2.on h (Nat.le_refl _)) y2 r2 hr2)
    unfold lnV at H1 H2 H3 H4
    have hlt := at_lt HXZ.out
    clear hr1 hy1 hr2
    go_at_call 22
    refine (H1.out Z2 (Below.refl _ _)).mono ?_
    rintro e v1 ⟨rfl, b1⟩
    have HV1 := Lib.hid (b1)
    have HB1x := Lib.hid (below_join HBZ.out HV1.out HBZ.out.size)
    clear b1
    obtain ⟨x0, x1, x2, x3, x4, x5, x6⟩ := args_cells ((HV1.out.block _ hlt).trans HXZ.out)
    go_wp2_with (fail)
    clear x0 x1 x2 x3 x4 x5 x6
    go_at_call 23
    refine (H2.out v1 HV1.out).mono ?_
    rintro e v2 ⟨rfl, b2⟩
    have HV2 := Lib.hid (below_join HV1.out b2 HV1.out.size)
    have HB2x := Lib.hid (below_join HBZ.out HV2.out HBZ.out.size)
    clear b2
    obtain ⟨x0, x1, x2, x3, x4, x5, x6⟩ := args_cells ((HV2.out.block _ hlt).trans HXZ.out)
    go_wp2_with (fail)
    clear x0 x1 x2 x3 x4 x5 x6
    go_at_call 24
    refine (H3.out v2 HV2.out).mono ?_
    rintro e v3 ⟨rfl, b3⟩
    have HV3 := Lib.hid (below_join HV2.out b3 HV2.out.size)
    have HB3x := Lib.hid (below_join HBZ.out HV3.out HBZ.out.size)
    clear b3
    obtain ⟨x0, x1, x2, x3, x4, x5, x6⟩ := args_cells ((HV3.out.block _ hlt).trans HXZ.out)
    go_wp2_with (fail)
    clear x0 x1 x2 x3 x4 x5 x6
    go_at_call 25
    refine (H4.out v3 HV3.out).mono ?_
    rintro e v4 ⟨rfl, b4⟩
    have HV4 := Lib.hid (below_join HV3.out b4 HV3.out.size)
    have HB4x := Lib.hid (below_join HBZ.out HV4.out HBZ.out.size)
    clear b4
    obtain ⟨x0, x1, x2, x3, x4, x5, x6⟩ := args_cells ((HV4.out.block _ hlt).trans HXZ.out)
    go_wp2_with (fail)
    clear x0 x1 x2 x3 x4 x5 x6
    go_at_call 21
    refine (c_works _).mono ?_
    rintro e v5 ⟨rfl, b5⟩
    have HBE := Lib.hid (below_join HB4x.out b5 HB4x.out.size)
    clear b5
    go_wp2_with (fail)
    go_ret
    exact ⟨rfl, HBE.out⟩
end Go.Proofs.Ythghinkicaafmaa
