/-
  DERIVED. The program's Arrives (stage 6).
-/
import Derived.Test.YthghinkicaafmaaAO
namespace Go.Proofs.Ythghinkicaafmaa
open Go.RowKit
set_option maxRecDepth 100000

set_option maxHeartbeats 8000000 in
theorem c_Arrives (C : Int) (ps : List (Int × Int × Int)) (ins : List (List Int)) (t : Int) (P I : Value) (w : World) (hP : PtSl w P ps) (hI : LiSl w I ins) (y r : Int) (hr : fltL C ps 0 ins t = r) (hy : y = if r = 0 then arr ps ins t else 0) :
    Calls Try.prog 11 #[lnV C P, I, .int .i64 t] w fun e w' => e = .returned (.tuple #[.int .i64 y, .int .i64 r]) ∧ Below w.heap.size w w' := by
  obtain ⟨W, hW⟩ : ∃ W, W = w.alloc (.cells #[.int .i64 C, P] 24) := ⟨_, rfl⟩
  have B0 : Below w.heap.size w W := by subst hW; exact (Below.refl _ _).alloc (Nat.le_refl _) _
  have HB := Lib.hid B0
  have hz : w.heap.size < W.heap.size := by subst hW; simp
  have HC := Lib.hid (show W.cell? ⟨w.heap.size, 0, none⟩ = some (.int .i64 C) ∧ W.cell? ⟨w.heap.size, 1, none⟩ = some P by subst hW; have h := heap_alloc_new w (.cells #[.int .i64 C, P] 24); constructor <;> simp only [World.cell?, h] <;> rfl)
  have HP := Lib.hid (hP.on B0 (Nat.le_refl _))
  have HI := Lib.hid (hI.on B0 (Nat.le_refl _))
  have HQ := Lib.hid (c_fault C ps 0 ins t P I W HP.out HI.out r hr)
  clear hP hI B0
  unfold lnV at HQ ⊢
  by_cases h0 : r = 0
  · subst h0
    rw [if_pos rfl] at hy
    obtain ⟨f1, f2, f3, -⟩ := flt_cases hr
    obtain ⟨-, f4, f5⟩ := lnOk_iff.1 f1
    have HA := Lib.hid (fun (X : World) (h1 : PtSl X P ps) (h2 : LiSl X I ins) => c_arriving C ps ins t f5 f4 f2 (by omega) P I X h1 h2)
    unfold lnV at HA
    have HY := Lib.hid hy
    clear hr hy f1 f2 f3 f4 f5
    go_enter Try.func11, Try.ntmps11
    go_wp2_with (fail)
    rw [← hW]
    clear hW
    go_at_call 30
    refine HQ.out.mono ?_
    rintro e w1 ⟨rfl, b1⟩
    have HB1 := Lib.hid (below_join HB.out b1 HB.out.size)
    have HP1 := Lib.hid (HP.out.on b1 (Nat.le_refl _))
    have HI1 := Lib.hid (HI.out.on b1 (Nat.le_refl _))
    have x0 := (b1.cell (p := ⟨w.heap.size, 0, none⟩) hz).trans HC.out.1
    have x1 := (b1.cell (p := ⟨w.heap.size, 1, none⟩) hz).trans HC.out.2
    clear b1
    go_wp2_with (fail)
    go_at_call 31
    refine (HA.out _ HP1.out HI1.out).mono ?_
    rintro e w2 ⟨rfl, b2⟩
    rw [← HY.out]
    have HB2 := Lib.hid (below_join HB1.out b2 HB1.out.size)
    clear b2 x0 x1
    go_wp2_with (fail)
    exact retTT rfl rfl rfl rfl ⟨rfl, HB2.out⟩
  · rw [if_neg h0] at hy
    subst hy
    have h0' : (r != 0) = true := by rw [bne_iff_ne]; exact h0
    clear hr
    go_enter Try.func11, Try.ntmps11
    go_wp2_with (fail)
    rw [← hW]
    clear hW
    go_at_call 30
    refine HQ.out.mono ?_
    rintro e w1 ⟨rfl, b1⟩
    have HB1 := Lib.hid (below_join HB.out b1 HB.out.size)
    clear b1
    go_wp2_with (fail)
    exact retTT rfl rfl rfl rfl ⟨rfl, HB1.out⟩
end Go.Proofs.Ythghinkicaafmaa
