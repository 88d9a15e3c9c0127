/-
  DERIVED. The law BreakerSteady.
-/
import Derived.Test.YtomfaknemjbjcaaCD
import Derived.Test.YtomfaknemjbjcaaCF
import Derived.Test.YtomfaknemjbjcaaBK
namespace Go.Proofs.Ytomfaknemjbjcaa
open Go.RowKit
set_option maxRecDepth 100000

theorem lsOk_rep {p : Int} (h : 0 ≤ p ∧ p ≤ 255) : lsOk (List.replicate 300 p) = true := by
  unfold lsOk
  rw [List.length_replicate, decide_eq_true (by omega), Bool.true_and, List.all_eq_true]
  intro x hx
  rw [(List.mem_replicate.1 hx).2]
  exact wOk_iff.2 (by omega)
set_option maxHeartbeats 16000000 in
theorem row_BreakerSteady (w : World) (a b c e : Nat) (ha : a ≤ 255) (hb : b ≤ 255) (hc : c ≤ 255) (he : e ≤ 255) (p : Nat) (hp : p ≤ 255) :
    Calls Try.prog 6 #[smV a b c e, .int .u8 (p : Int)] w fun e w' => e = .returned (.bool true) ∧ Below w.heap.size w w' := by
  obtain ⟨h, hh⟩ : ∃ h, h = e % (b + 1) := ⟨_, rfl⟩
  have hhb : h ≤ b := by have := Nat.mod_lt e (show 0 < b + 1 by omega); omega
  obtain ⟨m1, m2, m3, m4⟩ := steady_main (L := (a : Int)) (S := (b : Int)) (F := (a : Int) + (c : Int)) (h := (h : Int)) (w := (p : Int)) (by omega) (by omega) (by omega) (by omega) (by omega) (by omega)
  obtain ⟨n, hn⟩ : ∃ n, n = lst (a : Int) (b : Int) ((a : Int) + (c : Int)) (h : Int) (p : Int) := ⟨_, rfl⟩
  obtain ⟨co, hco⟩ : ∃ n, n = col (a : Int) (h : Int) (p : Int) := ⟨_, rfl⟩
  obtain ⟨T, hT⟩ : ∃ T, T = optI (fidx (fun x => x.2) (steadyC (a : Int) (b : Int) ((a : Int) + (c : Int)) (h : Int) (p : Int))) := ⟨_, rfl⟩
  have hf1 := fltH_small a b c h (p : Int) ha hb hc hhb (by omega) (by omega)
  have H1 := Lib.hid (fun (X : World) => c_Lasts 0 (a : Int) (b : Int) ((a : Int) + (c : Int)) (h : Int) (p : Int) n 0 (by unfold lastsP; rw [if_pos hf1, hn]) X)
  have H2 := Lib.hid (fun (X : World) => c_Cools 0 (a : Int) (b : Int) ((a : Int) + (c : Int)) (h : Int) (p : Int) co 0 (by unfold coolsP; rw [if_pos hf1, hco]) X)
  have H3 := Lib.hid (fun (X : World) (u : Value) (hu : IntSl X u (List.replicate 300 (p : Int))) => c_Course 0 (a : Int) (b : Int) ((a : Int) + (c : Int)) (h : Int) false (List.replicate 300 (p : Int)) u X hu 0 (by
    rw [fltS_live (bOk_iff.2 (by omega)) (by omega) (by omega), lsOk_rep (by omega)]; rfl) (steadyC (a : Int) (b : Int) ((a : Int) + (c : Int)) (h : Int) (p : Int)) (by rw [if_pos rfl]; rfl))
  have HS1 := Lib.hid (fun (X : World) (u : Value) (hu : StSl X u (steadyC (a : Int) (b : Int) ((a : Int) + (c : Int)) (h : Int) (p : Int))) => c_IndexFunc 31 (fun x => x.2) (enters_of Try.func31 (by kernel_rfl) rfl) c_steady1 _ u X hu T hT.symm)
  have HS2 := Lib.hid (fun (X : World) (u : Value) (hu : StSl X u (steadyC (a : Int) (b : Int) ((a : Int) + (c : Int)) (h : Int) (p : Int))) => c_IndexFunc 32 coldB (enters_of Try.func32 (by kernel_rfl) rfl) c_steady2 _ u X hu co (by rw [hco]; exact m4))
  have hcase : (n = -1 ∧ T = -1 ∧ decide ((p : Int) ≤ (a : Int)) = true ∧ p ≤ a) ∨ ((n == -1) = false ∧ T = n + 1 ∧ decide ((p : Int) ≤ (a : Int)) = false ∧ a < p) := by
    rw [← hn] at m1 m2 m3
    by_cases g : n = -1
    · refine .inl ⟨g, ?_, decide_eq_true (m1.1 g), by have := m1.1 g; omega⟩
      rw [hT, m2 g]; rfl
    · refine .inr ⟨by rw [beq_eq_false_iff_ne]; exact g, ?_, decide_eq_false (fun h => g (m1.2 h)), (Nat.lt_or_ge a p).elim id (fun h => absurd (m1.2 (by omega)) g)⟩
      rw [hT]; exact m3 g
  have hnb : -1 ≤ n ∧ n ≤ 255 := by
    rw [hn]
    unfold lst
    split
    · omega
    · split
      · omega
      · have g1 : 0 ≤ ((b : Int) - (h : Int)) / ((p : Int) - (a : Int)) := Int.ediv_nonneg (by omega) (by omega)
        have g2 := Int.ediv_le_self ((p : Int) - (a : Int)) (show 0 ≤ (b : Int) - (h : Int) by omega)
        omega
  have HCASE := Lib.hid hcase
  have HM := Lib.hid (fun (X : World) => c_made a b c e ha hb hc he (h : Int) (by rw [hh]) X)
  have HR := Lib.hid (fun (X : World) (v : Value) (hv : IntSl X v [(p : Int)]) => c_Repeat (p : Int) v X hv)
  have hlen := steadyC_len (a : Int) (b : Int) ((a : Int) + (c : Int)) (h : Int) (p : Int)
  generalize steadyC (a : Int) (b : Int) ((a : Int) + (c : Int)) (h : Int) (p : Int) = cs at *
  have HLEN := Lib.hid hlen
  clear hlen m1 m2 m3 m4 hn hco hT hcase hf1 hh
  unfold smallV at HM
  unfold bkV at HM H1 H2
  unfold bkV stV at H3
  unfold smV
  obtain ⟨w0, hW⟩ : ∃ w0, w0 = w.alloc (.cells #[.int .u8 (a : Int), .int .u8 (b : Int), .int .u8 (c : Int), .int .u8 (e : Int)] 44) := ⟨_, rfl⟩
  have HB0 := Lib.hid (show Below w.heap.size w w0 by subst hW; exact (Below.refl _ _).alloc (Nat.le_refl _) _)
  go_enter Try.func6, Try.ntmps6
  go_wp2_with (fail)
  rw [← hW]
  clear hW
  go_at_call 28
  refine (HM.out _).mono ?_
  rintro r w1 ⟨rfl, b1⟩
  have HB1 := Lib.hid (below_join HB0.out b1 HB0.out.size)
  obtain ⟨W1, hW1⟩ : ∃ W1, W1 = w1.alloc (.cells #[.int .i64 0, .int .i64 (a : Int), .int .i64 (b : Int), .int .i64 ((a : Int) + (c : Int))] 23) := ⟨_, rfl⟩
  have HBW := Lib.hid (show Below w.heap.size w W1 by subst hW1; exact HB1.out.alloc HB1.out.size _)
  have HK1 := Lib.hid (show Bk W1 w1.heap.size 0 (a : Int) (b : Int) ((a : Int) + (c : Int)) by subst hW1; exact bk_new _ _ _ _ _)
  have hz1 : w1.heap.size < W1.heap.size := block_lt HK1.out
  clear b1
  go_wp2_with (fail)
  rw [← hW1]
  clear hW1
  have HIX := Lib.hid (show IntSl (W1.alloc (.cells #[.int .i64 (p : Int)] 3)).drew (.slice (some ⟨W1.heap.size, 0, none⟩) 1 1) [(p : Int)] from intSl_one W1 (p : Int))
  have HBX := Lib.hid ((Below.refl W1.heap.size W1).alloc (Nat.le_refl _) (.cells #[.int .i64 (p : Int)] 3)).drew
  go_region_held3 (fun X => X.cell? ⟨w1.heap.size, 0, none⟩ = some (.int .i64 0) ∧ X.cell? ⟨w1.heap.size, 1, none⟩ = some (.int .i64 (a : Int)) ∧ X.cell? ⟨w1.heap.size, 2, none⟩ = some (.int .i64 (b : Int)) ∧ X.cell? ⟨w1.heap.size, 3, none⟩ = some (.int .i64 ((a : Int) + (c : Int))))
    (first | exact HK3.out.cells | exact HK2.out.cells | exact (HK1.out.on HBX.out hz1).cells | exact HK1.out.cells)
    (first
      | (go_at_call 29; (with_reducible refine (HR.out _ _ HIX.out).mono ?_); rintro e w2 ⟨u2, rfl, hu2, b2⟩; have b2' := below_join HBX.out b2 HBX.out.size; have HB2 := Lib.hid (below_join HBW.out b2' HBW.out.size); have HK2 := Lib.hid (HK1.out.on b2' hz1); obtain ⟨A2, c2, hs2, -, -⟩ := hu2.shape; rw [List.length_replicate] at hs2; subst hs2; have HU2 := Lib.hid hu2; have hz2 := Nat.lt_of_lt_of_le hz1 b2'.size; clear hu2 b2 b2')
      | (go_at_call 13; (with_reducible refine (H3.out _ _ HU2.out).mono ?_); rintro e w3 ⟨cv, rfl, hcv, b3⟩; have HB3 := Lib.hid (below_join HB2.out b3 HB2.out.size); have HK3 := Lib.hid (HK2.out.on b3 hz2); obtain ⟨A3, c3, hs3, -, -⟩ := hcv.shape; rw [HLEN.out] at hs3; subst hs3; have HC3 := Lib.hid hcv; have hz3 := Nat.lt_of_lt_of_le hz2 b3.size; clear hcv b3)
      | fail)
  obtain ⟨x0, x1, x2, x3⟩ := HK3.out.cells
  go_wp2_with (fail)
  go_at_call 22
  refine (H1.out _).mono ?_
  rintro r w4 ⟨rfl, b4⟩
  have HB4 := Lib.hid (below_join HB3.out b4 HB3.out.size)
  have HK4 := Lib.hid (HK3.out.on b4 (by omega))
  have HC4 := Lib.hid (HC3.out.on b4 (Nat.le_refl _))
  have hz4 := Nat.lt_of_lt_of_le hz3 b4.size
  clear b4 x0 x1 x2 x3
  obtain ⟨x0, x1, x2, x3⟩ := HK4.out.cells
  go_wp2_with (fail)
  go_at_call 24
  refine (H2.out _).mono ?_
  rintro r w5 ⟨rfl, b5⟩
  have HB5 := Lib.hid (below_join HB4.out b5 HB4.out.size)
  have HK5 := Lib.hid (HK4.out.on b5 (by omega))
  have HC5 := Lib.hid (HC4.out.on b5 (Nat.le_refl _))
  clear b5 x0 x1 x2 x3
  obtain ⟨x0, x1, x2, x3⟩ := HK5.out.cells
  rcases HCASE.out with ⟨d0, d1, d2, d3⟩ | ⟨d0, d1, d2, d3⟩
  · subst d0 d1
    go_wp2_with (fail)
    go_at_call 30
    refine (HS1.out _ _ HC5.out).mono ?_
    rintro r w6 ⟨rfl, b6⟩
    have HB6 := Lib.hid (below_join HB5.out b6 HB5.out.size)
    have HC6 := Lib.hid (HC5.out.on b6 (Nat.le_refl _))
    clear b6 x0 x1 x2 x3
    go_wp2_with (fail)
    go_at_call 30
    refine (HS2.out _ _ HC6.out).mono ?_
    rintro r w7 ⟨rfl, b7⟩
    have HB7 := Lib.hid (below_join HB6.out b7 HB6.out.size)
    clear b7
    go_wp2_with (fail)
    go_at_call 21
    refine (c_works _).mono ?_
    rintro r w8 ⟨rfl, b8⟩
    have HB8 := Lib.hid (below_join HB7.out b8 HB7.out.size)
    clear b8
    go_wp2_with (fail)
    go_ret
    exact ⟨rfl, HB8.out⟩
  · subst d1
    have d5 : (n != -1) = true := by rw [bne_iff_ne]; rw [beq_eq_false_iff_ne] at d0; exact d0
    have d6 : ¬ (n = -1) := by rw [beq_eq_false_iff_ne] at d0; exact d0
    go_wp2_with (fail)
    go_at_call 30
    refine (HS1.out _ _ HC5.out).mono ?_
    rintro r w6 ⟨rfl, b6⟩
    have HB6 := Lib.hid (below_join HB5.out b6 HB5.out.size)
    have HC6 := Lib.hid (HC5.out.on b6 (Nat.le_refl _))
    clear b6 x0 x1 x2 x3
    go_wp2_with (fail)
    go_at_call 30
    refine (HS2.out _ _ HC6.out).mono ?_
    rintro r w7 ⟨rfl, b7⟩
    have HB7 := Lib.hid (below_join HB6.out b7 HB6.out.size)
    clear b7
    go_wp2_with (fail)
    go_at_call 21
    refine (c_works _).mono ?_
    rintro r w8 ⟨rfl, b8⟩
    have HB8 := Lib.hid (below_join HB7.out b8 HB7.out.size)
    clear b8
    go_wp2_with (fail)
    go_ret
    exact ⟨rfl, HB8.out⟩
end Go.Proofs.Ytomfaknemjbjcaa
