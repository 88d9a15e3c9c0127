/-
  The law NetworkKnown (written by gen/net_NQ.py; stage 16).
-/
import Derived.Test.YtacdpklgnibkeaaPO3
set_option linter.unusedVariables false
set_option linter.unusedSimpArgs false
namespace Go.Proofs.Ytacdpklgnibkeaa
open Go.RowKit
set_option maxRecDepth 100000
set_option linter.unusedVariables false
set_option linter.unusedSimpArgs false

def zeroSP : SP := ⟨none, 0, none, 0, none, 0, none, 0, none, 0, none, 0⟩
def zeroS : SiteD := ⟨[], [], [], [], 0, [], []⟩
theorem zeroS_at (w : World) : SiAt w zeroSP zeroS := ⟨Rw.nil _ _, Rw.nil _ _, Rw.nil _ _, Rw.nil _ _, Rw.nil _ _, Rw.nil _ _⟩
theorem exI_z : distI zeroS 0 0 = -1 := by unfold distI; rw [if_neg (by rintro ⟨-, h, -⟩; exact absurd h (by decide))]
set_option maxHeartbeats 32000000 in
theorem row_NetworkKnown (w : World) :
    Calls Try.prog 7 #[] w fun e w' => e = .returned (.bool true) ∧ Below w.heap.size w w' := by
  have HKw := Lib.hid (Below.refl w.heap.size w)
  go_enter Try.func7, Try.ntmps7
  go_wp2_with (fail)
  go_at_call 19
  refine (c_exampleTo w).mono ?_
  rintro e v1 ⟨p, rfl, ha, bb⟩
  have HKv1 := Lib.hid (below_join HKw.out bb HKw.out.size)
  have HSv1 := Lib.hid ha; clear ha
  clear bb
  obtain ⟨X2, hX2⟩ : ∃ X, X = v1.alloc (.cells #[.slice p.a1 1 p.c1, .slice p.a2 1 p.c2, .slice p.a3 1 p.c3, .slice p.a4 3 p.c4, .int .i64 3, .slice p.a5 4 p.c5, .slice p.a6 3 p.c6] 29) := ⟨_, rfl⟩
  have b2 : Below v1.heap.size v1 X2 := by subst hX2; exact (Below.refl _ _).alloc (Nat.le_refl _) _
  have HKX2 := Lib.hid (below_join HKv1.out b2 HKv1.out.size)
  have HSX2 := Lib.hid (HSv1.out.on b2 (Nat.le_refl _))
  have BXX2 := Lib.hid (show SiBox X2 v1.heap.size p exD by subst hX2; exact heap_alloc_new _ _)
  clear b2
  obtain ⟨Nb, hNb⟩ : ∃ n, v1.heap.size = n := ⟨_, rfl⟩
  have BY := BXX2
  rw [hNb] at BY
  have HF := Lib.hid (fun (Y : World) (hY : Below X2.heap.size X2 Y) => (let z := BY.out.on hY (Nat.le_refl _); ⟨z.c0, z.c1, z.c2, z.c3, z.c4, z.c5, z.c6⟩ : Y.cell? ⟨Nb, 0, none⟩ = some (.slice p.a1 1 p.c1) ∧ Y.cell? ⟨Nb, 1, none⟩ = some (.slice p.a2 1 p.c2) ∧ Y.cell? ⟨Nb, 2, none⟩ = some (.slice p.a3 1 p.c3) ∧ Y.cell? ⟨Nb, 3, none⟩ = some (.slice p.a4 3 p.c4) ∧ Y.cell? ⟨Nb, 4, none⟩ = some (.int .i64 3) ∧ Y.cell? ⟨Nb, 5, none⟩ = some (.slice p.a5 4 p.c5) ∧ Y.cell? ⟨Nb, 6, none⟩ = some (.slice p.a6 3 p.c6)))
  have HXX2 := Lib.hid (Below.refl X2.heap.size X2)
  obtain ⟨f0, f1, f2, f3, f4, f5, f6⟩ := HF.out X2 HXX2.out
  rw [hX2] at f0 f1 f2 f3 f4 f5 f6
  rw [← hNb] at f0 f1 f2 f3 f4 f5 f6
  go_wp2_with (fail)
  rw [← hX2]
  clear hX2 hNb f0 f1 f2 f3 f4 f5 f6
  go_at_call 10
  refine (show Calls Try.prog 10 #[.agg #[.slice p.a1 1 p.c1, .slice p.a2 1 p.c2, .slice p.a3 1 p.c3, .slice p.a4 3 p.c4, .int .i64 3, .slice p.a5 4 p.c5, .slice p.a6 3 p.c6], .int .i64 2, .int .i64 0] X2 fun e w' => e = .returned (.int .i64 (5)) ∧ Below X2.heap.size X2 w' from c_neDistanceTo p exD 2 0 (5) exI_20 X2 HSX2.out).mono ?_
  rintro e v3 ⟨rfl, bb⟩
  have HKv3 := Lib.hid (below_join HKX2.out bb HKX2.out.size)
  have HXv3 := Lib.hid (below_join HXX2.out bb HXX2.out.size)
  have HSv3 := Lib.hid (HSX2.out.on bb (Nat.le_refl _))
  clear bb
  obtain ⟨f0, f1, f2, f3, f4, f5, f6⟩ := HF.out v3 HXv3.out
  go_wp2_with (fail)
  clear f0 f1 f2 f3 f4 f5 f6
  go_at_call 10
  refine (show Calls Try.prog 10 #[.agg #[.slice p.a1 1 p.c1, .slice p.a2 1 p.c2, .slice p.a3 1 p.c3, .slice p.a4 3 p.c4, .int .i64 3, .slice p.a5 4 p.c5, .slice p.a6 3 p.c6], .int .i64 1, .int .i64 1] v3 fun e w' => e = .returned (.int .i64 (0)) ∧ Below v3.heap.size v3 w' from c_neDistanceTo p exD 1 1 (0) exI_11 v3 HSv3.out).mono ?_
  rintro e v4 ⟨rfl, bb⟩
  have HKv4 := Lib.hid (below_join HKv3.out bb HKv3.out.size)
  have HXv4 := Lib.hid (below_join HXv3.out bb HXv3.out.size)
  have HSv4 := Lib.hid (HSv3.out.on bb (Nat.le_refl _))
  clear bb
  obtain ⟨f0, f1, f2, f3, f4, f5, f6⟩ := HF.out v4 HXv4.out
  go_wp2_with (fail)
  clear f0 f1 f2 f3 f4 f5 f6
  go_at_call 10
  refine (show Calls Try.prog 10 #[.agg #[.slice p.a1 1 p.c1, .slice p.a2 1 p.c2, .slice p.a3 1 p.c3, .slice p.a4 3 p.c4, .int .i64 3, .slice p.a5 4 p.c5, .slice p.a6 3 p.c6], .int .i64 0, .int .i64 3] v4 fun e w' => e = .returned (.int .i64 (-1)) ∧ Below v4.heap.size v4 w' from c_neDistanceTo p exD 0 3 (-1) exI_03 v4 HSv4.out).mono ?_
  rintro e v5 ⟨rfl, bb⟩
  have HKv5 := Lib.hid (below_join HKv4.out bb HKv4.out.size)
  have HXv5 := Lib.hid (below_join HXv4.out bb HXv4.out.size)
  have HSv5 := Lib.hid (HSv4.out.on bb (Nat.le_refl _))
  clear bb
  obtain ⟨f0, f1, f2, f3, f4, f5, f6⟩ := HF.out v5 HXv5.out
  go_wp2_with (fail)
  clear f0 f1 f2 f3 f4 f5 f6
  go_at_call 12
  refine (show Calls Try.prog 12 #[.agg #[.slice p.a1 1 p.c1, .slice p.a2 1 p.c2, .slice p.a3 1 p.c3, .slice p.a4 3 p.c4, .int .i64 3, .slice p.a5 4 p.c5, .slice p.a6 3 p.c6], .int .i64 0, .int .i64 0] v5 fun e w' => e = .returned (.int .i64 (0)) ∧ Below v5.heap.size v5 w' from c_neLatencyTo p exD 0 0 (0) exI_l00 v5 HSv5.out).mono ?_
  rintro e v6 ⟨rfl, bb⟩
  have HKv6 := Lib.hid (below_join HKv5.out bb HKv5.out.size)
  have HXv6 := Lib.hid (below_join HXv5.out bb HXv5.out.size)
  have HSv6 := Lib.hid (HSv5.out.on bb (Nat.le_refl _))
  clear bb
  obtain ⟨f0, f1, f2, f3, f4, f5, f6⟩ := HF.out v6 HXv6.out
  go_wp2_with (fail)
  clear f0 f1 f2 f3 f4 f5 f6
  go_at_call 12
  refine (show Calls Try.prog 12 #[.agg #[.slice p.a1 1 p.c1, .slice p.a2 1 p.c2, .slice p.a3 1 p.c3, .slice p.a4 3 p.c4, .int .i64 3, .slice p.a5 4 p.c5, .slice p.a6 3 p.c6], .int .i64 1, .int .i64 2] v6 fun e w' => e = .returned (.int .i64 (2)) ∧ Below v6.heap.size v6 w' from c_neLatencyTo p exD 1 2 (2) exI_l12 v6 HSv6.out).mono ?_
  rintro e v7 ⟨rfl, bb⟩
  have HKv7 := Lib.hid (below_join HKv6.out bb HKv6.out.size)
  have HXv7 := Lib.hid (below_join HXv6.out bb HXv6.out.size)
  have HSv7 := Lib.hid (HSv6.out.on bb (Nat.le_refl _))
  clear bb
  obtain ⟨f0, f1, f2, f3, f4, f5, f6⟩ := HF.out v7 HXv7.out
  go_wp2_with (fail)
  clear f0 f1 f2 f3 f4 f5 f6
  go_at_call 12
  refine (show Calls Try.prog 12 #[.agg #[.slice p.a1 1 p.c1, .slice p.a2 1 p.c2, .slice p.a3 1 p.c3, .slice p.a4 3 p.c4, .int .i64 3, .slice p.a5 4 p.c5, .slice p.a6 3 p.c6], .int .i64 3, .int .i64 0] v7 fun e w' => e = .returned (.int .i64 (-1)) ∧ Below v7.heap.size v7 w' from c_neLatencyTo p exD 3 0 (-1) exI_l30 v7 HSv7.out).mono ?_
  rintro e v8 ⟨rfl, bb⟩
  have HKv8 := Lib.hid (below_join HKv7.out bb HKv7.out.size)
  have HXv8 := Lib.hid (below_join HXv7.out bb HXv7.out.size)
  have HSv8 := Lib.hid (HSv7.out.on bb (Nat.le_refl _))
  clear bb
  obtain ⟨f0, f1, f2, f3, f4, f5, f6⟩ := HF.out v8 HXv8.out
  go_wp2_with (fail)
  clear f0 f1 f2 f3 f4 f5 f6
  go_at_call 15
  refine (show Calls Try.prog 15 #[.agg #[.slice p.a1 1 p.c1, .slice p.a2 1 p.c2, .slice p.a3 1 p.c3, .slice p.a4 3 p.c4, .int .i64 3, .slice p.a5 4 p.c5, .slice p.a6 3 p.c6], .int .i64 1, .int .i64 1] v8 fun e w' => ∃ A c, e = .returned (.slice A (1 : Nat) c) ∧ Rw 1 inF w' A c ([(1 : Int)] : List Int) ∧ Below v8.heap.size v8 w' from c_neWayTo p exD 1 1 _ exI_w11 v8 HSv8.out).mono ?_
  rintro e v9 ⟨A1, q1, rfl, hy, bb⟩
  have HKv9 := Lib.hid (below_join HKv8.out bb HKv8.out.size)
  have HXv9 := Lib.hid (below_join HXv8.out bb HXv8.out.size)
  have HSv9 := Lib.hid (HSv8.out.on bb (Nat.le_refl _))
  have HYv9 := Lib.hid hy; clear hy
  clear bb
  obtain ⟨X10, hX10⟩ : ∃ X, X = v9.alloc (.cells #[.int .i64 1] 3) := ⟨_, rfl⟩
  have b10 : Below v9.heap.size v9 X10 := by subst hX10; exact (Below.refl _ _).alloc (Nat.le_refl _) _
  have HKX10 := Lib.hid (below_join HKv9.out b10 HKv9.out.size)
  have HXX10 := Lib.hid (below_join HXv9.out b10 HXv9.out.size)
  have HSX10 := Lib.hid (HSv9.out.on b10 (Nat.le_refl _))
  have HYX10 := Lib.hid (HYv9.out.on b10 (Nat.le_refl _))
  have RLX10 := Lib.hid (show Rw 1 inF X10 (some ⟨v9.heap.size, 0, none⟩) 1 [(1 : Int)] by subst hX10; exact rw_lit [(1 : Int)] (by simp [maxLen]) _)
  clear b10
  go_wp2_with (fail)
  rw [← hX10]
  clear hX10
  go_at_call 14
  refine (c_Ints A1 (some ⟨v9.heap.size, 0, none⟩) q1 1 [(1 : Int)] [(1 : Int)] X10 HYX10.out RLX10.out true (decide_eq_true rfl)).mono ?_
  rintro e v11 ⟨rfl, bb⟩
  have HKv11 := Lib.hid (below_join HKX10.out bb HKX10.out.size)
  have HXv11 := Lib.hid (below_join HXX10.out bb HXX10.out.size)
  have HSv11 := Lib.hid (HSX10.out.on bb (Nat.le_refl _))
  have HYv11 := Lib.hid (HYX10.out.on bb (Nat.le_refl _))
  have RLv11 := Lib.hid (RLX10.out.on bb (Nat.le_refl _))
  clear bb
  obtain ⟨f0, f1, f2, f3, f4, f5, f6⟩ := HF.out v11 HXv11.out
  go_wp2_with (fail)
  clear f0 f1 f2 f3 f4 f5 f6
  go_at_call 17
  refine (show Calls Try.prog 17 #[.agg #[.slice p.a1 1 p.c1, .slice p.a2 1 p.c2, .slice p.a3 1 p.c3, .slice p.a4 3 p.c4, .int .i64 3, .slice p.a5 4 p.c5, .slice p.a6 3 p.c6], .int .i64 1, .int .i64 (-1)] v11 fun e w' => ∃ A c, e = .returned (.slice A (0 : Nat) c) ∧ Rw 1 inF w' A c ([] : List Int) ∧ Below v11.heap.size v11 w' from c_neWithinTo p exD 1 (-1) _ exI_i1m v11 HSv11.out).mono ?_
  rintro e v12 ⟨A1, q1, rfl, hy, bb⟩
  have HKv12 := Lib.hid (below_join HKv11.out bb HKv11.out.size)
  have HXv12 := Lib.hid (below_join HXv11.out bb HXv11.out.size)
  have HSv12 := Lib.hid (HSv11.out.on bb (Nat.le_refl _))
  have HYv12 := Lib.hid hy; clear hy
  clear bb
  obtain ⟨f0, f1, f2, f3, f4, f5, f6⟩ := HF.out v12 HXv12.out
  go_wp2_with (fail)
  clear f0 f1 f2 f3 f4 f5 f6
  go_at_call 17
  refine (show Calls Try.prog 17 #[.agg #[.slice p.a1 1 p.c1, .slice p.a2 1 p.c2, .slice p.a3 1 p.c3, .slice p.a4 3 p.c4, .int .i64 3, .slice p.a5 4 p.c5, .slice p.a6 3 p.c6], .int .i64 3, .int .i64 9] v12 fun e w' => ∃ A c, e = .returned (.slice A (0 : Nat) c) ∧ Rw 1 inF w' A c ([] : List Int) ∧ Below v12.heap.size v12 w' from c_neWithinTo p exD 3 9 _ exI_i39 v12 HSv12.out).mono ?_
  rintro e v13 ⟨A1, q1, rfl, hy, bb⟩
  have HKv13 := Lib.hid (below_join HKv12.out bb HKv12.out.size)
  have HXv13 := Lib.hid (below_join HXv12.out bb HXv12.out.size)
  have HSv13 := Lib.hid (HSv12.out.on bb (Nat.le_refl _))
  have HYv13 := Lib.hid hy; clear hy
  clear bb
  go_wp2_with (fail)
  go_at_call 10
  refine (show Calls Try.prog 10 #[.agg #[.slice none 0 0, .slice none 0 0, .slice none 0 0, .slice none 0 0, .int .i64 0, .slice none 0 0, .slice none 0 0], .int .i64 0, .int .i64 0] v13 fun e w' => e = .returned (.int .i64 (-1)) ∧ Below v13.heap.size v13 w' from c_neDistanceTo zeroSP zeroS 0 0 (-1) exI_z v13 (zeroS_at v13)).mono ?_
  rintro e v14 ⟨rfl, bb⟩
  have HKv14 := Lib.hid (below_join HKv13.out bb HKv13.out.size)
  have HXv14 := Lib.hid (below_join HXv13.out bb HXv13.out.size)
  have HSv14 := Lib.hid (HSv13.out.on bb (Nat.le_refl _))
  clear bb
  go_wp2_with (fail)
  go_at_call 9
  refine (c_live v14).mono ?_
  rintro e v15 ⟨rfl, bb⟩
  have HKv15 := Lib.hid (below_join HKv14.out bb HKv14.out.size)
  have HXv15 := Lib.hid (below_join HXv14.out bb HXv14.out.size)
  have HSv15 := Lib.hid (HSv14.out.on bb (Nat.le_refl _))
  clear bb
  go_wp2_with (fail)
  go_ret
  exact ⟨rfl, HKv15.out⟩
end Go.Proofs.Ytacdpklgnibkeaa
