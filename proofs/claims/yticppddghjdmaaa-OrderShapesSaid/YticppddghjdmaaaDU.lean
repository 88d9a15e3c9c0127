/-
  DERIVED. The law OrderShapes (stage 10).
-/
import Derived.Test.YticppddghjdmaaaDT
set_option linter.unusedVariables false
set_option linter.unusedSimpArgs false
namespace Go.Proofs.Yticppddghjdmaaa
open Go.RowKit Go.Shelf
attribute [local go_sem] Oper.semAt_some
set_option maxRecDepth 100000
set_option linter.unusedVariables false
set_option linter.unusedSimpArgs false

def lsM (n : Int) (L : List (List Int)) : List (List Int) := if n = 0 then L else []
theorem ls_any {w : World} {n : Int} {L : List (List Int)} {e : Ending} {w' : World} (h : LsTo w n L e w') : ∃ A c ys, e = .returned (.tuple #[.slice A ys.length c, .int .i64 n]) ∧ LsAt w' A c ys ∧ lsL ys = lsM n L ∧ Below w.heap.size w w' := by
  obtain ⟨⟨h0, rfl⟩ | ⟨rfl, v, ys, rfl, ho, hm⟩, hb⟩ := h
  · exact ⟨none, 0, [], rfl, ⟨Rv.nil _, fun x hx => by cases hx⟩, by unfold lsM; rw [if_neg h0]; rfl, hb⟩
  · obtain ⟨A, c, rfl, hl⟩ := ho.ls
    exact ⟨A, c, ys, rfl, hl, by unfold lsM; rw [if_pos rfl]; exact hm, hb⟩
theorem cut_cut {xs ys : List LsV} (h : ys.map (·.l) = cutX xs) : cutX ys = ys.map (·.l) := by
  have hn : ys.length ≤ 13 := by
    have := congrArg List.length h
    unfold cutX at this
    rw [List.length_map, List.length_map, List.length_take] at this
    omega
  unfold cutX
  rw [List.take_of_length_le hn]
  refine List.map_congr_left fun y hy => ?_
  have hm : y.l ∈ ys.map (·.l) := List.mem_map.2 ⟨y, hy, rfl⟩
  rw [h] at hm
  obtain ⟨x, -, e⟩ := List.mem_map.1 hm
  rw [← e, List.take_take]; rfl
set_option maxHeartbeats 16000000 in
theorem row_OrderShapes (w : World) (A : Option Addr) (c : Nat) (xs : List LsV) (h : LsAt w A c xs) :
    Calls Try.prog 3 #[.slice A xs.length c] w fun e w' => e = .returned (.bool true) ∧ Below w.heap.size w w' := by
  have HO := Lib.hid (c_own A c xs w h)
  clear h
  go_enter Try.func3, Try.ntmps3
  go_wp2_with (fail)
  go_at_call 12
  refine HO.out.mono ?_
  rintro e w1 ⟨v, ys, rfl, ho, hm1, b1⟩
  obtain ⟨A1, c1, rfl, hl1⟩ := ho.ls
  have HB1 := Lib.hid b1
  have HO2 := Lib.hid (c_own A1 c1 ys w1 hl1)
  have HL1 := Lib.hid hl1
  have HM1 := Lib.hid (cut_cut hm1)
  clear ho b1 hl1 hm1
  go_wp2_with (fail)
  go_at_call 12
  refine HO2.out.mono ?_
  rintro e w2 ⟨v, zs, rfl, ho, hm2, b2⟩
  obtain ⟨A2, c2, rfl, hz2⟩ := ho.ls
  have hsm : SameL ys zs := (HM1.out.symm.trans hm2.symm)
  have HB2 := Lib.hid (below_join HB1.out b2 HB1.out.size)
  have HL2 := Lib.hid (HL1.out.on b2 (Nat.le_refl _))
  have HZ2 := Lib.hid hz2
  have HSM := Lib.hid hsm
  have HC1 := Lib.hid (fun (X : World) (hX : LsAt X A1 c1 ys) => c_Closure A1 c1 ys X hX)
  have HC2 := Lib.hid (fun (X : World) (hX : LsAt X A2 c2 zs) => c_rrClosure A2 c2 zs X hX)
  have HC3 := Lib.hid (fun (X : World) (hX : LsAt X A1 c1 ys) => c_Reduce A1 c1 ys X hX)
  have HC4 := Lib.hid (fun (X : World) (hX : LsAt X A2 c2 zs) => c_rrReduce A2 c2 zs X hX)
  have HC5 := Lib.hid (fun (X : World) (hX : LsAt X A1 c1 ys) => c_orValid A1 c1 ys X hX)
  have HC6 := Lib.hid (fun (X : World) (hX : LsAt X A2 c2 zs) => c_rrValid A2 c2 zs X hX)
  rw [← hsm.rd, ← hsm.ordF, ← hsm.len] at HC2 HC4
  rw [← hsm.rd, ← hsm.len] at HC6
  rw [← hsm.len]
  obtain ⟨m, hm⟩ : ∃ n, rdN ys = n := ⟨_, rfl⟩
  rw [hm] at HC1 HC2 HC3 HC4 HC5 HC6
  obtain ⟨q, hq⟩ : ∃ q, ys.length = q := ⟨_, rfl⟩
  have HQ := Lib.hid hq
  have HQ2 := Lib.hid (hsm.len.symm.trans hq)
  rw [hq] at HC1 HC2 HC3 HC4 HC5 HC6 ⊢
  clear ho b2 hz2 hm2 hsm hm hq
  go_wp2_with (fail)
  go_at_call 13
  refine (HC1.out w2 HL2.out).mono ?_
  intro e w3 h3
  obtain ⟨A3, c3, l3, rfl, hr3, hm3, b3⟩ := ls_any h3
  have HB3 := Lib.hid (below_join HB2.out b3 HB2.out.size)
  have HL3 := Lib.hid (HL2.out.on b3 (Nat.le_refl _))
  have HZ3 := Lib.hid (HZ2.out.on b3 (Nat.le_refl _))
  have HM3 := Lib.hid hm3
  have HR3_3 := Lib.hid hr3
  clear b3 h3 hr3 hm3
  go_wp2_with (fail)
  go_at_call 14
  refine (HC2.out w3 HZ3.out).mono ?_
  intro e w4 h4
  obtain ⟨A4, c4, l4, rfl, hr4, hm4, b4⟩ := ls_any h4
  have HB4 := Lib.hid (below_join HB3.out b4 HB3.out.size)
  have HL4 := Lib.hid (HL3.out.on b4 (Nat.le_refl _))
  have HZ4 := Lib.hid (HZ3.out.on b4 (Nat.le_refl _))
  have HM4 := Lib.hid hm4
  have HR3_4 := Lib.hid (HR3_3.out.on b4 (Nat.le_refl _))
  have HR4_4 := Lib.hid hr4
  clear b4 h4 hr4 hm4
  go_wp2_with (fail)
  go_at_call 15
  refine (HC3.out w4 HL4.out).mono ?_
  intro e w5 h5
  obtain ⟨A5, c5, l5, rfl, hr5, hm5, b5⟩ := ls_any h5
  have HB5 := Lib.hid (below_join HB4.out b5 HB4.out.size)
  have HL5 := Lib.hid (HL4.out.on b5 (Nat.le_refl _))
  have HZ5 := Lib.hid (HZ4.out.on b5 (Nat.le_refl _))
  have HM5 := Lib.hid hm5
  have HR3_5 := Lib.hid (HR3_4.out.on b5 (Nat.le_refl _))
  have HR4_5 := Lib.hid (HR4_4.out.on b5 (Nat.le_refl _))
  have HR5_5 := Lib.hid hr5
  clear b5 h5 hr5 hm5
  go_wp2_with (fail)
  go_at_call 16
  refine (HC4.out w5 HZ5.out).mono ?_
  intro e w6 h6
  obtain ⟨A6, c6, l6, rfl, hr6, hm6, b6⟩ := ls_any h6
  have HB6 := Lib.hid (below_join HB5.out b6 HB5.out.size)
  have HL6 := Lib.hid (HL5.out.on b6 (Nat.le_refl _))
  have HZ6 := Lib.hid (HZ5.out.on b6 (Nat.le_refl _))
  have HM6 := Lib.hid hm6
  have HR3_6 := Lib.hid (HR3_5.out.on b6 (Nat.le_refl _))
  have HR4_6 := Lib.hid (HR4_5.out.on b6 (Nat.le_refl _))
  have HR5_6 := Lib.hid (HR5_5.out.on b6 (Nat.le_refl _))
  have HR6_6 := Lib.hid hr6
  clear b6 h6 hr6 hm6
  go_wp2_with (fail)
  have h0 := c_same A3 c3 l3 A4 c4 l4 true (by rw [decide_eq_true_iff]; exact HM3.out.trans HM4.out.symm) w6 HR3_6.out HR4_6.out
  go_at_call 17
  refine h0.mono ?_
  clear h0
  rintro e w7 ⟨rfl, b7⟩
  have HB7 := Lib.hid (below_join HB6.out b7 HB6.out.size)
  have HL7 := Lib.hid (HL6.out.on b7 (Nat.le_refl _))
  have HZ7 := Lib.hid (HZ6.out.on b7 (Nat.le_refl _))
  have HR5_7 := Lib.hid (HR5_6.out.on b7 (Nat.le_refl _))
  have HR6_7 := Lib.hid (HR6_6.out.on b7 (Nat.le_refl _))
  clear b7
  go_wp2_with (fail)
  have h0 := c_same A5 c5 l5 A6 c6 l6 true (by rw [decide_eq_true_iff]; exact HM5.out.trans HM6.out.symm) w7 HR5_7.out HR6_7.out
  go_at_call 17
  refine h0.mono ?_
  clear h0
  rintro e w8 ⟨rfl, b8⟩
  have HB8 := Lib.hid (below_join HB7.out b8 HB7.out.size)
  have HL8 := Lib.hid (HL7.out.on b8 (Nat.le_refl _))
  have HZ8 := Lib.hid (HZ7.out.on b8 (Nat.le_refl _))
  clear b8
  go_wp2_with (fail)
  go_at_call 18
  refine (HC5.out w8 HL8.out).mono ?_
  rintro e w9 ⟨rfl, b9⟩
  have HB9 := Lib.hid (below_join HB8.out b9 HB8.out.size)
  have HL9 := Lib.hid (HL8.out.on b9 (Nat.le_refl _))
  have HZ9 := Lib.hid (HZ8.out.on b9 (Nat.le_refl _))
  clear b9
  go_wp2_with (fail)
  go_at_call 19
  refine (HC6.out w9 HZ9.out).mono ?_
  rintro e w10 ⟨rfl, b10⟩
  have HB10 := Lib.hid (below_join HB9.out b10 HB9.out.size)
  have HL10 := Lib.hid (HL9.out.on b10 (Nat.le_refl _))
  have HZ10 := Lib.hid (HZ9.out.on b10 (Nat.le_refl _))
  clear b10
  go_wp2_with (fail)
  have h0 := c_same A1 c1 ys A2 c2 zs true (by rw [decide_eq_true_iff]; exact HSM.out) w10 HL10.out HZ10.out
  rw [HQ.out, HQ2.out] at h0
  go_at_call 17
  refine h0.mono ?_
  clear h0
  rintro e w11 ⟨rfl, b11⟩
  have HB11 := Lib.hid (below_join HB10.out b11 HB10.out.size)
  have HL11 := Lib.hid (HL10.out.on b11 (Nat.le_refl _))
  have HZ11 := Lib.hid (HZ10.out.on b11 (Nat.le_refl _))
  clear b11
  go_wp2_with (fail)
  go_at_call 20
  refine (c_works w11).mono ?_
  rintro e w12 ⟨rfl, b12⟩
  have HB12 := Lib.hid (below_join HB11.out b12 HB11.out.size)
  clear b12
  go_wp2_with (fail)
  go_ret
  exact ⟨rfl, HB12.out⟩
end Go.Proofs.Yticppddghjdmaaa
