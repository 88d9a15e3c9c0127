/-
  DERIVED. The law OrderIdeals (stage 10).
-/
import Derived.Test.YticppddghjdmaaaPB6
set_option linter.unusedVariables false
set_option linter.unusedSimpArgs false
namespace Go.Proofs.Yticppddghjdmaaa
open Go.RowKit Go.Shelf
attribute [local go_sem] Oper.semAt_some
set_option maxRecDepth 100000
set_option linter.unusedVariables false
set_option linter.unusedSimpArgs false

/-- What a list of an answer is. -/
def nmL (n : Int) (L : List Nat) : List Int := if n = 0 then intsN L else []
theorem nm_any {w : World} {n : Int} {L : List Nat} {e : Ending} {w' : World} (h : NmTo w n L e w') : ∃ A c, e = .returned (.tuple #[.slice A (nmL n L).length c, .int .i64 n]) ∧ Rv 1 inV w' A c (nmL n L) ∧ Below w.heap.size w w' := by
  obtain ⟨⟨h0, rfl⟩ | ⟨rfl, v, rfl, ho⟩, hb⟩ := h
  · refine ⟨none, 0, ?_, ?_, hb⟩
    · unfold nmL; rw [if_neg h0]; rfl
    · unfold nmL; rw [if_neg h0]; exact Rv.nil _
  · obtain ⟨A, c, rfl, hr⟩ := nm_own ho (M := nmL 0 L) (by unfold nmL; rw [if_pos rfl])
    exact ⟨A, c, rfl, hr, hb⟩
set_option maxHeartbeats 16000000 in
theorem row_OrderIdeals (w : World) (A : Option Addr) (c : Nat) (xs : List LsV) (h : LsAt w A c xs) (x : Int) :
    Calls Try.prog 4 #[.slice A xs.length c, .int .i64 x] w fun e w' => e = .returned (.bool true) ∧ Below w.heap.size w w' := by
  have HO := Lib.hid (c_own A c xs w h)
  clear h
  go_enter Try.func4, Try.ntmps4
  go_wp2_with (fail)
  go_at_call 12
  refine HO.out.mono ?_
  rintro e w1 ⟨v, ys, rfl, ho, -, b1⟩
  obtain ⟨A1, c1, rfl, hl1⟩ := ho.ls
  have HB1 := Lib.hid b1
  have HL1 := Lib.hid hl1
  have HC1 := Lib.hid (fun (X : World) (hX : LsAt X A1 c1 ys) => c_IsIdeal A1 c1 ys x X hX)
  have HC2 := Lib.hid (fun (X : World) (hX : LsAt X A1 c1 ys) => c_rrIsIdeal A1 c1 ys x X hX)
  have HC3 := Lib.hid (fun (X : World) (hX : LsAt X A1 c1 ys) => c_Ideals A1 c1 ys X hX)
  have HC4 := Lib.hid (fun (X : World) (hX : LsAt X A1 c1 ys) => c_rrIdeals A1 c1 ys X hX)
  have HC5 := Lib.hid (fun (X : World) (hX : LsAt X A1 c1 ys) => c_Enabled A1 c1 ys x X hX)
  have HC6 := Lib.hid (fun (X : World) (hX : LsAt X A1 c1 ys) => c_rrEnabledOf A1 c1 ys x X hX)
  obtain ⟨b, hb⟩ : ∃ b, isA ys x = b := ⟨_, rfl⟩
  obtain ⟨n, hn⟩ : ∃ n, askN ys x = n := ⟨_, rfl⟩
  obtain ⟨m, hm⟩ : ∃ n, rdN ys = n := ⟨_, rfl⟩
  obtain ⟨k, hk⟩ : ∃ n, enN ys x = n := ⟨_, rfl⟩
  obtain ⟨L1, hL1⟩ : ∃ L, idL (ordF ys) (2 ^ ys.length) = L := ⟨_, rfl⟩
  obtain ⟨L2, hL2⟩ : ∃ L, enL ys.length (ordF ys) x.toNat = L := ⟨_, rfl⟩
  rw [hb, hn] at HC1 HC2
  rw [hm, hL1] at HC3 HC4
  rw [hk, hL2] at HC5 HC6
  clear ho b1 hl1 hb hn hm hk hL1 hL2
  go_wp2_with (fail)
  go_at_call 21
  refine (HC1.out w1 HL1.out).mono ?_
  rintro e w2 ⟨rfl, b2⟩
  have HB2 := Lib.hid (below_join HB1.out b2 HB1.out.size)
  have HL2 := Lib.hid (HL1.out.on b2 (Nat.le_refl _))
  clear b2
  go_wp2_with (fail)
  go_at_call 22
  refine (HC2.out w2 HL2.out).mono ?_
  rintro e w3 ⟨rfl, b3⟩
  have HB3 := Lib.hid (below_join HB2.out b3 HB2.out.size)
  have HL3 := Lib.hid (HL2.out.on b3 (Nat.le_refl _))
  clear b3
  go_wp2_with (fail)
  go_at_call 23
  refine (HC3.out w3 HL3.out).mono ?_
  intro e w4 h4
  obtain ⟨A4, c4, rfl, hr4, b4⟩ := nm_any h4
  have HB4 := Lib.hid (below_join HB3.out b4 HB3.out.size)
  have HL4 := Lib.hid (HL3.out.on b4 (Nat.le_refl _))
  have HR4 := Lib.hid hr4
  clear b4 h4 hr4
  go_wp2_with (fail)
  go_at_call 24
  refine (HC4.out w4 HL4.out).mono ?_
  intro e w5 h5
  obtain ⟨A5, c5, rfl, hr5, b5⟩ := nm_any h5
  have HB5 := Lib.hid (below_join HB4.out b5 HB4.out.size)
  have HL5 := Lib.hid (HL4.out.on b5 (Nat.le_refl _))
  have HR45 := Lib.hid (HR4.out.on b5 (Nat.le_refl _))
  have HR5 := Lib.hid hr5
  clear b5 h5 hr5
  go_wp2_with (fail)
  go_at_call 25
  refine (c_eqInts A4 c4 (nmL m L1) A5 c5 (nmL m L1) true (by simp) w5 HR45.out HR5.out).mono ?_
  rintro e w6 ⟨rfl, b6⟩
  have HB6 := Lib.hid (below_join HB5.out b6 HB5.out.size)
  have HL6 := Lib.hid (HL5.out.on b6 (Nat.le_refl _))
  clear b6
  go_wp2_with (fail)
  go_at_call 26
  refine (HC5.out w6 HL6.out).mono ?_
  intro e w7 h7
  obtain ⟨A7, c7, rfl, hr7, b7⟩ := nm_any h7
  have HB7 := Lib.hid (below_join HB6.out b7 HB6.out.size)
  have HL7 := Lib.hid (HL6.out.on b7 (Nat.le_refl _))
  have HR7 := Lib.hid hr7
  clear b7 h7 hr7
  go_wp2_with (fail)
  go_at_call 27
  refine (HC6.out w7 HL7.out).mono ?_
  intro e w8 h8
  obtain ⟨A8, c8, rfl, hr8, b8⟩ := nm_any h8
  have HB8 := Lib.hid (below_join HB7.out b8 HB7.out.size)
  have HR78 := Lib.hid (HR7.out.on b8 (Nat.le_refl _))
  have HR8 := Lib.hid hr8
  clear b8 h8 hr8
  go_wp2_with (fail)
  go_at_call 25
  refine (c_eqInts A7 c7 (nmL k L2) A8 c8 (nmL k L2) true (by simp) w8 HR78.out HR8.out).mono ?_
  rintro e w9 ⟨rfl, b9⟩
  have HB9 := Lib.hid (below_join HB8.out b9 HB8.out.size)
  clear b9
  go_wp2_with (fail)
  go_at_call 20
  refine (c_works w9).mono ?_
  rintro e w10 ⟨rfl, b10⟩
  have HB10 := Lib.hid (below_join HB9.out b10 HB9.out.size)
  clear b10
  go_wp2_with (fail)
  go_ret
  exact ⟨rfl, HB10.out⟩
end Go.Proofs.Yticppddghjdmaaa
