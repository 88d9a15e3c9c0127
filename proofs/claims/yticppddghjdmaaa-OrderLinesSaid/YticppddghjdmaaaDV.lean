/-
  DERIVED. The law OrderLines (stage 10).
-/
import Derived.Test.YticppddghjdmaaaQB6
set_option linter.unusedVariables false
set_option linter.unusedSimpArgs false
namespace Go.Proofs.Yticppddghjdmaaa
open Go.RowKit Go.Shelf
attribute [local go_sem] Oper.semAt_some
set_option maxRecDepth 100000
set_option linter.unusedVariables false
set_option linter.unusedSimpArgs false

def hwV (n : Int) (k : Nat) : Int := if n = 0 then (k : Int) else 0
theorem hw_any {w : World} {n : Int} {P : Nat → Prop} {k0 : Nat} {e : Ending} {w' : World} (h : HwTo w n P e w') (hp : ∀ k, P k → k = k0) : e = .returned (.tuple #[.int .i64 (hwV n k0), .int .i64 n]) ∧ Below w.heap.size w w' := by
  obtain ⟨⟨h0, rfl⟩ | ⟨rfl, k, rfl, hk⟩, hb⟩ := h
  · exact ⟨by unfold hwV; rw [if_neg h0], hb⟩
  · exact ⟨by unfold hwV; rw [if_pos rfl, hp k hk], hb⟩
set_option maxHeartbeats 16000000 in
theorem row_OrderLines (w : World) (A : Option Addr) (c : Nat) (xs : List LsV) (h : LsAt w A c xs) (x : Int) (B : Option Addr) (d : Nat) (line : List Int) (h2 : Rv 1 inV w B d line) :
    Calls Try.prog 5 #[.slice A xs.length c, .int .i64 x, .slice B line.length d] w fun e w' => e = .returned (.bool true) ∧ Below w.heap.size w w' := by
  have hfm : Try.prog.follows Departure.mixedOrders = true := by kernel_rfl
  have HO := Lib.hid (c_own A c xs w.drew h)
  have HLI := Lib.hid h2
  have hc1 := h2.1; have hc2 := h2.2.1
  unfold maxLen at hc2
  obtain ⟨m, hm⟩ : ∃ m, m = min line.length 14 := ⟨_, rfl⟩
  have hmn : (if (14 : Int) < ((line.length : Nat) : Int) then (14 : Int) else ((line.length : Nat) : Int)) = (m : Int) := by split <;> omega
  have hm1 : m ≤ line.length := by omega
  have hm14 : m ≤ 14 := by omega
  have hmc : m ≤ d := by omega
  have hlm : (line.take m).length = m := by rw [List.length_take]; omega
  clear h h2 hm
  go_enter Try.func5, Try.ntmps5
  go_wp2_with (fail)
  refine region_zs (fun _ => false) (S := fun _ => True) hfm trivial (fun hHeld => ?_)
  refine takeZs 0 (some 15) (by kernel_rfl) rfl rfl rfl (by kernel_rfl) (by kernel_rfl) (by kernel_rfl) (by kernel_rfl) (fun _ _ _ h => h) (by rfl) (by intro w g1; go_simp; try with_reducible rfl) hHeld ?_
  simp only [Act.put, List.setIfInBounds_toArray, List.set_cons_zero, List.set_cons_succ]
  refine takeZs 2 (some 17) (by kernel_rfl) rfl rfl rfl (by kernel_rfl) (by kernel_rfl) (by kernel_rfl) (by kernel_rfl) (fun _ _ _ h => h) (by rfl) (by intro w g1; go_simp; try with_reducible rfl) hHeld ?_
  simp only [Act.put, List.setIfInBounds_toArray, List.set_cons_zero, List.set_cons_succ]
  refine takeZs 3 (some 18) (by kernel_rfl) rfl rfl rfl (by kernel_rfl) (by kernel_rfl) (by kernel_rfl) (by kernel_rfl) (fun _ _ _ h => h) (by rfl) (by intro w g1; go_simp; try with_reducible rfl) hHeld ?_
  simp only [Act.put, List.setIfInBounds_toArray, List.set_cons_zero, List.set_cons_succ]
  refine takeZs 4 (some 19) (by kernel_rfl) rfl rfl rfl (by kernel_rfl) (by kernel_rfl) (by kernel_rfl) (by kernel_rfl) (fun _ _ _ h => h) (by rfl) (by intro w g1; go_simp; try with_reducible rfl) hHeld ?_
  simp only [Act.put, List.setIfInBounds_toArray, List.set_cons_zero, List.set_cons_succ]
  refine takeZs 5 (some 20) (by kernel_rfl) rfl rfl rfl (by kernel_rfl) (by kernel_rfl) (by kernel_rfl) (by kernel_rfl) (fun _ _ _ h => h) (by rfl) (by intro w g1; go_simp; try with_reducible rfl) hHeld ?_
  simp only [Act.put, List.setIfInBounds_toArray, List.set_cons_zero, List.set_cons_succ]
  try rw [hmn]
  refine takeZs 6 (some 21) (by kernel_rfl) rfl rfl rfl (by kernel_rfl) (by kernel_rfl) (by kernel_rfl) (by kernel_rfl) (fun _ _ _ h => h) (by rfl) (by intro w g1; go_simp; try with_reducible rfl) hHeld ?_
  simp only [Act.put, List.setIfInBounds_toArray, List.set_cons_zero, List.set_cons_succ]
  refine oneZs 1 rfl (by kernel_rfl) (fun K hK => ?_)
  go_simp
  go_at_call 12
  refine HO.out.mono ?_
  rintro e w1 ⟨v, ys, rfl, ho, -, b1⟩
  obtain ⟨A1, c1, rfl, hl1⟩ := ho.ls
  have HB1 := Lib.hid (show Below w.heap.size w w1 from (Below.refl _ _).drew.trans b1)
  have HL1 := Lib.hid hl1
  have HR1 := Lib.hid ((HLI.out.on HB1.out (Nat.le_refl _)).take m hm1)
  refine hK.out _ _ (.inr trivial) ?_
  clear hK K ho b1 hl1
  try simp only [Act.put, List.setIfInBounds_toArray, List.set_cons_zero, List.set_cons_succ]
  refine takeZs 7 (some 0) (by kernel_rfl) rfl rfl rfl (by kernel_rfl) (by kernel_rfl) (by kernel_rfl) (by kernel_rfl) (fun _ _ _ h => h) (by rfl) (by intro w g1; go_simp; try with_reducible rfl) hHeld ?_
  simp only [Act.put, List.setIfInBounds_toArray, List.set_cons_zero, List.set_cons_succ]
  refine takeZs 8 (some 2) (by kernel_rfl) rfl rfl rfl (by kernel_rfl) (by kernel_rfl) (by kernel_rfl) (by kernel_rfl) (fun _ _ _ h => h) (by rfl) (by intro w g1; go_simp; try with_reducible rfl) hHeld ?_
  simp only [Act.put, List.setIfInBounds_toArray, List.set_cons_zero, List.set_cons_succ]
  refine doneZs (by kernel_rfl) ?_ _
  clear hHeld
  obtain ⟨lin, hlin⟩ : ∃ l, line.take m = l := ⟨_, rfl⟩
  rw [hlin] at HR1 hlm
  clear hlin
  have HC1 := Lib.hid (fun (X : World) (hX : LsAt X A1 c1 ys) => c_Count A1 c1 ys X hX)
  have HC2 := Lib.hid (fun (X : World) (hX : LsAt X A1 c1 ys) => c_rrCount A1 c1 ys X hX)
  have HC3 := Lib.hid (fun (X : World) (hX : LsAt X A1 c1 ys) => c_Nth A1 c1 ys x X hX)
  have HC4 := Lib.hid (fun (X : World) (hX : LsAt X A1 c1 ys) => c_rrNth A1 c1 ys x X hX)
  have HC5 := Lib.hid (fun (E : Option Addr) (f : Nat) (X : World) (hX : LsAt X A1 c1 ys) (hY : Rv 1 inV X E f lin) => c_Rank A1 c1 ys E f lin X hX hY)
  have HC6 := Lib.hid (fun (E : Option Addr) (f : Nat) (X : World) (hX : LsAt X A1 c1 ys) (hY : Rv 1 inV X E f lin) => c_rrRank A1 c1 ys E f lin X hX hY)
  have HC7 := Lib.hid (fun (X : World) (hX : Rv 1 inV X B d lin) => c_Clone B d lin (by rw [hlm]; omega) X hX)
  rw [hlm] at HC5 HC6 HC7
  have HP := Lib.hid (show ∀ k : Nat, rkL ys.length (ordF ys) lin 0 0 = some k → k = (rkL ys.length (ordF ys) lin 0 0).getD 0 from fun k h => by rw [h]; rfl)
  obtain ⟨n, hn⟩ : ∃ n, rdN ys = n := ⟨_, rfl⟩
  obtain ⟨u, hu⟩ : ∃ n, ntN ys x = n := ⟨_, rfl⟩
  obtain ⟨r, hr⟩ : ∃ n, rkN ys lin = n := ⟨_, rfl⟩
  obtain ⟨L1, hL1⟩ : ∃ L, nthL ys.length (ordF ys) ys.length 0 x.toNat = L := ⟨_, rfl⟩
  obtain ⟨k1, hk1⟩ : ∃ L, wyI ys.length (ordF ys) 0 = L := ⟨_, rfl⟩
  obtain ⟨k2, hk2⟩ : ∃ L, (rkL ys.length (ordF ys) lin 0 0).getD 0 = L := ⟨_, rfl⟩
  rw [hn, hk1] at HC1 HC2
  rw [hu, hL1] at HC3 HC4
  rw [hr] at HC5 HC6
  rw [hk2] at HP
  clear hn hu hr hL1 hk1 hk2
  go_wp2_with (fail)
  go_at_call 28
  refine (HC1.out w1 HL1.out).mono ?_
  intro e w2 h2
  obtain ⟨rfl, b2⟩ := hw_any h2 (k0 := k1) (fun k h => h)
  have HB2 := Lib.hid (below_join HB1.out b2 HB1.out.size)
  have HL2 := Lib.hid (HL1.out.on b2 (Nat.le_refl _))
  have HR2 := Lib.hid (HR1.out.on b2 (Nat.le_refl _))
  clear b2 h2
  go_wp2_with (fail)
  go_at_call 29
  refine (HC2.out w2 HL2.out).mono ?_
  intro e w3 h3
  obtain ⟨rfl, b3⟩ := hw_any h3 (k0 := k1) (fun k h => h)
  have HB3 := Lib.hid (below_join HB2.out b3 HB2.out.size)
  have HL3 := Lib.hid (HL2.out.on b3 (Nat.le_refl _))
  have HR3 := Lib.hid (HR2.out.on b3 (Nat.le_refl _))
  clear b3 h3
  go_wp2_with (fail)
  go_at_call 30
  refine (HC3.out w3 HL3.out).mono ?_
  intro e w4 h4
  obtain ⟨A4, c4, rfl, hr4, b4⟩ := nm_any h4
  have HB4 := Lib.hid (below_join HB3.out b4 HB3.out.size)
  have HL4 := Lib.hid (HL3.out.on b4 (Nat.le_refl _))
  have HR4 := Lib.hid (HR3.out.on b4 (Nat.le_refl _))
  have HQ4 := Lib.hid hr4
  clear b4 h4 hr4
  go_wp2_with (fail)
  go_at_call 31
  refine (HC4.out w4 HL4.out).mono ?_
  intro e w5 h5
  obtain ⟨A5, c5, rfl, hr5, b5⟩ := nm_any h5
  have HB5 := Lib.hid (below_join HB4.out b5 HB4.out.size)
  have HL5 := Lib.hid (HL4.out.on b5 (Nat.le_refl _))
  have HR5 := Lib.hid (HR4.out.on b5 (Nat.le_refl _))
  have HQ5 := Lib.hid hr5
  have HQ45 := Lib.hid (HQ4.out.on b5 (Nat.le_refl _))
  clear b5 h5 hr5
  go_wp2_with (fail)
  go_at_call 25
  refine (c_eqInts A4 c4 (nmL u L1) A5 c5 (nmL u L1) true (by simp) w5 HQ45.out HQ5.out).mono ?_
  rintro e w6 ⟨rfl, b6⟩
  have HB6 := Lib.hid (below_join HB5.out b6 HB5.out.size)
  have HL6 := Lib.hid (HL5.out.on b6 (Nat.le_refl _))
  have HR6 := Lib.hid (HR5.out.on b6 (Nat.le_refl _))
  clear b6
  go_wp2_with (fail)
  go_at_call 33
  refine (HC7.out w6 HR6.out).mono ?_
  rintro e w7 ⟨v7, rfl, ho7, b7⟩
  rw [← hlm] at ho7
  obtain ⟨A7, c7, rfl, hr7⟩ := own_rv ho7
  have HB7 := Lib.hid (below_join HB6.out b7 HB6.out.size)
  have HL7 := Lib.hid (HL6.out.on b7 (Nat.le_refl _))
  have HR7 := Lib.hid (HR6.out.on b7 (Nat.le_refl _))
  have HQ7 := Lib.hid hr7
  clear b7 ho7 hr7
  rw [hlm]
  go_wp2_with (fail)
  go_at_call 32
  refine (HC5.out A7 c7 w7 HL7.out HQ7.out).mono ?_
  intro e w8 h8
  obtain ⟨rfl, b8⟩ := hw_any h8 HP.out
  have HB8 := Lib.hid (below_join HB7.out b8 HB7.out.size)
  have HL8 := Lib.hid (HL7.out.on b8 (Nat.le_refl _))
  have HR8 := Lib.hid (HR7.out.on b8 (Nat.le_refl _))
  clear b8 h8
  go_wp2_with (fail)
  go_at_call 34
  refine (HC6.out B d w8 HL8.out HR8.out).mono ?_
  intro e w9 h9
  obtain ⟨rfl, b9⟩ := hw_any h9 HP.out
  have HB9 := Lib.hid (below_join HB8.out b9 HB8.out.size)
  have HL9 := Lib.hid (HL8.out.on b9 (Nat.le_refl _))
  have HR9 := Lib.hid (HR8.out.on b9 (Nat.le_refl _))
  clear b9 h9
  go_wp2_with (fail)
  go_at_call 20
  refine (c_works w9).mono ?_
  rintro e w10 ⟨rfl, b10⟩
  have HB10 := Lib.hid (below_join HB9.out b10 HB9.out.size)
  clear b10
  go_wp2_with (fail)
  go_ret
  exact ⟨rfl, HB10.out⟩
end Go.Proofs.Yticppddghjdmaaa
