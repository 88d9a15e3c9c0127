/-
  DERIVED. live of the law (stage 12).
-/
import Derived.Test.YtoknombajocjlaaCH
namespace Go.Proofs.Ytoknombajocjlaa
open Go.RowKit
set_option maxRecDepth 100000
set_option linter.unusedVariables false
set_option linter.unusedSimpArgs false

set_option maxHeartbeats 16000000 in
theorem c_live (w : World) : Calls Try.prog 9 #[] w fun e w' => e = .returned (.bool true) ∧ Below w.heap.size w w' := by
  have HE := Lib.hid (fun (X : World) => c_example X)
  have HV := Lib.hid (fun (p : SP) (X : World) (h : SiAt X p exD) => c_stValid p exD true (by decide +kernel) X h)
  have HN := Lib.hid (show ∀ (p : SP) (X : World), SiAt X p exD → Calls Try.prog 12 #[siV p exD, .int .u8 3] X fun e w' => e = .returned (.int .i64 4) ∧ Below X.heap.size X w' from fun p X h => c_Count p exD 3 (by decide) 4 (by decide +kernel) X h)
  have HD := Lib.hid (show ∀ (p : SP) (X : World), SiAt X p exD → Calls Try.prog 14 #[siV p exD, .int .u8 3, .int .i64 2] X fun e w' => e = .returned (.int .i64 2) ∧ Below X.heap.size X w' from fun p X h => c_DomainOf p exD 3 (by decide) 2 2 (by decide +kernel) X h)
  have HM := Lib.hid (show ∀ (p : SP) (X : World), SiAt X p exD → Calls Try.prog 17 #[siV p exD, .int .u8 2, .int .i64 0] X fun e w' => ∃ v, e = .returned v ∧ w'.ownsRow X.heap.size 3 1 v [(0 : Int), 1].length (ints [0, 1]) ∧ Below X.heap.size X w' from fun p X h => by
    have h := c_Members p exD 2 (by decide) 0 X h
    rw [show memD exD 2 0 = [0, 1] by decide +kernel] at h
    exact h)
  go_enter Try.func9, Try.ntmps9
  go_wp2_with (fail)
  go_at_call 19
  refine (HE.out w).mono ?_
  rintro e w1 ⟨rfl, a1, b1⟩
  have A1 := Lib.hid a1
  have K1 := Lib.hid b1
  clear a1 b1
  obtain ⟨p1, hp1⟩ : ∃ p, exP w.heap.size = p := ⟨_, rfl⟩
  rw [hp1] at A1 ⊢
  clear hp1
  go_wp2_with (fail)
  go_at_call 10
  refine (HV.out p1 w1 A1.out).mono ?_
  rintro e w2 ⟨rfl, b2⟩
  have K2 := Lib.hid (below_join K1.out b2 K1.out.size)
  clear b2
  go_wp2_with (fail)
  go_at_call 19
  refine (HE.out w2).mono ?_
  rintro e w3 ⟨rfl, a3, b3⟩
  have A3 := Lib.hid a3
  have K3 := Lib.hid (below_join K2.out b3 K2.out.size)
  clear a3 b3
  obtain ⟨p3, hp3⟩ : ∃ p, exP w2.heap.size = p := ⟨_, rfl⟩
  rw [hp3] at A3 ⊢
  clear hp3
  go_wp2_with (fail)
  go_at_call 12
  refine (HN.out p3 w3 A3.out).mono ?_
  rintro e w4 ⟨rfl, b4⟩
  have K4 := Lib.hid (below_join K3.out b4 K3.out.size)
  clear b4
  go_wp2_with (fail)
  go_at_call 19
  refine (HE.out w4).mono ?_
  rintro e w5 ⟨rfl, a5, b5⟩
  have A5 := Lib.hid a5
  have K5 := Lib.hid (below_join K4.out b5 K4.out.size)
  clear a5 b5
  obtain ⟨p5, hp5⟩ : ∃ p, exP w4.heap.size = p := ⟨_, rfl⟩
  rw [hp5] at A5 ⊢
  clear hp5
  go_wp2_with (fail)
  go_at_call 14
  refine (HD.out p5 w5 A5.out).mono ?_
  rintro e w6 ⟨rfl, b6⟩
  have K6 := Lib.hid (below_join K5.out b6 K5.out.size)
  clear b6
  go_wp2_with (fail)
  go_at_call 19
  refine (HE.out w6).mono ?_
  rintro e w7 ⟨rfl, a7, b7⟩
  have A7 := Lib.hid a7
  have K7 := Lib.hid (below_join K6.out b7 K6.out.size)
  clear a7 b7
  obtain ⟨p7, hp7⟩ : ∃ p, exP w6.heap.size = p := ⟨_, rfl⟩
  rw [hp7] at A7 ⊢
  clear hp7
  go_wp2_with (fail)
  go_at_call 17
  refine (HM.out p7 w7 A7.out).mono ?_
  rintro e w8 ⟨v, rfl, ho, b8⟩
  have K8 := Lib.hid (below_join K7.out b8 K7.out.size)
  obtain ⟨A, c, rfl, hrw⟩ := own_rw ho
  have RW := Lib.hid hrw
  clear b8 ho hrw
  obtain ⟨V, hV⟩ : ∃ X, X = w8.alloc (.cells #[.int .i64 0, .int .i64 1] 3) := ⟨_, rfl⟩
  have bV : Below w8.heap.size w8 V := by subst hV; exact (Below.refl _ _).alloc (Nat.le_refl _) _
  have RV := Lib.hid (show Rw 1 inF V (some ⟨w8.heap.size, 0, none⟩) 2 [(0 : Int), 1] by subst hV; exact rw_lit [0, 1] (by simp [maxLen]) _)
  have HI := Lib.hid (show Calls Try.prog 16 #[.slice A 2 c, .slice (some ⟨w8.heap.size, 0, none⟩) 2 2] V fun e w' => e = .returned (.bool true) ∧ Below V.heap.size V w' from c_Ints A (some ⟨w8.heap.size, 0, none⟩) c 2 [0, 1] [0, 1] V (RW.out.on bV (Nat.le_refl _)) RV.out true (by decide))
  have KV := Lib.hid (below_join K8.out bV K8.out.size)
  clear bV
  go_wp2_with (fail)
  rw [← hV]
  clear hV
  go_at_call 16
  refine HI.out.mono ?_
  rintro e w9 ⟨rfl, b9⟩
  have K9 := Lib.hid (below_join KV.out b9 KV.out.size)
  clear b9
  go_wp2_with (fail)
  go_ret
  exact ⟨rfl, K9.out⟩
end Go.Proofs.Ytoknombajocjlaa
