/-
  The law CoolingKnown (written by gen/cool_LF.py).
-/
import Derived.Test.YtpokpgnclohiiaaQO1
set_option linter.unusedVariables false
set_option linter.unusedSimpArgs false
namespace Go.Proofs.Ytpokpgnclohiiaa
open Go.RowKit
set_option maxRecDepth 100000
set_option linter.unusedVariables false
set_option linter.unusedSimpArgs false

def wantL : List Int := [0, 0, 150, 300]
theorem ex_w (j : Nat) (h : j < 4) : hdE true exD 0 0 (j : Int) = 0 ∧ wantL[j]? = some (afV true 400 exD 0 0 (j : Int)) := by
  match j, h with
  | 0, _ => constructor <;> decide +kernel
  | 1, _ => constructor <;> decide +kernel
  | 2, _ => constructor <;> decide +kernel
  | 3, _ => constructor <;> decide +kernel
theorem ex_a5 : hdE true exD 0 500 1 = 0 ∧ afV true 400 exD 0 500 1 = 250 := by constructor <;> decide +kernel
theorem ex_l3 : lonE true exD 0 300 200 = 0 ∧ lonV true 400 exD 0 300 200 = -1 := by
  constructor
  · decide +kernel
  · have h0 : hdE true exD 0 300 1000 = 0 := by decide +kernel
    have e1000 : (1000 : Int).toNat = 1000 := by decide
    rw [lonV_yes (by decide +kernel)]
    have hl : (hdL true 400 exD 0 300 1000).length = 1001 := by rw [hdL_len h0, e1000]
    have hg : (hdL true 400 exD 0 300 1000)[0]? = some 300 := by
      unfold hdL
      rw [if_pos h0]; rfl
    rw [last_found (m := 0) hl (fun j y hj => absurd hj (by omega)) (by omega) (.inr ⟨_, hg, by decide⟩)]
    rfl
theorem ex_a1 : hdE true exD 1 0 0 = 1 ∧ afV true 0 exD 1 0 0 = 0 := by constructor <;> decide +kernel
theorem ex_a01 : hdE true exD 0 0 1001 = 1 ∧ afV true 400 exD 0 0 1001 = 0 := by
  have h : hdE true exD 0 0 1001 = 1 := by decide +kernel
  exact ⟨h, by unfold afV; rw [hd_no h]; rfl⟩
theorem ex_lm : lonE true exD 0 0 (-1) = 1 ∧ lonV true 400 exD 0 0 (-1) = 0 := by
  have h : lonE true exD 0 0 (-1) = 1 := by decide +kernel
  exact ⟨h, lonV_no (by rw [h]; decide)⟩
theorem exAfter1 (p : SP) (A : Option Addr) (c : Nat) (q : WP) (w : World) (h1 : SiAt w p exD) (h2 : WiAt w A c wxs) (h3 : WoAt w q exW) :
    Calls Try.prog 8 #[.agg #[.slice p.a1 exD.feeds.length p.c1, .slice p.a2 exD.brks.length p.c2, .slice p.a3 exD.loops.length p.c3, .slice p.a4 exD.racks.length p.c4, .int .i64 exD.sw, .slice p.a5 exD.links.length p.c5, .slice p.a6 exD.hosts.length p.c6], .agg #[.slice A wxs.length c], .agg #[.slice q.a1 exW.hosts.length q.c1, .slice q.a2 exW.reps.length q.c2], .int .i64 1, .int .i64 0, .int .i64 0] w fun e w' => e = .returned (.tuple #[.int .i64 0, .int .i64 1]) ∧ Below w.heap.size w w' := c_coAfter (exZ p A c q) true (exZ_ok p A c q) 1 0 0 w ⟨h1, h2, h3⟩ 0 (ex_heat1 p A c q) 1 ex_a1.1 0 ex_a1.2
set_option maxHeartbeats 32000000 in
theorem row_CoolingKnown (w : World) : Calls Try.prog 4 #[] w fun e w' => e = .returned (.bool true) ∧ Below w.heap.size w w' := by
  have HLV := Lib.hid (fun (X : World) => c_live X)
  obtain ⟨W, hW⟩ : ∃ W, W = w.alloc (.cells #[.int .i64 0, .int .i64 0, .int .i64 150, .int .i64 300] 3) := ⟨_, rfl⟩
  have HB := Lib.hid (show Below w.heap.size w W by rw [hW]; exact (Below.refl _ _).alloc (Nat.le_refl _) _)
  have HBX := Lib.hid (show W.heap[w.heap.size]? = some (.cells #[.int .i64 0, .int .i64 0, .int .i64 150, .int .i64 300] 3 (0, 0)) by rw [hW]; exact box_new _ _ _)
  have HWT := Lib.hid (fun (X : World) (hX : Below W.heap.size W X) (j : Nat) (y : Int) (hy : wantL[j]? = some y) => (by
    have hb := box_on HBX.out hX (Nat.le_refl _)
    refine cell_of hb ?_
    show (wantL.map (fun x => Value.int .i64 x)).toArray[j]? = _
    rw [List.getElem?_toArray, List.getElem?_map, hy]; rfl : X.cell? ⟨w.heap.size, j, none⟩ = some (.int .i64 y)))
  have HKW := Lib.hid (Below.refl W.heap.size W)
  have hle := HB.out.size
  generalize hBB : w.heap.size = B at *
  go_enter Try.func4, Try.ntmps4
  go_wp2_with (fail)
  rw [← hW]
  clear hW
  go_loopw [2] (fun i wr => ∃ j : Nat, j ≤ 4 ∧ i = .int .i64 (j : Int) ∧ Hid (Below W.heap.size W wr)) (fun i _ => 4 - (intOf i).toNat)
  case atStart => exact ⟨0, Nat.zero_le _, rfl, HKW⟩
  case round =>
    obtain ⟨j, hj, rfl, HKwr⟩ := hrel
    have hji : ((j : Nat) : Int).toNat = j := by omega
    by_cases hlt : j < 4
    · have hlt2 : (j : Int) < 4 := by omega
      obtain ⟨a, ha⟩ : ∃ a, afV true 400 exD 0 0 (j : Int) = a := ⟨_, rfl⟩
      have HA := Lib.hid ha
      have HW2 := Lib.hid (show wantL[j]? = some a by rw [← ha]; exact (ex_w j hlt).2)
      have HE := Lib.hid (ex_w j hlt).1
      clear ha
      go_wp2_with (fail)
      go_at_call 9
      refine (c_siteTo wr).mono ?_
      rintro e v1 ⟨p, rfl, h1, bb⟩
      have HKv1 := Lib.hid (below_join HKwr.out bb HKwr.out.size)
      have S1v1 := Lib.hid h1; clear h1
      clear bb
      unfold siV
      go_wp2_with (fail)
      go_at_call 10
      refine (c_wishTo v1).mono ?_
      rintro e v2 ⟨A, c, rfl, h1, bb⟩
      have HKv2 := Lib.hid (below_join HKv1.out bb HKv1.out.size)
      have S1v2 := Lib.hid (S1v1.out.on bb (Nat.le_refl _))
      have S2v2 := Lib.hid h1; clear h1
      clear bb
      go_wp2_with (fail)
      go_at_call 11
      refine (c_exTo v2).mono ?_
      rintro e v3 ⟨q, rfl, h1, bb⟩
      have HKv3 := Lib.hid (below_join HKv2.out bb HKv2.out.size)
      have S1v3 := Lib.hid (S1v2.out.on bb (Nat.le_refl _))
      have S2v3 := Lib.hid (S2v2.out.on bb (Nat.le_refl _))
      have S3v3 := Lib.hid h1; clear h1
      clear bb
      go_wp2_with (fail)
      go_at_call 8
      refine (exAfter p A c q 0 0 (j : Int) 0 a rfl HE.out HA.out v3 S1v3.out S2v3.out S3v3.out).mono ?_
      rintro e v4 ⟨rfl, bb⟩
      have HKv4 := Lib.hid (below_join HKv3.out bb HKv3.out.size)
      have S1v4 := Lib.hid (S1v3.out.on bb (Nat.le_refl _))
      have S2v4 := Lib.hid (S2v3.out.on bb (Nat.le_refl _))
      have S3v4 := Lib.hid (S3v3.out.on bb (Nat.le_refl _))
      clear bb
      have x0 := HWT.out v4 HKv4.out j a HW2.out
      go_wp2_with (fail)
      go_roundw
      case rel => exact ⟨j + 1, by omega, by go_num, HKv4⟩
      case measure => simp only [intOf]; omega
    · obtain rfl : j = 4 := by omega
      go_wp2_with (fail)
      go_at_call 9
      refine (c_siteTo wr).mono ?_
      rintro e v5 ⟨p, rfl, h1, bb⟩
      have HKv5 := Lib.hid (below_join HKwr.out bb HKwr.out.size)
      have S1v5 := Lib.hid h1; clear h1
      clear bb
      unfold siV
      go_wp2_with (fail)
      go_at_call 10
      refine (c_wishTo v5).mono ?_
      rintro e v6 ⟨A, c, rfl, h1, bb⟩
      have HKv6 := Lib.hid (below_join HKv5.out bb HKv5.out.size)
      have S1v6 := Lib.hid (S1v5.out.on bb (Nat.le_refl _))
      have S2v6 := Lib.hid h1; clear h1
      clear bb
      go_wp2_with (fail)
      go_at_call 11
      refine (c_exTo v6).mono ?_
      rintro e v7 ⟨q, rfl, h1, bb⟩
      have HKv7 := Lib.hid (below_join HKv6.out bb HKv6.out.size)
      have S1v7 := Lib.hid (S1v6.out.on bb (Nat.le_refl _))
      have S2v7 := Lib.hid (S2v6.out.on bb (Nat.le_refl _))
      have S3v7 := Lib.hid h1; clear h1
      clear bb
      go_wp2_with (fail)
      go_at_call 8
      refine (exAfter p A c q 0 500 1 0 250 rfl ex_a5.1 ex_a5.2 v7 S1v7.out S2v7.out S3v7.out).mono ?_
      rintro e v8 ⟨rfl, bb⟩
      have HKv8 := Lib.hid (below_join HKv7.out bb HKv7.out.size)
      have S1v8 := Lib.hid (S1v7.out.on bb (Nat.le_refl _))
      have S2v8 := Lib.hid (S2v7.out.on bb (Nat.le_refl _))
      have S3v8 := Lib.hid (S3v7.out.on bb (Nat.le_refl _))
      clear bb
      go_wp2_with (fail)
      go_at_call 9
      refine (c_siteTo v8).mono ?_
      rintro e v9 ⟨p, rfl, h1, bb⟩
      have HKv9 := Lib.hid (below_join HKv8.out bb HKv8.out.size)
      have S1v9 := Lib.hid h1; clear h1
      clear bb
      unfold siV
      go_wp2_with (fail)
      go_at_call 10
      refine (c_wishTo v9).mono ?_
      rintro e v10 ⟨A, c, rfl, h1, bb⟩
      have HKv10 := Lib.hid (below_join HKv9.out bb HKv9.out.size)
      have S1v10 := Lib.hid (S1v9.out.on bb (Nat.le_refl _))
      have S2v10 := Lib.hid h1; clear h1
      clear bb
      go_wp2_with (fail)
      go_at_call 11
      refine (c_exTo v10).mono ?_
      rintro e v11 ⟨q, rfl, h1, bb⟩
      have HKv11 := Lib.hid (below_join HKv10.out bb HKv10.out.size)
      have S1v11 := Lib.hid (S1v10.out.on bb (Nat.le_refl _))
      have S2v11 := Lib.hid (S2v10.out.on bb (Nat.le_refl _))
      have S3v11 := Lib.hid h1; clear h1
      clear bb
      go_wp2_with (fail)
      go_at_call 12
      refine (exLon p A c q 300 200 0 (-1) ex_l3.1 ex_l3.2 v11 S1v11.out S2v11.out S3v11.out).mono ?_
      rintro e v12 ⟨rfl, bb⟩
      have HKv12 := Lib.hid (below_join HKv11.out bb HKv11.out.size)
      have S1v12 := Lib.hid (S1v11.out.on bb (Nat.le_refl _))
      have S2v12 := Lib.hid (S2v11.out.on bb (Nat.le_refl _))
      have S3v12 := Lib.hid (S3v11.out.on bb (Nat.le_refl _))
      clear bb
      go_wp2_with (fail)
      go_at_call 9
      refine (c_siteTo v12).mono ?_
      rintro e v13 ⟨p, rfl, h1, bb⟩
      have HKv13 := Lib.hid (below_join HKv12.out bb HKv12.out.size)
      have S1v13 := Lib.hid h1; clear h1
      clear bb
      unfold siV
      go_wp2_with (fail)
      go_at_call 10
      refine (c_wishTo v13).mono ?_
      rintro e v14 ⟨A, c, rfl, h1, bb⟩
      have HKv14 := Lib.hid (below_join HKv13.out bb HKv13.out.size)
      have S1v14 := Lib.hid (S1v13.out.on bb (Nat.le_refl _))
      have S2v14 := Lib.hid h1; clear h1
      clear bb
      go_wp2_with (fail)
      go_at_call 11
      refine (c_exTo v14).mono ?_
      rintro e v15 ⟨q, rfl, h1, bb⟩
      have HKv15 := Lib.hid (below_join HKv14.out bb HKv14.out.size)
      have S1v15 := Lib.hid (S1v14.out.on bb (Nat.le_refl _))
      have S2v15 := Lib.hid (S2v14.out.on bb (Nat.le_refl _))
      have S3v15 := Lib.hid h1; clear h1
      clear bb
      go_wp2_with (fail)
      go_at_call 8
      refine (exAfter1 p A c q v15 S1v15.out S2v15.out S3v15.out).mono ?_
      rintro e v16 ⟨rfl, bb⟩
      have HKv16 := Lib.hid (below_join HKv15.out bb HKv15.out.size)
      have S1v16 := Lib.hid (S1v15.out.on bb (Nat.le_refl _))
      have S2v16 := Lib.hid (S2v15.out.on bb (Nat.le_refl _))
      have S3v16 := Lib.hid (S3v15.out.on bb (Nat.le_refl _))
      clear bb
      go_wp2_with (fail)
      go_at_call 9
      refine (c_siteTo v16).mono ?_
      rintro e v17 ⟨p, rfl, h1, bb⟩
      have HKv17 := Lib.hid (below_join HKv16.out bb HKv16.out.size)
      have S1v17 := Lib.hid h1; clear h1
      clear bb
      unfold siV
      go_wp2_with (fail)
      go_at_call 10
      refine (c_wishTo v17).mono ?_
      rintro e v18 ⟨A, c, rfl, h1, bb⟩
      have HKv18 := Lib.hid (below_join HKv17.out bb HKv17.out.size)
      have S1v18 := Lib.hid (S1v17.out.on bb (Nat.le_refl _))
      have S2v18 := Lib.hid h1; clear h1
      clear bb
      go_wp2_with (fail)
      go_at_call 11
      refine (c_exTo v18).mono ?_
      rintro e v19 ⟨q, rfl, h1, bb⟩
      have HKv19 := Lib.hid (below_join HKv18.out bb HKv18.out.size)
      have S1v19 := Lib.hid (S1v18.out.on bb (Nat.le_refl _))
      have S2v19 := Lib.hid (S2v18.out.on bb (Nat.le_refl _))
      have S3v19 := Lib.hid h1; clear h1
      clear bb
      go_wp2_with (fail)
      go_at_call 8
      refine (exAfter p A c q 0 0 1001 1 0 rfl ex_a01.1 ex_a01.2 v19 S1v19.out S2v19.out S3v19.out).mono ?_
      rintro e v20 ⟨rfl, bb⟩
      have HKv20 := Lib.hid (below_join HKv19.out bb HKv19.out.size)
      have S1v20 := Lib.hid (S1v19.out.on bb (Nat.le_refl _))
      have S2v20 := Lib.hid (S2v19.out.on bb (Nat.le_refl _))
      have S3v20 := Lib.hid (S3v19.out.on bb (Nat.le_refl _))
      clear bb
      go_wp2_with (fail)
      go_at_call 9
      refine (c_siteTo v20).mono ?_
      rintro e v21 ⟨p, rfl, h1, bb⟩
      have HKv21 := Lib.hid (below_join HKv20.out bb HKv20.out.size)
      have S1v21 := Lib.hid h1; clear h1
      clear bb
      unfold siV
      go_wp2_with (fail)
      go_at_call 10
      refine (c_wishTo v21).mono ?_
      rintro e v22 ⟨A, c, rfl, h1, bb⟩
      have HKv22 := Lib.hid (below_join HKv21.out bb HKv21.out.size)
      have S1v22 := Lib.hid (S1v21.out.on bb (Nat.le_refl _))
      have S2v22 := Lib.hid h1; clear h1
      clear bb
      go_wp2_with (fail)
      go_at_call 11
      refine (c_exTo v22).mono ?_
      rintro e v23 ⟨q, rfl, h1, bb⟩
      have HKv23 := Lib.hid (below_join HKv22.out bb HKv22.out.size)
      have S1v23 := Lib.hid (S1v22.out.on bb (Nat.le_refl _))
      have S2v23 := Lib.hid (S2v22.out.on bb (Nat.le_refl _))
      have S3v23 := Lib.hid h1; clear h1
      clear bb
      go_wp2_with (fail)
      go_at_call 12
      refine (exLon p A c q 0 (-1) 1 0 ex_lm.1 ex_lm.2 v23 S1v23.out S2v23.out S3v23.out).mono ?_
      rintro e v24 ⟨rfl, bb⟩
      have HKv24 := Lib.hid (below_join HKv23.out bb HKv23.out.size)
      have S1v24 := Lib.hid (S1v23.out.on bb (Nat.le_refl _))
      have S2v24 := Lib.hid (S2v23.out.on bb (Nat.le_refl _))
      have S3v24 := Lib.hid (S3v23.out.on bb (Nat.le_refl _))
      clear bb
      go_wp2_with (fail)
      go_at_call 9
      refine (c_siteTo v24).mono ?_
      rintro e v25 ⟨p, rfl, h1, bb⟩
      have HKv25 := Lib.hid (below_join HKv24.out bb HKv24.out.size)
      have S1v25 := Lib.hid h1; clear h1
      clear bb
      unfold siV
      go_wp2_with (fail)
      go_at_call 10
      refine (c_wishTo v25).mono ?_
      rintro e v26 ⟨A, c, rfl, h1, bb⟩
      have HKv26 := Lib.hid (below_join HKv25.out bb HKv25.out.size)
      have S1v26 := Lib.hid (S1v25.out.on bb (Nat.le_refl _))
      have S2v26 := Lib.hid h1; clear h1
      clear bb
      go_wp2_with (fail)
      go_at_call 11
      refine (c_exTo v26).mono ?_
      rintro e v27 ⟨q, rfl, h1, bb⟩
      have HKv27 := Lib.hid (below_join HKv26.out bb HKv26.out.size)
      have S1v27 := Lib.hid (S1v26.out.on bb (Nat.le_refl _))
      have S2v27 := Lib.hid (S2v26.out.on bb (Nat.le_refl _))
      have S3v27 := Lib.hid h1; clear h1
      clear bb
      go_wp2_with (fail)
      go_at_call 13
      refine (exHeat p A c q 1 0 (ex_heat1 p A c q) v27 S1v27.out S2v27.out S3v27.out).mono ?_
      rintro e v28 ⟨rfl, bb⟩
      have HKv28 := Lib.hid (below_join HKv27.out bb HKv27.out.size)
      have S1v28 := Lib.hid (S1v27.out.on bb (Nat.le_refl _))
      have S2v28 := Lib.hid (S2v27.out.on bb (Nat.le_refl _))
      have S3v28 := Lib.hid (S3v27.out.on bb (Nat.le_refl _))
      clear bb
      go_wp2_with (fail)
      go_at_call 6
      refine (HLV.out v28).mono ?_
      rintro e v29 ⟨rfl, bb⟩
      have HKv29 := Lib.hid (below_join HKv28.out bb HKv28.out.size)
      clear bb
      go_wp2_with (fail)
      go_ret
      exact ⟨rfl, below_join HB.out HKv29.out hle⟩
end Go.Proofs.Ytpokpgnclohiiaa
