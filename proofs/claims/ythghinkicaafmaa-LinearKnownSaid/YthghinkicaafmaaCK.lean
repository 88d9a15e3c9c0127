/-
  DERIVED. The law LinearKnown. (Written by gen/genCK.py.)
-/
import Derived.Test.YthghinkicaafmaaCH
import Derived.Test.YthghinkicaafmaaCJ
import Derived.Test.YthghinkicaafmaaBT
import Derived.Deep.Cut
namespace Go.Proofs.Ythghinkicaafmaa
open Go.RowKit
set_option maxRecDepth 100000

theorem bg_pts {X : World} {b : Nat} (h : X.heap[b]? = some (.cells (bgC 16) 41 (0, 0))) : PtSl X (.slice (some ⟨b, 0, none⟩) 16 16) bgP := by
  have := ptSl_lit bgP h (by rw [← bgPk_all]; unfold bgC; simp) (by decide +kernel)
  rw [show bgP.length = 16 by rfl] at this
  exact this
theorem cell_lt3' {w : World} {b o : Nat} {v : Value} (h : w.cell? ⟨b, o, none⟩ = some v) : b < w.heap.size := by
  unfold World.cell? at h
  cases hb : w.heap[b]? with
  | none => simp [hb] at h
  | some ob => exact (Array.getElem?_eq_some_iff.1 hb).1
theorem cell_but {X Y : World} {b c k : Nat} {v : Value} (h : But b X Y) (hn : c ≠ b) (hc : X.cell? ⟨c, k, none⟩ = some v) : Y.cell? ⟨c, k, none⟩ = some v := by
  have hlt := cell_lt3' hc
  have h1 := Array.getElem?_eq_getElem hlt
  have h2 := h.same c _ hn h1
  exact (World.cell?_of_block (w := X) (a := ⟨c, k, none⟩) (h2.trans h1.symm)).trans hc
set_option maxHeartbeats 32000000 in
theorem row_LinearKnown (w : World) : Calls Try.prog 9 #[] w fun e w' => e = .returned (.bool true) ∧ Below w.heap.size w w' := by
  have HA := Lib.hid (fun (X : World) (P I : Value) (k : Nat) (hk : k < 5) (hP : PtSl X P smP) (hI : LiSl X I [[7], [5, 6]]) => c_Arrives 10 smP [[7], [5, 6]] (k : Int) P I X hP hI (arr smP [[7], [5, 6]] (k : Int)) 0 (arr_k k hk) (by rw [if_pos rfl]))
  have HC1 := Lib.hid (fun (X : World) (P : Value) (C : Int) (ps : List (Int × Int × Int)) (hb : lnOk C ps = false) (hP : PtSl X P ps) => c_Course C ps (-1) [] (-1) P (.slice none 0 0) X hP (LiSl.nil X) 1 (fltL_bad hb) [] (by rw [if_neg (by decide)]))
  have HA1 := Lib.hid (fun (X : World) (P : Value) (C : Int) (ps : List (Int × Int × Int)) (hb : lnOk C ps = false) (hP : PtSl X P ps) => c_Arrives C ps [] (-1) P (.slice none 0 0) X hP (LiSl.nil X) 0 1 (fltL_bad hb) (by rw [if_neg (by decide)]))
  have HV1 := Lib.hid (fun (X : World) (P : Value) (C : Int) (ps : List (Int × Int × Int)) (hb : lnOk C ps = false) (hP : PtSl X P ps) => c_Valid C ps P X hP false hb)
  have HC2 := Lib.hid (fun (X : World) (P I : Value) (s n : Int) (ins : List (List Int)) (hf : fltL 10 smP s ins n = 2) (hP : PtSl X P smP) (hI : LiSl X I ins) => c_Course 10 smP s ins n P I X hP hI 2 hf [] (by rw [if_neg (by decide)]))
  have HK2 := Lib.hid (fun (X : World) (P I : Value) (s n : Int) (ins : List (List Int)) (hf : fltL 10 smP s ins n = 2) (hP : PtSl X P smP) (hI : LiSl X I ins) => c_Peak 10 smP s ins n P I X hP hI 0 0 2 hf (by rw [if_neg (by decide)]))
  have HF2 := Lib.hid (fun (X : World) (P I : Value) (s n : Int) (ins : List (List Int)) (hf : fltL 10 smP s ins n = 2) (hP : PtSl X P smP) (hI : LiSl X I ins) => c_First 10 smP s ins n 0 P I X hP hI 0 2 hf (by rw [if_neg (by decide)]))
  have HL2 := Lib.hid (fun (X : World) (P I : Value) (s n : Int) (ins : List (List Int)) (hf : fltL 10 smP s ins n = 2) (hP : PtSl X P smP) (hI : LiSl X I ins) => c_Least 10 smP s ins n (-1) P I X hP hI 0 2 (by rw [lstP_flt (by rw [hf]; decide), hf]))
  have HCB := Lib.hid (fun (X : World) (P I : Value) (hP : PtSl X P bgP) (hI : LiSl X I bgI) => c_Course 0 bgP 100000000 bgI 1000 P I X hP hI 0 bg_flt (crsP 0 bgP 100000000 bgI 1000) (by rw [if_pos rfl]))
  have HLB := Lib.hid (fun (X : World) (P I : Value) (hP : PtSl X P bgP) (hI : LiSl X I bgI) => c_Least 0 bgP 100000000 bgI 1000 100000000 P I X hP hI 0 7 bg_none)
  have HF5 := Lib.hid (fun (X : World) (P : Value) (hP : PtSl X P smP) => c_First 10 smP 5 [] 3 (-1) P (.slice none 0 0) X hP (LiSl.nil X) 0 0 (by decide +kernel) (by decide +kernel))
  have HF6 := Lib.hid (fun (X : World) (P : Value) (hP : PtSl X P smP) => c_First 10 smP 0 [] 3 0 P (.slice none 0 0) X hP (LiSl.nil X) (-1) 0 (by decide +kernel) (by decide +kernel))
  have HK6 := Lib.hid (fun (X : World) (P : Value) (hP : PtSl X P smP) => c_Peak 10 smP 0 [] 0 P (.slice none 0 0) X hP (LiSl.nil X) 0 0 0 (by decide +kernel) (by decide +kernel))
  have HLa := Lib.hid (fun (X : World) (P : Value) (hP : PtSl X P smP) => c_Least 10 smP 5 [] 4 4 P (.slice none 0 0) X hP (LiSl.nil X) 0 7 lst_a)
  have HLb := Lib.hid (fun (X : World) (P : Value) (hP : PtSl X P smP) => c_Least 10 smP 5 [] 4 5 P (.slice none 0 0) X hP (LiSl.nil X) 0 0 lst_b)
  have HLc := Lib.hid (fun (X : World) (P : Value) (hP : PtSl X P smP) => c_Least 10 smP 0 [] 0 (-1) P (.slice none 0 0) X hP (LiSl.nil X) 0 7 lst_c)
  unfold lnV at HA HC1 HA1 HV1 HC2 HK2 HF2 HL2 HCB HLB HF5 HF6 HK6 HLa HLb HLc
  have hmk1 := mkp17
  have hmk2 := mkp16
  have hmk3 := mk16
  have hmk4 := mk1000
  go_enter Try.func9, Try.ntmps9
  go_wp2_with (fail)
  go_at_call 28
  refine (c_sample w).mono ?_
  rintro e v0 ⟨P, rfl, hP, bb⟩
  have HBv0 := Lib.hid bb
  have HPv0 := Lib.hid hP
  obtain ⟨A, c, rfl, -, -⟩ := hP.shape
  clear hP bb
  obtain ⟨X1, hX1⟩ : ∃ X, X = (v0.alloc (.cells #[.int .i64 10, .slice A smP.length c] 24)).alloc (.cells #[.int .i64 7, .int .i64 0, .int .i64 10, .int .i64 12, .int .i64 0] 3) := ⟨_, rfl⟩
  have b1 : Below v0.heap.size v0 X1 := by subst hX1; exact ((Below.refl _ _).alloc (Nat.le_refl _) _).alloc (by simp) _
  have HBX1 := Lib.hid (below_join HBv0.out b1 HBv0.out.size)
  have HPX1 := Lib.hid (HPv0.out.on b1 (Nat.le_refl _))
  have HNX1 := Lib.hid (show LnB X1 v0.heap.size 10 (.slice A smP.length c) by subst hX1; exact old_heap _ (heap_alloc_new _ _))
  have hzHNX1 : v0.heap.size < X1.heap.size := at_lt HNX1.out
  clear b1
  have HWT := Lib.hid (want_at (X := X1) (b := v0.heap.size + 1) (T := 3) (by subst hX1; exact row_new _ _ _ (by simp)))
  have hzwt : v0.heap.size + 1 < X1.heap.size := by subst hX1; simp
  go_wp2_with (fail)
  rw [← hX1]
  clear hX1
  go_loopw [48] (fun i wr => ∃ k : Nat, k ≤ 5 ∧ i = .int .i64 (k : Int) ∧ Hid (Below X1.heap.size X1 wr)) (fun i _ => 5 - (intOf i).toNat)
  case atStart => exact ⟨0, Nat.zero_le _, rfl, Lib.hid (Below.refl _ _)⟩
  case round =>
    obtain ⟨k, hk, rfl, hB⟩ := hrel
    obtain ⟨wx1, hwx⟩ : ∃ x, x = wr := ⟨wr, rfl⟩
    subst hwx
    have hki : ((k : Nat) : Int).toNat = k := by omega
    have HLwx1 := Lib.hid hB.out
    have HBwx1 := Lib.hid (below_join HBX1.out hB.out HBX1.out.size)
    have HPwx1 := Lib.hid (HPX1.out.on hB.out (Nat.le_refl _))
    have HNwx1 := Lib.hid (HNX1.out.on hB.out hzHNX1)
    have hzHNwx1 := Nat.lt_of_lt_of_le hzHNX1 hB.out.size
    by_cases hlt : k < 5
    · have hcont := trivial
      clear hcont hB
      have hlt' : (k : Int) < 5 := by omega
      have y0 := (HLwx1.out.cell (p := ⟨v0.heap.size + 1, k, none⟩) hzwt).trans (HWT.out k hlt)
      have HAk := Lib.hid (fun (X : World) (P I : Value) (hP : PtSl X P smP) (hI : LiSl X I [[7], [5, 6]]) => HA.out X P I k hlt hP hI)
      obtain ⟨z, hz⟩ : ∃ z, arr smP [[7], [5, 6]] (k : Int) = z := ⟨_, rfl⟩
      rw [hz] at HAk y0
      clear hz
      have HNa := Lib.hid (show ∀ o1 o2 o3, LnB (((wx1.alloc o1).alloc o2).alloc o3) v0.heap.size 10 (.slice A smP.length c) from fun o1 o2 o3 => old_heap _ (old_heap _ (old_heap _ HNwx1.out)))
      obtain ⟨X2, hX2⟩ : ∃ X, X = (((wx1.alloc (.cells #[.int .i64 7] 3)).alloc (.cells #[.int .i64 5, .int .i64 6] 3)).alloc (.cells #[.slice (some ⟨wx1.heap.size, 0, none⟩) 1 1, .slice (some ⟨wx1.heap.size + 1, 0, none⟩) 2 2] 32)) := ⟨_, rfl⟩
      have b2 : Below wx1.heap.size wx1 X2 := by subst hX2; exact below_a3 _ _ _ _
      have HBX2 := Lib.hid (below_join HBwx1.out b2 HBwx1.out.size)
      have HLX2 := Lib.hid (below_join HLwx1.out b2 HLwx1.out.size)
      have HPX2 := Lib.hid (HPwx1.out.on b2 (Nat.le_refl _))
      have HNX2 := Lib.hid (HNwx1.out.on b2 hzHNwx1)
      have hzHNX2 := Nat.lt_of_lt_of_le hzHNwx1 b2.size
      have HIX2 := Lib.hid (show LiSl X2 (.slice (some ⟨wx1.heap.size + 1 + 1, 0, none⟩) 2 2) [[7], [5, 6]] by subst hX2; exact li_7_56 _)
      clear b2
      obtain ⟨x0, x1⟩ := HNwx1.out.cells
      go_wp2_with (fail)
      rw [← hX2]
      clear hX2
      clear x0 x1
      clear y0 HNa
      go_at_call 11
      refine (HAk.out _ _ _ HPX2.out HIX2.out).mono ?_
      rintro e v3 ⟨rfl, bb⟩
      have HBv3 := Lib.hid (below_join HBX2.out bb HBX2.out.size)
      have HLv3 := Lib.hid (below_join HLX2.out bb HLX2.out.size)
      have HPv3 := Lib.hid (HPX2.out.on bb (Nat.le_refl _))
      have HNv3 := Lib.hid (HNX2.out.on bb hzHNX2)
      have hzHNv3 := Nat.lt_of_lt_of_le hzHNX2 bb.size
      have HIv3 := Lib.hid (HIX2.out.on bb (Nat.le_refl _))
      clear bb
      go_wp2_with (fail)
      go_roundw
      case rel => exact ⟨k + 1, by omega, by go_num, Lib.hid HLv3.out⟩
      case measure => simp only [intOf]; omega
    · have hge : (5 : Int) ≤ (k : Int) := by omega
      clear hlt hki hB hk HLwx1
      have hox := oddX_below wx1
      obtain ⟨X2, hX2⟩ : ∃ X, X = oddX wx1 := ⟨_, rfl⟩
      rw [← hX2] at hox
      have HBX2 := Lib.hid (below_join HBwx1.out hox HBwx1.out.size)
      have HPX2 := Lib.hid (HPwx1.out.on hox (Nat.le_refl _))
      have HNX2 := Lib.hid (HNwx1.out.on hox hzHNwx1)
      have hzHNX2 := Nat.lt_of_lt_of_le hzHNwx1 hox.size
      have HODD := Lib.hid (by have := odd_all wx1; rw [← hX2] at this; exact this)
      have hzodd : wx1.heap.size + 1 + 1 + 1 + 1 + 1 + 1 + 1 < X2.heap.size := by subst hX2; unfold oddX oddW; simp
      clear hox
      unfold oddX oddW at hX2
      go_wp2_with (fail)
      rw [← hX2]
      clear hX2
      go_loopw [95] (fun i wr => ∃ k : Nat, k ≤ 9 ∧ i = .int .i64 (k : Int) ∧ Hid (Below X2.heap.size X2 wr)) (fun i _ => 9 - (intOf i).toNat)
      case atStart => exact ⟨0, Nat.zero_le _, rfl, Lib.hid (Below.refl _ _)⟩
      case round =>
        obtain ⟨k, hk, rfl, hB⟩ := hrel
        obtain ⟨wx2, hwx⟩ : ∃ x, x = wr := ⟨wr, rfl⟩
        subst hwx
        have hki : ((k : Nat) : Int).toNat = k := by omega
        have HLwx2 := Lib.hid hB.out
        have HBwx2 := Lib.hid (below_join HBX2.out hB.out HBX2.out.size)
        have HPwx2 := Lib.hid (HPX2.out.on hB.out (Nat.le_refl _))
        have HNwx2 := Lib.hid (HNX2.out.on hB.out hzHNX2)
        have hzHNwx2 := Nat.lt_of_lt_of_le hzHNX2 hB.out.size
        by_cases hlt : k < 9
        · have hcont := trivial
          clear hcont hB
          have hlt' : (k : Int) < 9 := by omega
          obtain ⟨C, Aq, mq, cq, ps, hb, q0, q1, hp⟩ := HODD.out k hlt
          have y0 := (HLwx2.out.cell (p := ⟨wx1.heap.size + 1 + 1 + 1 + 1 + 1 + 1 + 1, k * 2, none⟩) hzodd).trans q0
          have y1 := (HLwx2.out.cell (p := ⟨wx1.heap.size + 1 + 1 + 1 + 1 + 1 + 1 + 1, k * 2 + 1, none⟩) hzodd).trans q1
          have HBAD := Lib.hid hb
          have HQwx2 := Lib.hid (hp.on HLwx2.out (Nat.le_refl _))
          clear q0 q1 hb hp
          obtain ⟨X4, hX4⟩ : ∃ X, X = wx2.alloc (.cells #[.int .i64 C, .slice Aq mq cq] 24) := ⟨_, rfl⟩
          have b4 : Below wx2.heap.size wx2 X4 := by subst hX4; exact alloc_below _ _
          have HBX4 := Lib.hid (below_join HBwx2.out b4 HBwx2.out.size)
          have HLX4 := Lib.hid (below_join HLwx2.out b4 HLwx2.out.size)
          have HPX4 := Lib.hid (HPwx2.out.on b4 (Nat.le_refl _))
          have HNX4 := Lib.hid (HNwx2.out.on b4 hzHNwx2)
          have hzHNX4 := Nat.lt_of_lt_of_le hzHNwx2 b4.size
          have HQX4 := Lib.hid (HQwx2.out.on b4 (Nat.le_refl _))
          have HMX4 := Lib.hid (show LnB X4 wx2.heap.size C (.slice Aq mq cq) by subst hX4; exact heap_alloc_new _ _)
          have hzHMX4 : wx2.heap.size < X4.heap.size := at_lt HMX4.out
          clear b4
          go_wp2_with (fail)
          rw [← hX4]
          clear hX4
          clear y0 y1
          go_at_call 13
          refine (HC1.out _ _ _ _ HBAD.out HQX4.out).mono ?_
          rintro e v5 ⟨cv, rfl, hcv, bb⟩
          have HBv5 := Lib.hid (below_join HBX4.out bb HBX4.out.size)
          have HLv5 := Lib.hid (below_join HLX4.out bb HLX4.out.size)
          have HPv5 := Lib.hid (HPX4.out.on bb (Nat.le_refl _))
          have HNv5 := Lib.hid (HNX4.out.on bb hzHNX4)
          have hzHNv5 := Nat.lt_of_lt_of_le hzHNX4 bb.size
          have HQv5 := Lib.hid (HQX4.out.on bb (Nat.le_refl _))
          have HMv5 := Lib.hid (HMX4.out.on bb hzHMX4)
          have hzHMv5 := Nat.lt_of_lt_of_le hzHMX4 bb.size
          clear bb
          obtain ⟨Ac, cc, rfl, -, -⟩ := hcv.shape
          clear hcv
          obtain ⟨x0, x1⟩ := HMv5.out.cells
          go_wp2_with (fail)
          clear x0 x1
          go_at_call 11
          refine (HA1.out _ _ _ _ HBAD.out HQv5.out).mono ?_
          rintro e v6 ⟨rfl, bb⟩
          have HBv6 := Lib.hid (below_join HBv5.out bb HBv5.out.size)
          have HLv6 := Lib.hid (below_join HLv5.out bb HLv5.out.size)
          have HPv6 := Lib.hid (HPv5.out.on bb (Nat.le_refl _))
          have HNv6 := Lib.hid (HNv5.out.on bb hzHNv5)
          have hzHNv6 := Nat.lt_of_lt_of_le hzHNv5 bb.size
          have HQv6 := Lib.hid (HQv5.out.on bb (Nat.le_refl _))
          have HMv6 := Lib.hid (HMv5.out.on bb hzHMv5)
          have hzHMv6 := Nat.lt_of_lt_of_le hzHMv5 bb.size
          clear bb
          obtain ⟨x0, x1⟩ := HMv6.out.cells
          go_wp2_with (fail)
          clear x0 x1
          go_at_call 16
          refine (HV1.out _ _ _ _ HBAD.out HQv6.out).mono ?_
          rintro e v7 ⟨rfl, bb⟩
          have HBv7 := Lib.hid (below_join HBv6.out bb HBv6.out.size)
          have HLv7 := Lib.hid (below_join HLv6.out bb HLv6.out.size)
          have HPv7 := Lib.hid (HPv6.out.on bb (Nat.le_refl _))
          have HNv7 := Lib.hid (HNv6.out.on bb hzHNv6)
          have hzHNv7 := Nat.lt_of_lt_of_le hzHNv6 bb.size
          have HQv7 := Lib.hid (HQv6.out.on bb (Nat.le_refl _))
          have HMv7 := Lib.hid (HMv6.out.on bb hzHMv6)
          have hzHMv7 := Nat.lt_of_lt_of_le hzHMv6 bb.size
          clear bb
          go_wp2_with (fail)
          go_roundw
          case rel => exact ⟨k + 1, by omega, by go_num, Lib.hid HLv7.out⟩
          case measure => simp only [intOf]; omega
        · have hge : (9 : Int) ≤ (k : Int) := by omega
          clear hlt hki hB hk HLwx2
          go_wp2_with (fail)
          refine rg_wrong _ _ _ (by simp) (fun d v c b w h => (show _ from h)) ?_
          intro w' xa xb xb2 xc xc2 xd xd2 bb fa fb fc fd
          obtain ⟨X3, hX3⟩ : ∃ X, X = w'.alloc (.cells #[.int .i64 0, .slice none 0 0, .int .i64 (-1), .slice none 0 0, .int .i64 0, .int .i64 0, .int .i64 0, .int .i64 0, .slice none 0 0, .int .i64 100000001, .slice none 0 0, .int .i64 0, .int .i64 0, .int .i64 0, .int .i64 0, .slice none 0 0, .int .i64 0, .slice none 0 0, .int .i64 (-1), .int .i64 0, .int .i64 0, .int .i64 0, .slice none 0 0, .int .i64 0, .slice none 0 0, .int .i64 1001, .int .i64 0, .int .i64 0, .int .i64 0, .slice none 0 0, .int .i64 0, .slice (some ⟨xa, 0, none⟩) 17 17, .int .i64 0, .int .i64 0, .int .i64 0, .int .i64 0, .slice none 0 0, .int .i64 0, .slice (some ⟨xb2, 0, none⟩) 1 1, .int .i64 0, .int .i64 0, .int .i64 0, .int .i64 0, .slice none 0 0, .int .i64 0, .slice (some ⟨xc2, 0, none⟩) 2 2, .int .i64 0, .int .i64 0, .int .i64 0, .int .i64 0, .slice none 0 0, .int .i64 0, .slice (some ⟨xd2, 0, none⟩) 1 1, .int .i64 0, .int .i64 0, .int .i64 0] 27) := ⟨_, rfl⟩
          have hb3 : Below w'.heap.size w' X3 := by subst hX3; exact alloc_below _ _
          have bx : Below wx2.heap.size wx2 X3 := below_join bb hb3 bb.size
          have HWR := Lib.hid (wrong_line (X := X3) (b := w'.heap.size) (xa := xa) (xb2 := xb2) (xc2 := xc2) (xd2 := xd2) (T := 27) (by subst hX3; exact heap_alloc_new _ _) (fa.on hb3 (Nat.le_refl _)) (fb.on hb3 (Nat.le_refl _)) (fc.on hb3 (Nat.le_refl _)) (fd.on hb3 (Nat.le_refl _)))
          have hzwr : w'.heap.size < X3.heap.size := by subst hX3; simp
          have HBX3 := Lib.hid (below_join HBwx2.out bx HBwx2.out.size)
          have HPX3 := Lib.hid (HPwx2.out.on bx (Nat.le_refl _))
          have HNX3 := Lib.hid (HNwx2.out.on bx hzHNwx2)
          have hzHNX3 := Nat.lt_of_lt_of_le hzHNwx2 bx.size
          clear bb fa fb fc fd hb3 bx
          rw [← hX3]
          clear hX3
          simp only [wp0, wp1, wp2, wp3, wp4, wp5, wp6, wp7, wp8, wp9, wp10, wp11, wp12, wp13, wp14]
          go_wp2_with (fail)
          go_loopw [138] (fun i wr => ∃ k : Nat, k ≤ 8 ∧ i = .int .i64 (k : Int) ∧ Hid (Below X3.heap.size X3 wr)) (fun i _ => 8 - (intOf i).toNat)
          case atStart => exact ⟨0, Nat.zero_le _, rfl, Lib.hid (Below.refl _ _)⟩
          case round =>
            obtain ⟨k, hk, rfl, hB⟩ := hrel
            obtain ⟨wx3, hwx⟩ : ∃ x, x = wr := ⟨wr, rfl⟩
            subst hwx
            have hki : ((k : Nat) : Int).toNat = k := by omega
            have HLwx3 := Lib.hid hB.out
            have HBwx3 := Lib.hid (below_join HBX3.out hB.out HBX3.out.size)
            have HPwx3 := Lib.hid (HPX3.out.on hB.out (Nat.le_refl _))
            have HNwx3 := Lib.hid (HNX3.out.on hB.out hzHNX3)
            have hzHNwx3 := Nat.lt_of_lt_of_le hzHNX3 hB.out.size
            by_cases hlt : k < 8
            · have hcont := trivial
              clear hcont hB
              have hlt' : (k : Int) < 8 := by omega
              obtain ⟨s, n, Aq, mq, cq, ins, hf, hi, q0, q1, q2, q3, q4, q5, q6⟩ := HWR.out k hlt
              have y0 := (HLwx3.out.cell (p := ⟨w'.heap.size, k * 7, none⟩) hzwr).trans q0
              have y1 := (HLwx3.out.cell (p := ⟨w'.heap.size, k * 7 + 1, none⟩) hzwr).trans q1
              have y2 := (HLwx3.out.cell (p := ⟨w'.heap.size, k * 7 + 2, none⟩) hzwr).trans q2
              have y3 := (HLwx3.out.cell (p := ⟨w'.heap.size, k * 7 + 3, none⟩) hzwr).trans q3
              have y4 := (HLwx3.out.cell (p := ⟨w'.heap.size, k * 7 + 4, none⟩) hzwr).trans q4
              have y5 := (HLwx3.out.cell (p := ⟨w'.heap.size, k * 7 + 5, none⟩) hzwr).trans q5
              have y6 := (HLwx3.out.cell (p := ⟨w'.heap.size, k * 7 + 6, none⟩) hzwr).trans q6
              have HBAD := Lib.hid hf
              have HIwx3 := Lib.hid (hi.on HLwx3.out (Nat.le_refl _))
              clear q0 q1 q2 q3 q4 q5 q6 hf hi
              have HNb := Lib.hid (show LnB (wx3.alloc (.cells #[.int .i64 0, .slice none 0 0, .int .i64 s, .slice Aq mq cq, .int .i64 n, .int .i64 0, .int .i64 0] 27)) v0.heap.size 10 (.slice A smP.length c) from old_heap _ HNwx3.out)
              obtain ⟨X8, hX8⟩ : ∃ X, X = wx3.alloc (.cells #[.int .i64 0, .slice none 0 0, .int .i64 s, .slice Aq mq cq, .int .i64 n, .int .i64 0, .int .i64 0] 27) := ⟨_, rfl⟩
              have b8 : Below wx3.heap.size wx3 X8 := by subst hX8; exact alloc_below _ _
              have HBX8 := Lib.hid (below_join HBwx3.out b8 HBwx3.out.size)
              have HLX8 := Lib.hid (below_join HLwx3.out b8 HLwx3.out.size)
              have HPX8 := Lib.hid (HPwx3.out.on b8 (Nat.le_refl _))
              have HNX8 := Lib.hid (HNwx3.out.on b8 hzHNwx3)
              have hzHNX8 := Nat.lt_of_lt_of_le hzHNwx3 b8.size
              have HIX8 := Lib.hid (HIwx3.out.on b8 (Nat.le_refl _))
              have HMX8 := Lib.hid (show ArC X8 wx3.heap.size s (.slice Aq mq cq) n by subst hX8; exact heap_alloc_new _ _)
              have hzHMX8 : wx3.heap.size < X8.heap.size := at_lt HMX8.out
              clear b8
              obtain ⟨x0, x1⟩ := HNb.out.cells
              go_wp2_with (fail)
              rw [← hX8]
              clear hX8
              clear x0 x1
              clear y0 y1 y2 y3 y4 y5 y6
              go_at_call 13
              refine (HC2.out _ _ _ _ _ _ HBAD.out HPX8.out HIX8.out).mono ?_
              rintro e v9 ⟨cv, rfl, hcv, bb⟩
              have HBv9 := Lib.hid (below_join HBX8.out bb HBX8.out.size)
              have HLv9 := Lib.hid (below_join HLX8.out bb HLX8.out.size)
              have HPv9 := Lib.hid (HPX8.out.on bb (Nat.le_refl _))
              have HNv9 := Lib.hid (HNX8.out.on bb hzHNX8)
              have hzHNv9 := Nat.lt_of_lt_of_le hzHNX8 bb.size
              have HIv9 := Lib.hid (HIX8.out.on bb (Nat.le_refl _))
              have HMv9 := Lib.hid (HMX8.out.on bb hzHMX8)
              have hzHMv9 := Nat.lt_of_lt_of_le hzHMX8 bb.size
              clear bb
              obtain ⟨Ac, cc, rfl, -, -⟩ := hcv.shape
              clear hcv
              obtain ⟨x0, x1⟩ := HNv9.out.cells
              obtain ⟨z0, z1, z2⟩ := HMv9.out.cells
              go_wp2_with (fail)
              clear x0 x1 z0 z1 z2
              go_at_call 18
              refine (HK2.out _ _ _ _ _ _ HBAD.out HPv9.out HIv9.out).mono ?_
              rintro e v10 ⟨rfl, bb⟩
              have HBv10 := Lib.hid (below_join HBv9.out bb HBv9.out.size)
              have HLv10 := Lib.hid (below_join HLv9.out bb HLv9.out.size)
              have HPv10 := Lib.hid (HPv9.out.on bb (Nat.le_refl _))
              have HNv10 := Lib.hid (HNv9.out.on bb hzHNv9)
              have hzHNv10 := Nat.lt_of_lt_of_le hzHNv9 bb.size
              have HIv10 := Lib.hid (HIv9.out.on bb (Nat.le_refl _))
              have HMv10 := Lib.hid (HMv9.out.on bb hzHMv9)
              have hzHMv10 := Nat.lt_of_lt_of_le hzHMv9 bb.size
              clear bb
              obtain ⟨x0, x1⟩ := HNv10.out.cells
              obtain ⟨z0, z1, z2⟩ := HMv10.out.cells
              go_wp2_with (fail)
              clear x0 x1 z0 z1 z2
              go_at_call 22
              refine (HF2.out _ _ _ _ _ _ HBAD.out HPv10.out HIv10.out).mono ?_
              rintro e v11 ⟨rfl, bb⟩
              have HBv11 := Lib.hid (below_join HBv10.out bb HBv10.out.size)
              have HLv11 := Lib.hid (below_join HLv10.out bb HLv10.out.size)
              have HPv11 := Lib.hid (HPv10.out.on bb (Nat.le_refl _))
              have HNv11 := Lib.hid (HNv10.out.on bb hzHNv10)
              have hzHNv11 := Nat.lt_of_lt_of_le hzHNv10 bb.size
              have HIv11 := Lib.hid (HIv10.out.on bb (Nat.le_refl _))
              have HMv11 := Lib.hid (HMv10.out.on bb hzHMv10)
              have hzHMv11 := Nat.lt_of_lt_of_le hzHMv10 bb.size
              clear bb
              obtain ⟨x0, x1⟩ := HNv11.out.cells
              obtain ⟨z0, z1, z2⟩ := HMv11.out.cells
              go_wp2_with (fail)
              clear x0 x1 z0 z1 z2
              go_at_call 24
              refine (HL2.out _ _ _ _ _ _ HBAD.out HPv11.out HIv11.out).mono ?_
              rintro e v12 ⟨rfl, bb⟩
              have HBv12 := Lib.hid (below_join HBv11.out bb HBv11.out.size)
              have HLv12 := Lib.hid (below_join HLv11.out bb HLv11.out.size)
              have HPv12 := Lib.hid (HPv11.out.on bb (Nat.le_refl _))
              have HNv12 := Lib.hid (HNv11.out.on bb hzHNv11)
              have hzHNv12 := Nat.lt_of_lt_of_le hzHNv11 bb.size
              have HIv12 := Lib.hid (HIv11.out.on bb (Nat.le_refl _))
              have HMv12 := Lib.hid (HMv11.out.on bb hzHMv11)
              have hzHMv12 := Nat.lt_of_lt_of_le hzHMv11 bb.size
              clear bb
              go_wp2_with (fail)
              go_roundw
              case rel => exact ⟨k + 1, by omega, by go_num, Lib.hid HLv12.out⟩
              case measure => simp only [intOf]; omega
            · have hge : (8 : Int) ≤ (k : Int) := by omega
              clear hlt hki hB hk HLwx3
              obtain ⟨X4, hX4⟩ : ∃ X, X = (wx3.alloc (.cells zp16 41)).alloc (.cells #[.int .i64 0, .slice (some ⟨wx3.heap.size, 0, none⟩) 16 16] 24) := ⟨_, rfl⟩
              have HB4 := Lib.hid (show Below wx3.heap.size wx3 X4 by subst hX4; exact ((Below.refl _ _).alloc (Nat.le_refl _) _).alloc (by simp) _)
              have HC4 := Lib.hid (show X4.heap[wx3.heap.size]? = some (.cells (bgC 0) 41 (0, 0)) by subst hX4; rw [← bgC_zero]; exact old_heap _ (heap_alloc_new _ _))
              have HD4 := Lib.hid (show LnB X4 (wx3.heap.size + 1) 0 (.slice (some ⟨wx3.heap.size, 0, none⟩) 16 16) by subst hX4; exact row_new _ _ _ (by simp))
              go_wp2_with (fail)
              rw [← hX4]
              clear hX4
              go_loopw [207] (fun i wr => ∃ k : Nat, k ≤ 16 ∧ i = .int .i64 (k : Int) ∧ Hid (wr.heap[wx3.heap.size]? = some (.cells (bgC k) 41 (0, 0))) ∧ Hid (LnB wr (wx3.heap.size + 1) 0 (.slice (some ⟨wx3.heap.size, 0, none⟩) 16 16)) ∧ Hid (Below wx3.heap.size wx3 wr)) (fun i _ => 16 - (intOf i).toNat)
              case atStart => exact ⟨0, Nat.zero_le _, rfl, HC4, HD4, HB4⟩
              case round =>
                obtain ⟨k, hk, rfl, hC, hD, hB⟩ := hrel
                obtain ⟨wx4, hwx⟩ : ∃ x, x = wr := ⟨wr, rfl⟩
                subst hwx
                have hki : ((k : Nat) : Int).toNat = k := by omega
                have HC := Lib.hid hC.out
                have HD := Lib.hid hD.out
                have HBk := Lib.hid hB.out
                clear hC hD hB
                by_cases hlt : k < 16
                · have hlt' : (k : Int) < 16 := by omega
                  obtain ⟨x0, x1⟩ := HD.out.cells
                  obtain ⟨u0, y0⟩ := bgC_cell HC.out (k * 3) (by omega)
                  obtain ⟨u1, y1⟩ := bgC_cell HC.out (k * 3 + 1) (by omega)
                  obtain ⟨u2, y2⟩ := bgC_cell HC.out (k * 3 + 2) (by omega)
                  have f0 : wx4.frozen? ⟨wx3.heap.size, k * 3, none⟩ = false := by simp [World.frozen?, HC.out]
                  have f1 : wx4.frozen? ⟨wx3.heap.size, k * 3 + 1, none⟩ = false := by simp [World.frozen?, HC.out]
                  have f2 : wx4.frozen? ⟨wx3.heap.size, k * 3 + 2, none⟩ = false := by simp [World.frozen?, HC.out]
                  go_wp2_with (fail)
                  go_roundw
                  case rel =>
                    have hbt : But wx3.heap.size wx4 (((wx4.setCell ⟨wx3.heap.size, k * 3, none⟩ (.int .i64 (k : Int))).setCell ⟨wx3.heap.size, k * 3 + 1, none⟩ (.int .i64 1000)).setCell ⟨wx3.heap.size, k * 3 + 2, none⟩ (.int .i64 0)) := ((But.store _ _).trans (But.store _ _)).trans (But.store _ _)
                    exact ⟨k + 1, by omega, by go_num, Lib.hid (by rw [← bgC_next k hlt]; exact set_field (set_field (set_field HC.out _) _) _), Lib.hid (hbt.same _ _ (by omega) HD.out), Lib.hid (hbt.below HBk.out (Nat.le_refl _))⟩
                  case measure => simp only [intOf]; omega
                · have hge : (16 : Int) ≤ (k : Int) := by omega
                  obtain rfl : k = 16 := by omega
                  have HPB := Lib.hid (bg_pts HC.out)
                  clear hlt hki hk HC
                  have HBwx4 := Lib.hid (below_join HBwx3.out HBk.out HBwx3.out.size)
                  have HPwx4 := Lib.hid (HPwx3.out.on HBk.out (Nat.le_refl _))
                  have HNwx4 := Lib.hid (HNwx3.out.on HBk.out hzHNwx3)
                  have hzHNwx4 := Nat.lt_of_lt_of_le hzHNwx3 HBk.out.size
                  have HGwx4 := Lib.hid HD.out
                  have hzHGwx4 : wx3.heap.size + 1 < wx4.heap.size := at_lt HD.out
                  have HRwx4 := Lib.hid HPB.out
                  clear HD HPB HBk HB4 HC4 HD4
                  obtain ⟨X5, hX5⟩ : ∃ X, X = wx4.alloc (.cells zc16 32) := ⟨_, rfl⟩
                  have HB5 := Lib.hid (show Below wx4.heap.size wx4 X5 by subst hX5; exact alloc_below _ _)
                  have HI5 := Lib.hid (show InB X5 wx4.heap.size 0 by subst hX5; exact InB.start _)
                  go_wp2_with (fail)
                  rw [← hX5]
                  clear hX5
                  go_loopw [220] (fun i wr => ∃ k : Nat, k ≤ 16 ∧ i = .int .i64 (k : Int) ∧ Hid (InB wr wx4.heap.size k) ∧ Hid (Below wx4.heap.size wx4 wr)) (fun i _ => 16 - (intOf i).toNat)
                  case atStart => exact ⟨0, Nat.zero_le _, rfl, HI5, HB5⟩
                  case round =>
                    obtain ⟨k, hk, rfl, hI, hB⟩ := hrel
                    obtain ⟨wx5, hwx⟩ : ∃ x, x = wr := ⟨wr, rfl⟩
                    subst hwx
                    have hki : ((k : Nat) : Int).toNat = k := by omega
                    have HI := Lib.hid hI.out
                    have HBk := Lib.hid hB.out
                    clear hI hB
                    by_cases hlt : k < 16
                    · have hlt' : (k : Int) < 16 := by omega
                      have hcl := HI.out.lt
                      obtain ⟨u0, y0⟩ := HI.out.cell k hlt
                      have f0 := HI.out.frz k
                      have z0 : (wx5.alloc (.cells zc1000 3)).cell? ⟨wx4.heap.size, k, none⟩ = some u0 := (World.cell?_alloc_lt wx5 _ ⟨wx4.heap.size, k, none⟩ hcl).trans y0
                      have z1 : (wx5.alloc (.cells zc1000 3)).frozen? ⟨wx4.heap.size, k, none⟩ = false := ((alloc_below wx5 _).frozen (p := ⟨wx4.heap.size, k, none⟩) hcl).trans f0
                      have hcomm : ((wx5.setCell ⟨wx4.heap.size, k, none⟩ (.slice (some ⟨wx5.heap.size, 0, none⟩) 1000 1000)).alloc (.cells zc1000 3)) = (wx5.alloc (.cells zc1000 3)).setCell ⟨wx4.heap.size, k, none⟩ (.slice (some ⟨wx5.heap.size, 0, none⟩) 1000 1000) := (World.setCell_alloc_past _ _ _ _ hcl).symm
                      obtain ⟨Y5, hY5⟩ : ∃ X, X = (wx5.setCell ⟨wx4.heap.size, k, none⟩ (.slice (some ⟨wx5.heap.size, 0, none⟩) 1000 1000)).alloc (.cells zc1000 3) := ⟨_, rfl⟩
                      have HE6 := Lib.hid hY5
                      have HE5 := Lib.hid (hY5.trans hcomm)
                      have hbt : But wx4.heap.size (wx5.alloc (.cells zc1000 3)) Y5 := by rw [HE5.out]; exact But.store _ _
                      have HF5a := Lib.hid (show Y5.heap[wx5.heap.size]? = some (.cells (flM 0) 3 (0, 0)) by rw [← flM_zero]; exact hbt.same _ _ (by omega) (heap_alloc_new _ _))
                      have hys : wx5.heap.size < Y5.heap.size := at_lt HF5a.out
                      have HY5B := Lib.hid (show Below wx4.heap.size wx4 Y5 from hbt.below (HBk.out.alloc HBk.out.size _) (Nat.le_refl _))
                      have HZ2 := Lib.hid (show Y5.cell? ⟨wx4.heap.size, k, none⟩ = some (.slice (some ⟨wx5.heap.size, 0, none⟩) 1000 1000) by rw [HE5.out]; exact World.cell?_setCell_same _ _ _ z0)
                      have z2 := HZ2.out
                      rw [hY5] at z2
                      clear hcomm
                      clear hbt hY5
                      go_wp2_with (fail)
                      rw [← HE6.out]
                      clear z0 z1 z2 HE6
                      go_loopw [232] (fun i wr => ∃ t : Nat, t ≤ 1000 ∧ i = .int .i64 (t : Int) ∧ Hid (wr.heap[wx5.heap.size]? = some (.cells (flM t) 3 (0, 0))) ∧ Hid (But wx5.heap.size Y5 wr)) (fun i _ => 1000 - (intOf i).toNat)
                      case atStart => exact ⟨0, Nat.zero_le _, rfl, HF5a, Lib.hid (But.refl _)⟩
                      case round =>
                        obtain ⟨t, ht, rfl, hF, hT⟩ := hrel
                        obtain ⟨wy, hwy⟩ : ∃ x, x = wr := ⟨wr, rfl⟩
                        subst hwy
                        have hti : ((t : Nat) : Int).toNat = t := by omega
                        have HF := Lib.hid hF.out
                        have HT := Lib.hid hT.out
                        clear hF hT
                        have z2 : wy.cell? ⟨wx4.heap.size, k, none⟩ = some (.slice (some ⟨wx5.heap.size, 0, none⟩) 1000 1000) := by
                          exact (cell_but HT.out (by omega) HZ2.out)
                        by_cases htl : t < 1000
                        · have htl' : (t : Int) < 1000 := by omega
                          obtain ⟨u1, y1⟩ := flM_cell HF.out htl
                          have f1 : wy.frozen? ⟨wx5.heap.size, t, none⟩ = false := by simp [World.frozen?, HF.out]
                          go_wp2_with (fail)
                          go_roundw
                          case rel => exact ⟨t + 1, by omega, by go_num, Lib.hid (by rw [← flM_next t htl]; exact set_field HF.out _), Lib.hid (HT.out.trans (But.store _ _))⟩
                          case measure => simp only [intOf]; omega
                        · have hge : (1000 : Int) ≤ (t : Int) := by omega
                          obtain rfl : t = 1000 := by omega
                          go_wp2_with (fail)
                          go_roundw
                          case rel => exact ⟨k + 1, by omega, by go_num, Lib.hid (HI.out.step hlt HE5.out HT.out HF.out), Lib.hid (HT.out.below HY5B.out (by omega))⟩
                          case measure => simp only [intOf]; omega
                    · have hge : (16 : Int) ≤ (k : Int) := by omega
                      obtain rfl : k = 16 := by omega
                      have HBwx5 := Lib.hid (below_join HBwx4.out HBk.out HBwx4.out.size)
                      have HPwx5 := Lib.hid (HPwx4.out.on HBk.out (Nat.le_refl _))
                      have HNwx5 := Lib.hid (HNwx4.out.on HBk.out hzHNwx4)
                      have hzHNwx5 := Nat.lt_of_lt_of_le hzHNwx4 HBk.out.size
                      have HGwx5 := Lib.hid (HGwx4.out.on HBk.out hzHGwx4)
                      have hzHGwx5 := Nat.lt_of_lt_of_le hzHGwx4 HBk.out.size
                      have HRwx5 := Lib.hid (HRwx4.out.on HBk.out (Nat.le_refl _))
                      have HIwx5 := Lib.hid HI.out.li
                      clear hlt hki hk HI HBk HB5 HI5
                      obtain ⟨x0, x1⟩ := HGwx5.out.cells
                      go_wp2_with (fail)
                      clear x0 x1
                      go_at_call 13
                      refine (HCB.out _ _ _ HRwx5.out HIwx5.out).mono ?_
                      rintro e v13 ⟨cv, rfl, hcv, bb⟩
                      have HBv13 := Lib.hid (below_join HBwx5.out bb HBwx5.out.size)
                      have HPv13 := Lib.hid (HPwx5.out.on bb (Nat.le_refl _))
                      have HNv13 := Lib.hid (HNwx5.out.on bb hzHNwx5)
                      have hzHNv13 := Nat.lt_of_lt_of_le hzHNwx5 bb.size
                      have HGv13 := Lib.hid (HGwx5.out.on bb hzHGwx5)
                      have hzHGv13 := Nat.lt_of_lt_of_le hzHGwx5 bb.size
                      have HRv13 := Lib.hid (HRwx5.out.on bb (Nat.le_refl _))
                      have HIv13 := Lib.hid (HIwx5.out.on bb (Nat.le_refl _))
                      clear bb
                      obtain ⟨bc, oc, dc, hcv1, hbc, -, -, hcv2⟩ := hcv.at_ bg_last
                      rw [bg_len] at hcv1
                      subst hcv1
                      have HLv13 := Lib.hid (show v13.cell? ⟨bc, oc + 1000, none⟩ = some (.int .i64 1600000100000000) from hcv2)
                      clear hcv hcv2
                      obtain ⟨x0, x1⟩ := HGv13.out.cells
                      go_wp2_with (fail)
                      clear x0 x1
                      go_at_call 24
                      refine (HLB.out _ _ _ HRv13.out HIv13.out).mono ?_
                      rintro e v14 ⟨rfl, bb⟩
                      have HBv14 := Lib.hid (below_join HBv13.out bb HBv13.out.size)
                      have HPv14 := Lib.hid (HPv13.out.on bb (Nat.le_refl _))
                      have HNv14 := Lib.hid (HNv13.out.on bb hzHNv13)
                      have hzHNv14 := Nat.lt_of_lt_of_le hzHNv13 bb.size
                      have HGv14 := Lib.hid (HGv13.out.on bb hzHGv13)
                      have hzHGv14 := Nat.lt_of_lt_of_le hzHGv13 bb.size
                      have HRv14 := Lib.hid (HRv13.out.on bb (Nat.le_refl _))
                      have HIv14 := Lib.hid (HIv13.out.on bb (Nat.le_refl _))
                      have y9 := (bb.cell (p := ⟨bc, oc + 1000, none⟩) hbc).trans HLv13.out
                      clear bb
                      obtain ⟨x0, x1⟩ := HNv14.out.cells
                      go_wp2_with (fail)
                      clear x0 x1
                      clear y9
                      go_at_call 22
                      refine (HF5.out _ _ HPv14.out).mono ?_
                      rintro e v15 ⟨rfl, bb⟩
                      have HBv15 := Lib.hid (below_join HBv14.out bb HBv14.out.size)
                      have HPv15 := Lib.hid (HPv14.out.on bb (Nat.le_refl _))
                      have HNv15 := Lib.hid (HNv14.out.on bb hzHNv14)
                      have hzHNv15 := Nat.lt_of_lt_of_le hzHNv14 bb.size
                      clear bb
                      obtain ⟨x0, x1⟩ := HNv15.out.cells
                      go_wp2_with (fail)
                      clear x0 x1
                      go_at_call 22
                      refine (HF6.out _ _ HPv15.out).mono ?_
                      rintro e v16 ⟨rfl, bb⟩
                      have HBv16 := Lib.hid (below_join HBv15.out bb HBv15.out.size)
                      have HPv16 := Lib.hid (HPv15.out.on bb (Nat.le_refl _))
                      have HNv16 := Lib.hid (HNv15.out.on bb hzHNv15)
                      have hzHNv16 := Nat.lt_of_lt_of_le hzHNv15 bb.size
                      clear bb
                      obtain ⟨x0, x1⟩ := HNv16.out.cells
                      go_wp2_with (fail)
                      clear x0 x1
                      go_at_call 18
                      refine (HK6.out _ _ HPv16.out).mono ?_
                      rintro e v17 ⟨rfl, bb⟩
                      have HBv17 := Lib.hid (below_join HBv16.out bb HBv16.out.size)
                      have HPv17 := Lib.hid (HPv16.out.on bb (Nat.le_refl _))
                      have HNv17 := Lib.hid (HNv16.out.on bb hzHNv16)
                      have hzHNv17 := Nat.lt_of_lt_of_le hzHNv16 bb.size
                      clear bb
                      obtain ⟨x0, x1⟩ := HNv17.out.cells
                      go_wp2_with (fail)
                      clear x0 x1
                      go_at_call 24
                      refine (HLa.out _ _ HPv17.out).mono ?_
                      rintro e v18 ⟨rfl, bb⟩
                      have HBv18 := Lib.hid (below_join HBv17.out bb HBv17.out.size)
                      have HPv18 := Lib.hid (HPv17.out.on bb (Nat.le_refl _))
                      have HNv18 := Lib.hid (HNv17.out.on bb hzHNv17)
                      have hzHNv18 := Nat.lt_of_lt_of_le hzHNv17 bb.size
                      clear bb
                      obtain ⟨x0, x1⟩ := HNv18.out.cells
                      go_wp2_with (fail)
                      clear x0 x1
                      go_at_call 24
                      refine (HLb.out _ _ HPv18.out).mono ?_
                      rintro e v19 ⟨rfl, bb⟩
                      have HBv19 := Lib.hid (below_join HBv18.out bb HBv18.out.size)
                      have HPv19 := Lib.hid (HPv18.out.on bb (Nat.le_refl _))
                      have HNv19 := Lib.hid (HNv18.out.on bb hzHNv18)
                      have hzHNv19 := Nat.lt_of_lt_of_le hzHNv18 bb.size
                      clear bb
                      obtain ⟨x0, x1⟩ := HNv19.out.cells
                      go_wp2_with (fail)
                      clear x0 x1
                      go_at_call 24
                      refine (HLc.out _ _ HPv19.out).mono ?_
                      rintro e v20 ⟨rfl, bb⟩
                      have HBv20 := Lib.hid (below_join HBv19.out bb HBv19.out.size)
                      have HPv20 := Lib.hid (HPv19.out.on bb (Nat.le_refl _))
                      have HNv20 := Lib.hid (HNv19.out.on bb hzHNv19)
                      have hzHNv20 := Nat.lt_of_lt_of_le hzHNv19 bb.size
                      clear bb
                      go_wp2_with (fail)
                      go_at_call 21
                      refine (c_works _).mono ?_
                      rintro e v21 ⟨rfl, bb⟩
                      have HBv21 := Lib.hid (below_join HBv20.out bb HBv20.out.size)
                      have HPv21 := Lib.hid (HPv20.out.on bb (Nat.le_refl _))
                      have HNv21 := Lib.hid (HNv20.out.on bb hzHNv20)
                      have hzHNv21 := Nat.lt_of_lt_of_le hzHNv20 bb.size
                      clear bb
                      go_wp2_with (fail)
                      go_ret
                      exact ⟨rfl, HBv21.out⟩
end Go.Proofs.Ythghinkicaafmaa
