/-
  DERIVED. The reference's Read. (Written by gen/genWS.py.)
-/
import Derived.Test.YtfdkdloldjfnjaaGreatDoorWR
set_option linter.unusedVariables false
set_option linter.unusedSimpArgs false
namespace Go.Proofs.YtfdkdloldjfnjaaGreatDoor
open Go.RowKit Go.Shelf
set_option maxRecDepth 100000

theorem str_eq {s : ByteArray} {l : List UInt8} (h : s.data.toList = l) : s = str l := by
  apply ByteArray.ext
  rw [← h]
  simp [str]
theorem rd_get {s : ByteArray} {l : List UInt8} (hl : s.data.toList = l) : ∀ k (h : k < s.size), s[k] = l.getD k 0 := fun k h => by
  rw [← hl, List.getD_eq_getElem?_getD, List.getElem?_eq_getElem (by simpa using h)]
  rfl
theorem ext_take {s : ByteArray} {l : List UInt8} (hl : s.data.toList = l) (k : Nat) : (s.extract 0 k).data.toList = l.take k := by
  rw [← hl]; simp
theorem ext_drop {s : ByteArray} {l : List UInt8} (hl : s.data.toList = l) (k : Nat) : (s.extract k s.size).data.toList = l.drop k := by
  rw [← hl]
  simp
  rw [List.take_of_length_le]
  simp
set_option maxHeartbeats 8000000 in
theorem eRead_E (s : ByteArray) (_hs : s.size ≤ 1000) (hs0 : s.size = 0) (R : Option (Bool × Nat × Nat)) (hR : Hid (readP s.data.toList = R)) (w : World) :
    Calls Tryz.prog 16 #[.string s] w (ResPost R 4 w) := by
  obtain ⟨l, hl⟩ : ∃ l, s.data.toList = l := ⟨_, rfl⟩
  have hcd : cutDash l = (l, false) := by
    have hz := congrArg List.length hl
    unfold cutDash
    rw [if_neg]
    cases l with
    | nil => simp
    | cons x l => simp at hz; omega
  rw [hl] at hR
  have HCD := Lib.hid hcd
  have HGET := Lib.hid (rd_get hl)
  have HL := Lib.hid hl
  have hlen : l.length = s.size := by rw [← hl]; simp
  have HLEN := Lib.hid hlen
  have hs0' : ((s.size : Nat) : Int) = 0 := by omega
  have hsz : ((s.size : Nat) : Int) ≤ 1000 := by omega
  have htz' : ((s.size : Nat) : Int) ≤ 1000 := by omega
  obtain ⟨W, hW⟩ : ∃ W, W = w.alloc (.cells #[.bool false, .slice none 0 0, .slice none 0 0] 25) := ⟨_, rfl⟩
  have B0 : Below w.heap.size w W := by subst hW; exact (Below.refl _ _).alloc (Nat.le_refl _) _
  have HZ := Lib.hid (show ResZ w.heap.size W by subst hW; exact row_new4 _ _ _ rfl)
  have hz : w.heap.size < W.heap.size := by subst hW; simp
  have HB := Lib.hid B0
  clear B0 hcd hlen hl
  go_enter Tryz.func16, Tryz.ntmps16
  go_wp2_with (fail)
  rw [← hW]
  clear hW
  go_loop [6] (fun i => ∃ k : Nat, k ≤ l.length ∧ i = .int .i64 (k : Int) ∧ Hid (∀ j, j < k → l.getD j 0 ≠ 47)) (fun i => s.size - (intOf i).toNat)
  case atStart => exact ⟨0, Nat.zero_le _, rfl, Lib.hid (fun j h => by omega)⟩
  case round =>
    obtain ⟨k, hk, rfl, hno⟩ := hrel
    have hkk : ((k : Nat) : Int).toNat = k := by omega
    have hk1 : ((k : Nat) : Int) ≤ ((s.size : Nat) : Int) := by have := HLEN.out; omega
    by_cases hlt : k < s.size
    · exfalso; omega
    · obtain rfl : k = s.size := by have := HLEN.out; omega
      obtain rfl : R = none := by rw [← hR.out]; exact read_no HCD.out (by rw [HLEN.out]; exact hno.out)
      obtain ⟨q0, q1, q2⟩ := Rt.cells HZ.out
      obtain ⟨q3, q4, q5⟩ := Rt.frozen HZ.out
      go_wp2_with (fail)
      exact ret3t rfl rfl rfl rfl (row_store3 HZ.out _ _ _) ⟨_, _, rfl, below_store3 HB.out (Nat.le_refl _) _ _ _, fun _ => ⟨rfl, rfl⟩, fun _ _ _ h => (by cases h)⟩
set_option maxHeartbeats 8000000 in
theorem eRead_P (s : ByteArray) (hs : s.size ≤ 1000) (hs0 : 0 < s.size) (hh : (s.data.toList.getD 0 0) ≠ 45) (R : Option (Bool × Nat × Nat)) (hR : Hid (readP s.data.toList = R)) (w : World) :
    Calls Tryz.prog 16 #[.string s] w (ResPost R 4 w) := by
  obtain ⟨l, hl⟩ : ∃ l, s.data.toList = l := ⟨_, rfl⟩
  have hcd : cutDash l = (l, false) := by
    have hh' := hh
    rw [hl] at hh'
    unfold cutDash
    rw [if_neg]
    cases l with
    | nil => simp
    | cons x l => rw [List.getD_cons_zero] at hh'; simpa using hh'
  rw [hl] at hR
  have HCD := Lib.hid hcd
  have HGET := Lib.hid (rd_get hl)
  have HL := Lib.hid hl
  have hlen : l.length = s.size := by rw [← hl]; simp
  have HLEN := Lib.hid hlen
  obtain ⟨y, hy⟩ : ∃ y, s[0].toNat = y := ⟨_, rfl⟩
  have hy45 : ((y : Int) == 45) = false := by
    rw [beq_eq_false_iff_ne]
    intro h
    apply hh
    rw [hl, ← rd_get hl 0 hs0]
    apply UInt8.toNat.inj
    rw [hy]
    show y = 45
    omega
  have hs0' : (0 : Int) < ((s.size : Nat) : Int) := by omega
  have hsz : ((s.size : Nat) : Int) ≤ 1000 := by omega
  have htz' : ((s.size : Nat) : Int) ≤ 1000 := by omega
  obtain ⟨W, hW⟩ : ∃ W, W = w.alloc (.cells #[.bool false, .slice none 0 0, .slice none 0 0] 25) := ⟨_, rfl⟩
  have B0 : Below w.heap.size w W := by subst hW; exact (Below.refl _ _).alloc (Nat.le_refl _) _
  have HZ := Lib.hid (show ResZ w.heap.size W by subst hW; exact row_new4 _ _ _ rfl)
  have hz : w.heap.size < W.heap.size := by subst hW; simp
  have HB := Lib.hid B0
  clear B0 hcd hlen hl hh
  go_enter Tryz.func16, Tryz.ntmps16
  go_wp2_with (fail)
  rw [← hW]
  clear hW
  go_loop [6] (fun i => ∃ k : Nat, k ≤ l.length ∧ i = .int .i64 (k : Int) ∧ Hid (∀ j, j < k → l.getD j 0 ≠ 47)) (fun i => s.size - (intOf i).toNat)
  case atStart => exact ⟨0, Nat.zero_le _, rfl, Lib.hid (fun j h => by omega)⟩
  case round =>
    obtain ⟨k, hk, rfl, hno⟩ := hrel
    have hkk : ((k : Nat) : Int).toNat = k := by omega
    have hk1 : ((k : Nat) : Int) ≤ ((s.size : Nat) : Int) := by have := HLEN.out; omega
    by_cases hlt : k < s.size
    · have hlt' : ((k : Nat) : Int) < ((s.size : Nat) : Int) := by omega
      have hx := HGET.out k hlt
      obtain ⟨x, hxx⟩ : ∃ x, l.getD k 0 = x := ⟨_, rfl⟩
      obtain ⟨z, hz0⟩ : ∃ z, s[k].toNat = z := ⟨_, rfl⟩
      by_cases h47 : x = 47
      · have hz47 : z = 47 := by rw [← hz0, hx, hxx, h47]; rfl
        have HXX := Lib.hid (show l.getD k 0 = 47 by rw [hxx]; exact h47)
        subst hz47
        clear hx hxx h47
        obtain ⟨A, hA⟩ : ∃ A, s.extract 0 k = A := ⟨_, rfl⟩
        have HA := Lib.hid (show A.data.toList = l.take k by rw [← hA]; exact ext_take HL.out k)
        obtain ⟨B, hB⟩ : ∃ B, s.extract (k + 1) s.size = B := ⟨_, rfl⟩
        have HBB := Lib.hid (show B.data.toList = l.drop (k + 1) by rw [← hB]; exact ext_drop HL.out (k + 1))
        have hk1' : ((k : Nat) : Int) + 1 ≤ ((s.size : Nat) : Int) := by omega
        have hkk1 : (((k : Nat) : Int) + 1).toNat = k + 1 := by omega
        have hAz : A.size ≤ maxLen := by rw [← hA, ByteArray.size_extract]; unfold maxLen; omega
        have hBz : B.size ≤ maxLen := by rw [← hB, ByteArray.size_extract]; unfold maxLen; omega
        have HC1 := Lib.hid (fun X => c_eDigits _ A HA.out hAz X)
        have HC2 := Lib.hid (fun X => c_eDigits _ B HBB.out hBz X)
        have HBAD := Lib.hid (read_bad HCD.out (by have := HLEN.out; omega) hno.out HXX.out)
        have HGOOD := Lib.hid (read_good HCD.out (by have := HLEN.out; omega) hno.out HXX.out)
        clear hAz hBz
        generalize l.take k = al at *
        generalize l.drop (k + 1) = bl at *
        go_wp2_with (fail)
        go_at_call 54
        refine (HC1.out _).mono ?_
        rintro e w1 ⟨v1, r1, rfl, b1, g1, g2⟩
        have HZ1 := Lib.hid (HZ.out.on b1 hz)
        have HB1 := Lib.hid (below_join HB.out b1 HB.out.size)
        have hz1 := Nat.lt_of_lt_of_le hz b1.size
        have HG1 := Lib.hid g1
        have HG2 := Lib.hid g2
        clear b1 g1 g2
        obtain ⟨A1, m1, c1, rfl⟩ : ∃ A m c, v1 = .slice A m c := by
          cases r1
          · exact ⟨_, _, _, (HG2.out rfl).2⟩
          · obtain ⟨A, c, h⟩ := (HG1.out rfl).2.1.shape
            exact ⟨_, _, _, h⟩
        go_wp2_with (fail)
        go_at_call 54
        refine (HC2.out _).mono ?_
        rintro e w2 ⟨v2, r2, rfl, b2, g3, g4⟩
        have HZ2 := Lib.hid (HZ1.out.on b2 hz1)
        have HB2 := Lib.hid (below_join HB1.out b2 HB1.out.size)
        have hz2 := Nat.lt_of_lt_of_le hz1 b2.size
        have HG3 := Lib.hid g3
        have HG4 := Lib.hid g4
        have HK := Lib.hid b2
        clear b2 g3 g4
        obtain ⟨A2, m2, c2, rfl⟩ : ∃ A m c, v2 = .slice A m c := by
          cases r2
          · exact ⟨_, _, _, (HG4.out rfl).2⟩
          · obtain ⟨A, c, h⟩ := (HG3.out rfl).2.1.shape
            exact ⟨_, _, _, h⟩
        obtain ⟨X2, hX2⟩ : ∃ X, X = w2.alloc (.cells #[.bool false, .slice A1 m1 c1, .slice A2 m2 c2] 25) := ⟨_, rfl⟩
        have bX2 : Below w2.heap.size w2 X2 := by subst hX2; exact (Below.refl _ _).alloc (Nat.le_refl _) _
        have HY3 := Lib.hid (show Rt X2 w2.heap.size false (.slice A1 m1 c1) (.slice A2 m2 c2) by subst hX2; exact rt_new' _ _ _ _)
        have HZ3 := Lib.hid (HZ2.out.on bX2 hz2)
        have HB3 := Lib.hid (below_join HB2.out bX2 HB2.out.size)
        have HK3 := Lib.hid bX2
        clear bX2
        cases r1 with
        | false =>
          obtain rfl : R = none := by rw [← hR.out]; exact HBAD.out (.inl (HG2.out rfl).1)
          obtain ⟨q0, q1, q2⟩ := Rt.cells HZ2.out
          obtain ⟨q3, q4, q5⟩ := Rt.frozen HZ2.out
          have r1 := row_store3 HZ2.out (.bool false) (.slice none 0 0) (.slice none 0 0)
          have b5 := below_store3 HB2.out (Nat.le_refl _) (.bool false) (.slice none 0 0) (.slice none 0 0)
          go_wp2_with (fail)
          exact ret3t rfl rfl rfl rfl (Rt.on (show Rt _ _ _ _ _ from r1) ((Below.refl _ _).alloc (Nat.le_refl _) _) (Rt.lt r1)) ⟨_, _, rfl, b5.alloc (Nat.le_of_lt (Rt.lt r1)) _, fun _ => ⟨rfl, rfl⟩, fun _ _ _ h => (by cases h)⟩
        | true =>
          cases r2 with
          | false =>
            obtain rfl : R = none := by rw [← hR.out]; exact HBAD.out (.inr (HG4.out rfl).1)
            obtain ⟨q0, q1, q2⟩ := Rt.cells HZ2.out
            obtain ⟨q3, q4, q5⟩ := Rt.frozen HZ2.out
            have r1 := row_store3 HZ2.out (.bool false) (.slice none 0 0) (.slice none 0 0)
            have b5 := below_store3 HB2.out (Nat.le_refl _) (.bool false) (.slice none 0 0) (.slice none 0 0)
            go_wp2_with (fail)
            exact ret3t rfl rfl rfl rfl (Rt.on (show Rt _ _ _ _ _ from r1) ((Below.refl _ _).alloc (Nat.le_refl _) _) (Rt.lt r1)) ⟨_, _, rfl, b5.alloc (Nat.le_of_lt (Rt.lt r1)) _, fun _ => ⟨rfl, rfl⟩, fun _ _ _ h => (by cases h)⟩
          | true =>
            have L1 := Lib.hid (((HG1.out rfl).2.on HK.out).on HK3.out)
            have L2 := Lib.hid ((HG3.out rfl).2.on HK3.out)
            obtain ⟨T, hT⟩ : ∃ T, str (textB false (nvl al) (nvl bl)) = T := ⟨_, rfl⟩
            have HT := Lib.hid (show Calls Tryz.prog 21 #[.agg #[.bool false, .slice A1 m1 c1, .slice A2 m2 c2]] X2 (fun e w' => e = .returned (.string T) ∧ Below X2.heap.size X2 w') from hT ▸ c_eTextV false _ _ _ _ X2 L1.out L2.out)
            have HTT := Lib.hid hT
            clear hT
            go_wp2_with (fail)
            rw [← hX2]
            clear hX2
            go_at_call 21
            refine HT.out.mono ?_
            rintro e w3 ⟨rfl, b3⟩
            have HY4 := Lib.hid (HY3.out.on b3 HY3.out.lt)
            have HZ4 := Lib.hid (HZ3.out.on b3 (Nat.lt_of_lt_of_le hz2 HK3.out.size))
            have HB4 := Lib.hid (below_join HB3.out b3 HB3.out.size)
            have L3 := Lib.hid (L1.out.on b3)
            have L4 := Lib.hid (L2.out.on b3)
            clear b3
            obtain ⟨p0, p1, p2⟩ := HY4.out.cells
            obtain ⟨q0, q1, q2⟩ := Rt.cells HZ4.out
            obtain ⟨q3, q4, q5⟩ := Rt.frozen HZ4.out
            by_cases hts : T = s
            · have hR1 : R = some (false, nvl al, nvl bl) := by
                rw [← hR.out]
                exact HGOOD.out.1 (by have := HTT.out; rw [hts] at this; rw [← HL.out, ← this]; exact (str_data _).symm)
              subst hR1
              subst hts
              go_wp2_with (fail)
              refine ret3t rfl rfl rfl rfl (row_store3 HZ4.out _ _ _) ⟨_, _, rfl, below_store3 HB4.out (Nat.le_refl _) _ _ _, fun h => (by cases h), fun s' n' d' h => ?_⟩
              injection h with h
              injection h with h1 h2
              injection h2 with h2 h3
              subst h1 h2 h3
              exact ⟨⟨_, _, rfl, natSl_storeZ L3.out.1 HZ4.out _ _ _, natSl_storeZ L4.out.1 HZ4.out _ _ _⟩, rfl⟩
            · obtain rfl : R = none := by
                rw [← hR.out]
                exact HGOOD.out.2 (by intro h; apply hts; rw [← HTT.out, h]; exact (str_eq HL.out).symm)
              have hne : (T.toList == s.toList) = false := by
                rw [beq_eq_false_iff_ne]
                intro h
                apply hts
                apply ByteArray.ext
                rw [ByteArray.toList_eq, ByteArray.toList_eq] at h
                exact Array.toList_inj.1 h
              clear hts
              go_wp2_with (fail)
              exact ret3t rfl rfl rfl rfl (row_store3 HZ4.out _ _ _) ⟨_, _, rfl, below_store3 HB4.out (Nat.le_refl _) _ _ _, fun _ => ⟨rfl, rfl⟩, fun _ _ _ h => (by cases h)⟩
      · have hz47 : ((z : Int) == 47) = false := by
          rw [beq_eq_false_iff_ne]
          intro h
          apply h47
          rw [← hxx, ← hx]
          apply UInt8.toNat.inj
          rw [hz0]
          show z = 47
          omega
        have HN := Lib.hid (show ∀ j, j < k + 1 → l.getD j 0 ≠ 47 by
          intro j hj
          rcases Nat.lt_or_ge j k with h | h
          · exact hno.out j h
          · obtain rfl : j = k := by omega
            rw [hxx]; exact h47)
        clear hx hxx h47
        go_wp2_with (fail)
        go_round
        case rel => exact ⟨k + 1, by have := HLEN.out; omega, by go_num, HN⟩
        case measure => simp only [intOf]; omega
    · obtain rfl : k = s.size := by have := HLEN.out; omega
      obtain rfl : R = none := by rw [← hR.out]; exact read_no HCD.out (by rw [HLEN.out]; exact hno.out)
      obtain ⟨q0, q1, q2⟩ := Rt.cells HZ.out
      obtain ⟨q3, q4, q5⟩ := Rt.frozen HZ.out
      go_wp2_with (fail)
      exact ret3t rfl rfl rfl rfl (row_store3 HZ.out _ _ _) ⟨_, _, rfl, below_store3 HB.out (Nat.le_refl _) _ _ _, fun _ => ⟨rfl, rfl⟩, fun _ _ _ h => (by cases h)⟩
set_option maxHeartbeats 8000000 in
theorem eRead_M (s : ByteArray) (hs : s.size ≤ 1000) (hs0 : 0 < s.size) (hh : s.data.toList.getD 0 0 = 45) (R : Option (Bool × Nat × Nat)) (hR : Hid (readP s.data.toList = R)) (w : World) :
    Calls Tryz.prog 16 #[.string s] w (ResPost R 4 w) := by
  obtain ⟨l, hl⟩ : ∃ l, s.data.toList = l := ⟨_, rfl⟩
  obtain ⟨t, htx⟩ : ∃ t, s.extract 1 s.size = t := ⟨_, rfl⟩
  have htl := ext_drop (s := s) rfl 1
  rw [htx] at htl
  have htz : t.size = s.size - 1 := by rw [← htx, ByteArray.size_extract]; omega
  obtain ⟨tl, htl'⟩ : ∃ l, t.data.toList = l := ⟨_, rfl⟩
  have hcd : cutDash l = (tl, true) := by
    rw [hl] at hh htl
    rw [← htl', htl]
    unfold cutDash
    cases l with
    | nil => simp at hh
    | cons x l => rw [List.getD_cons_zero] at hh; subst hh; rfl
  rw [hl] at hR
  have HCD := Lib.hid hcd
  have HGET := Lib.hid (rd_get htl')
  have HL := Lib.hid hl
  have HTL := Lib.hid htl'
  have hlen : tl.length = t.size := by rw [← htl']; simp
  have HLEN := Lib.hid hlen
  have hy : s[0].toNat = 45 := by rw [rd_get hl 0 hs0, ← hl, hh]; rfl
  have hs0' : (0 : Int) < ((s.size : Nat) : Int) := by omega
  have hsz : ((s.size : Nat) : Int) ≤ 1000 := by omega
  have htz' : ((t.size : Nat) : Int) ≤ 1000 := by omega
  obtain ⟨W, hW⟩ : ∃ W, W = w.alloc (.cells #[.bool false, .slice none 0 0, .slice none 0 0] 25) := ⟨_, rfl⟩
  have B0 : Below w.heap.size w W := by subst hW; exact (Below.refl _ _).alloc (Nat.le_refl _) _
  have HZ := Lib.hid (show ResZ w.heap.size W by subst hW; exact row_new4 _ _ _ rfl)
  have hz : w.heap.size < W.heap.size := by subst hW; simp
  have HB := Lib.hid B0
  clear B0 hcd hlen hl hh htl htl' htz
  go_enter Tryz.func16, Tryz.ntmps16
  go_wp2_with (fail)
  rw [← hW]
  clear hW
  go_loop [6] (fun i => ∃ k : Nat, k ≤ tl.length ∧ i = .int .i64 (k : Int) ∧ Hid (∀ j, j < k → tl.getD j 0 ≠ 47)) (fun i => t.size - (intOf i).toNat)
  case atStart => exact ⟨0, Nat.zero_le _, rfl, Lib.hid (fun j h => by omega)⟩
  case round =>
    obtain ⟨k, hk, rfl, hno⟩ := hrel
    have hkk : ((k : Nat) : Int).toNat = k := by omega
    have hk1 : ((k : Nat) : Int) ≤ ((t.size : Nat) : Int) := by have := HLEN.out; omega
    by_cases hlt : k < t.size
    · have hlt' : ((k : Nat) : Int) < ((t.size : Nat) : Int) := by omega
      have hx := HGET.out k hlt
      obtain ⟨x, hxx⟩ : ∃ x, tl.getD k 0 = x := ⟨_, rfl⟩
      obtain ⟨z, hz0⟩ : ∃ z, t[k].toNat = z := ⟨_, rfl⟩
      by_cases h47 : x = 47
      · have hz47 : z = 47 := by rw [← hz0, hx, hxx, h47]; rfl
        have HXX := Lib.hid (show tl.getD k 0 = 47 by rw [hxx]; exact h47)
        subst hz47
        clear hx hxx h47
        obtain ⟨A, hA⟩ : ∃ A, t.extract 0 k = A := ⟨_, rfl⟩
        have HA := Lib.hid (show A.data.toList = tl.take k by rw [← hA]; exact ext_take HTL.out k)
        obtain ⟨B, hB⟩ : ∃ B, t.extract (k + 1) t.size = B := ⟨_, rfl⟩
        have HBB := Lib.hid (show B.data.toList = tl.drop (k + 1) by rw [← hB]; exact ext_drop HTL.out (k + 1))
        have hk1' : ((k : Nat) : Int) + 1 ≤ ((t.size : Nat) : Int) := by omega
        have hkk1 : (((k : Nat) : Int) + 1).toNat = k + 1 := by omega
        have hAz : A.size ≤ maxLen := by rw [← hA, ByteArray.size_extract]; unfold maxLen; omega
        have hBz : B.size ≤ maxLen := by rw [← hB, ByteArray.size_extract]; unfold maxLen; omega
        have HC1 := Lib.hid (fun X => c_eDigits _ A HA.out hAz X)
        have HC2 := Lib.hid (fun X => c_eDigits _ B HBB.out hBz X)
        have HBAD := Lib.hid (read_bad HCD.out (by have := HLEN.out; omega) hno.out HXX.out)
        have HGOOD := Lib.hid (read_good HCD.out (by have := HLEN.out; omega) hno.out HXX.out)
        clear hAz hBz
        generalize tl.take k = al at *
        generalize tl.drop (k + 1) = bl at *
        go_wp2_with (fail)
        go_at_call 54
        refine (HC1.out _).mono ?_
        rintro e w1 ⟨v1, r1, rfl, b1, g1, g2⟩
        have HZ1 := Lib.hid (HZ.out.on b1 hz)
        have HB1 := Lib.hid (below_join HB.out b1 HB.out.size)
        have hz1 := Nat.lt_of_lt_of_le hz b1.size
        have HG1 := Lib.hid g1
        have HG2 := Lib.hid g2
        clear b1 g1 g2
        obtain ⟨A1, m1, c1, rfl⟩ : ∃ A m c, v1 = .slice A m c := by
          cases r1
          · exact ⟨_, _, _, (HG2.out rfl).2⟩
          · obtain ⟨A, c, h⟩ := (HG1.out rfl).2.1.shape
            exact ⟨_, _, _, h⟩
        go_wp2_with (fail)
        go_at_call 54
        refine (HC2.out _).mono ?_
        rintro e w2 ⟨v2, r2, rfl, b2, g3, g4⟩
        have HZ2 := Lib.hid (HZ1.out.on b2 hz1)
        have HB2 := Lib.hid (below_join HB1.out b2 HB1.out.size)
        have hz2 := Nat.lt_of_lt_of_le hz1 b2.size
        have HG3 := Lib.hid g3
        have HG4 := Lib.hid g4
        have HK := Lib.hid b2
        clear b2 g3 g4
        obtain ⟨A2, m2, c2, rfl⟩ : ∃ A m c, v2 = .slice A m c := by
          cases r2
          · exact ⟨_, _, _, (HG4.out rfl).2⟩
          · obtain ⟨A, c, h⟩ := (HG3.out rfl).2.1.shape
            exact ⟨_, _, _, h⟩
        obtain ⟨X2, hX2⟩ : ∃ X, X = w2.alloc (.cells #[.bool true, .slice A1 m1 c1, .slice A2 m2 c2] 25) := ⟨_, rfl⟩
        have bX2 : Below w2.heap.size w2 X2 := by subst hX2; exact (Below.refl _ _).alloc (Nat.le_refl _) _
        have HY3 := Lib.hid (show Rt X2 w2.heap.size true (.slice A1 m1 c1) (.slice A2 m2 c2) by subst hX2; exact rt_new' _ _ _ _)
        have HZ3 := Lib.hid (HZ2.out.on bX2 hz2)
        have HB3 := Lib.hid (below_join HB2.out bX2 HB2.out.size)
        have HK3 := Lib.hid bX2
        clear bX2
        cases r1 with
        | false =>
          obtain rfl : R = none := by rw [← hR.out]; exact HBAD.out (.inl (HG2.out rfl).1)
          obtain ⟨q0, q1, q2⟩ := Rt.cells HZ2.out
          obtain ⟨q3, q4, q5⟩ := Rt.frozen HZ2.out
          have r1 := row_store3 HZ2.out (.bool false) (.slice none 0 0) (.slice none 0 0)
          have b5 := below_store3 HB2.out (Nat.le_refl _) (.bool false) (.slice none 0 0) (.slice none 0 0)
          go_wp2_with (fail)
          exact ret3t rfl rfl rfl rfl (Rt.on (show Rt _ _ _ _ _ from r1) ((Below.refl _ _).alloc (Nat.le_refl _) _) (Rt.lt r1)) ⟨_, _, rfl, b5.alloc (Nat.le_of_lt (Rt.lt r1)) _, fun _ => ⟨rfl, rfl⟩, fun _ _ _ h => (by cases h)⟩
        | true =>
          cases r2 with
          | false =>
            obtain rfl : R = none := by rw [← hR.out]; exact HBAD.out (.inr (HG4.out rfl).1)
            obtain ⟨q0, q1, q2⟩ := Rt.cells HZ2.out
            obtain ⟨q3, q4, q5⟩ := Rt.frozen HZ2.out
            have r1 := row_store3 HZ2.out (.bool false) (.slice none 0 0) (.slice none 0 0)
            have b5 := below_store3 HB2.out (Nat.le_refl _) (.bool false) (.slice none 0 0) (.slice none 0 0)
            go_wp2_with (fail)
            exact ret3t rfl rfl rfl rfl (Rt.on (show Rt _ _ _ _ _ from r1) ((Below.refl _ _).alloc (Nat.le_refl _) _) (Rt.lt r1)) ⟨_, _, rfl, b5.alloc (Nat.le_of_lt (Rt.lt r1)) _, fun _ => ⟨rfl, rfl⟩, fun _ _ _ h => (by cases h)⟩
          | true =>
            have L1 := Lib.hid (((HG1.out rfl).2.on HK.out).on HK3.out)
            have L2 := Lib.hid ((HG3.out rfl).2.on HK3.out)
            obtain ⟨T, hT⟩ : ∃ T, str (textB true (nvl al) (nvl bl)) = T := ⟨_, rfl⟩
            have HT := Lib.hid (show Calls Tryz.prog 21 #[.agg #[.bool true, .slice A1 m1 c1, .slice A2 m2 c2]] X2 (fun e w' => e = .returned (.string T) ∧ Below X2.heap.size X2 w') from hT ▸ c_eTextV true _ _ _ _ X2 L1.out L2.out)
            have HTT := Lib.hid hT
            clear hT
            go_wp2_with (fail)
            rw [← hX2]
            clear hX2
            go_at_call 21
            refine HT.out.mono ?_
            rintro e w3 ⟨rfl, b3⟩
            have HY4 := Lib.hid (HY3.out.on b3 HY3.out.lt)
            have HZ4 := Lib.hid (HZ3.out.on b3 (Nat.lt_of_lt_of_le hz2 HK3.out.size))
            have HB4 := Lib.hid (below_join HB3.out b3 HB3.out.size)
            have L3 := Lib.hid (L1.out.on b3)
            have L4 := Lib.hid (L2.out.on b3)
            clear b3
            obtain ⟨p0, p1, p2⟩ := HY4.out.cells
            obtain ⟨q0, q1, q2⟩ := Rt.cells HZ4.out
            obtain ⟨q3, q4, q5⟩ := Rt.frozen HZ4.out
            by_cases hts : T = s
            · have hR1 : R = some (true, nvl al, nvl bl) := by
                rw [← hR.out]
                exact HGOOD.out.1 (by have := HTT.out; rw [hts] at this; rw [← HL.out, ← this]; exact (str_data _).symm)
              subst hR1
              subst hts
              go_wp2_with (fail)
              refine ret3t rfl rfl rfl rfl (row_store3 HZ4.out _ _ _) ⟨_, _, rfl, below_store3 HB4.out (Nat.le_refl _) _ _ _, fun h => (by cases h), fun s' n' d' h => ?_⟩
              injection h with h
              injection h with h1 h2
              injection h2 with h2 h3
              subst h1 h2 h3
              exact ⟨⟨_, _, rfl, natSl_storeZ L3.out.1 HZ4.out _ _ _, natSl_storeZ L4.out.1 HZ4.out _ _ _⟩, rfl⟩
            · obtain rfl : R = none := by
                rw [← hR.out]
                exact HGOOD.out.2 (by intro h; apply hts; rw [← HTT.out, h]; exact (str_eq HL.out).symm)
              have hne : (T.toList == s.toList) = false := by
                rw [beq_eq_false_iff_ne]
                intro h
                apply hts
                apply ByteArray.ext
                rw [ByteArray.toList_eq, ByteArray.toList_eq] at h
                exact Array.toList_inj.1 h
              clear hts
              go_wp2_with (fail)
              exact ret3t rfl rfl rfl rfl (row_store3 HZ4.out _ _ _) ⟨_, _, rfl, below_store3 HB4.out (Nat.le_refl _) _ _ _, fun _ => ⟨rfl, rfl⟩, fun _ _ _ h => (by cases h)⟩
      · have hz47 : ((z : Int) == 47) = false := by
          rw [beq_eq_false_iff_ne]
          intro h
          apply h47
          rw [← hxx, ← hx]
          apply UInt8.toNat.inj
          rw [hz0]
          show z = 47
          omega
        have HN := Lib.hid (show ∀ j, j < k + 1 → tl.getD j 0 ≠ 47 by
          intro j hj
          rcases Nat.lt_or_ge j k with h | h
          · exact hno.out j h
          · obtain rfl : j = k := by omega
            rw [hxx]; exact h47)
        clear hx hxx h47
        go_wp2_with (fail)
        go_round
        case rel => exact ⟨k + 1, by have := HLEN.out; omega, by go_num, HN⟩
        case measure => simp only [intOf]; omega
    · obtain rfl : k = t.size := by have := HLEN.out; omega
      obtain rfl : R = none := by rw [← hR.out]; exact read_no HCD.out (by rw [HLEN.out]; exact hno.out)
      obtain ⟨q0, q1, q2⟩ := Rt.cells HZ.out
      obtain ⟨q3, q4, q5⟩ := Rt.frozen HZ.out
      go_wp2_with (fail)
      exact ret3t rfl rfl rfl rfl (row_store3 HZ.out _ _ _) ⟨_, _, rfl, below_store3 HB.out (Nat.le_refl _) _ _ _, fun _ => ⟨rfl, rfl⟩, fun _ _ _ h => (by cases h)⟩
end Go.Proofs.YtfdkdloldjfnjaaGreatDoor
