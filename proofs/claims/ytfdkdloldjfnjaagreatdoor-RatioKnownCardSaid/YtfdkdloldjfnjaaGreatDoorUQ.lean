/-
  DERIVED. The reference's Floor and Int at what is not valid; Int.
-/
import Derived.Test.YtfdkdloldjfnjaaGreatDoorUP
import Derived.Test.YtfdkdloldjfnjaaGreatDoorTF
set_option linter.unusedVariables false
set_option linter.unusedSimpArgs false
namespace Go.Proofs.YtfdkdloldjfnjaaGreatDoor
open Go.RowKit
set_option maxRecDepth 100000

set_option maxHeartbeats 2000000 in
theorem floor_n (s : Bool) (a b : List Nat) (hv : validB s a b = false) (va vb : Value) (w : World) (ha : Ls w va a) (hb : Ls w vb b) :
    Calls Tryz.prog 35 #[.agg #[.bool s, va, vb]] w (ResPost none 1 w) := by
  obtain ⟨A, ca, rfl, -, -⟩ := ha.nilcap
  obtain ⟨B, cb, rfl, -, -⟩ := hb.nilcap
  obtain ⟨W, hW⟩ : ∃ W, W = (w.alloc (.cells #[.bool s, .slice A a.length ca, .slice B b.length cb] 25)).alloc (.cells #[.bool false, .slice none 0 0, .slice none 0 0] 25) := ⟨_, rfl⟩
  have B0 : Below w.heap.size w W := by subst hW; exact below_two _ _ _
  have hz : w.heap.size + 1 < W.heap.size := by subst hW; simp
  have HX := Lib.hid (show Rt W w.heap.size s (.slice A a.length ca) (.slice B b.length cb) by subst hW; exact two_new _ _ _ _ _)
  have HR := Lib.hid (show ResZ (w.heap.size + 1) W by subst hW; exact resz_two _ _)
  have HB := Lib.hid B0
  have HV := Lib.hid (c_eValid s a b false hv _ _ W (ha.on B0) (hb.on B0))
  clear B0 ha hb hv
  go_enter Tryz.func35, Tryz.ntmps35
  go_wp2_with (fail)
  rw [← hW]
  clear hW
  obtain ⟨x0, x1, x2⟩ := HX.out.cells
  go_wp2_with (fail)
  go_at_call 19
  refine HV.out.mono ?_
  rintro e w1 ⟨rfl, b1⟩
  replace HR := Lib.hid (HR.out.on b1 hz)
  replace HB := Lib.hid (below_join HB.out b1 HB.out.size)
  clear b1 x0 x1 x2
  obtain ⟨z0, z1, z2⟩ := Rt.cells HR.out
  obtain ⟨f0, f1, f2⟩ := Rt.frozen HR.out
  go_wp2_with (fail)
  exact ret3t rfl rfl rfl rfl (row_store3 HR.out _ _ _) ⟨_, _, rfl, below_store3 HB.out (by omega) _ _ _, fun _ => ⟨rfl, rfl⟩, fun _ _ _ h => (by cases h)⟩
set_option maxHeartbeats 2000000 in
theorem int_n (s : Bool) (a b : List Nat) (hv : validB s a b = false) (va vb : Value) (w : World) (ha : Ls w va a) (hb : Ls w vb b) :
    Calls Tryz.prog 37 #[.agg #[.bool s, va, vb]] w (IntPost 0 1 w) := by
  obtain ⟨A, ca, rfl, -, -⟩ := ha.nilcap
  obtain ⟨B, cb, rfl, -, -⟩ := hb.nilcap
  obtain ⟨W, hW⟩ : ∃ W, W = w.alloc (.cells #[.bool s, .slice A a.length ca, .slice B b.length cb] 25) := ⟨_, rfl⟩
  have B0 : Below w.heap.size w W := by subst hW; exact (Below.refl _ _).alloc (Nat.le_refl _) _
  have HX := Lib.hid (show Rt W w.heap.size s (.slice A a.length ca) (.slice B b.length cb) by subst hW; exact rt_new' _ _ _ _)
  have HB := Lib.hid B0
  have HV := Lib.hid (c_eValid s a b false hv _ _ W (ha.on B0) (hb.on B0))
  clear B0 ha hb hv
  go_enter Tryz.func37, Tryz.ntmps37
  go_wp2_with (fail)
  rw [← hW]
  clear hW
  obtain ⟨x0, x1, x2⟩ := HX.out.cells
  go_wp2_with (fail)
  go_at_call 19
  refine HV.out.mono ?_
  rintro e w1 ⟨rfl, b1⟩
  replace HB := Lib.hid (below_join HB.out b1 HB.out.size)
  clear b1 x0 x1 x2
  go_wp2_with (fail)
  go_ret2
  exact ⟨rfl, HB.out⟩
/-- What Int answers. -/
def intP (s : Bool) (m n : Nat) : Int × Int := if n ≠ 1 then (0, 2) else if s = true then (if m ≤ 9223372036854775808 then (-(m : Int), 0) else (0, 2)) else (if m ≤ 9223372036854775807 then ((m : Int), 0) else (0, 2))
set_option maxHeartbeats 4000000 in
theorem int_v (s : Bool) (m : Nat) (hv : validB s (nat m) (nat 1) = true) (x : Value) (w : World) (hx : Fr w x s m 1) (hl : (nat m).length ≤ 2) :
    Calls Tryz.prog 37 #[x] w (IntPost (intP s m 1).1 (intP s m 1).2 w) := by
  obtain ⟨va, vb, rfl, ha, hb⟩ := hx
  obtain ⟨A, ca, rfl⟩ := ha.shape
  obtain ⟨B, cb, rfl⟩ := hb.shape
  have hla : Ls w _ (nat m) := ⟨ha, lb_nat _⟩
  have hlb : Ls w _ (nat 1) := ⟨hb, lb_nat _⟩
  obtain ⟨W, hW⟩ : ∃ W, W = w.alloc (.cells #[.bool s, .slice A (nat m).length ca, .slice B (nat 1).length cb] 25) := ⟨_, rfl⟩
  have B0 : Below w.heap.size w W := by subst hW; exact (Below.refl _ _).alloc (Nat.le_refl _) _
  have HX := Lib.hid (show Rt W w.heap.size s (.slice A (nat m).length ca) (.slice B (nat 1).length cb) by subst hW; exact rt_new' _ _ _ _)
  have HB := Lib.hid B0
  have HV := Lib.hid (c_eValid s (nat m) (nat 1) true hv _ _ W (hla.on B0) (hlb.on B0))
  have HA1 := Lib.hid (hla.on B0)
  have HB1 := Lib.hid (hlb.on B0)
  clear B0 ha hb hla hlb hv
  go_enter Tryz.func37, Tryz.ntmps37
  go_wp2_with (fail)
  rw [← hW]
  clear hW
  obtain ⟨x0, x1, x2⟩ := HX.out.cells
  go_wp2_with (fail)
  go_at_call 19
  refine HV.out.mono ?_
  rintro e w1 ⟨rfl, b1⟩
  replace HX := Lib.hid (HX.out.on b1 HX.out.lt)
  replace HB := Lib.hid (below_join HB.out b1 HB.out.size)
  have HA2 := Lib.hid (HA1.out.on b1)
  have HB2 := Lib.hid (HB1.out.on b1)
  clear b1 x0 x1 x2
  obtain ⟨V, hV⟩ : ∃ V, V = w1.alloc (.cells #[.int .u32 1] 51) := ⟨_, rfl⟩
  have bV : Below w1.heap.size w1 V := by subst hV; exact (Below.refl _ _).alloc (Nat.le_refl _) _
  have HS := Lib.hid (c_eSameNat (nat 1) (nat 1) (lb_nat _) (lb_nat _) true (decide_eq_true rfl) _ (.slice (some ⟨w1.heap.size, 0, none⟩) 1 1) _ _ V (HB2.out.on bV).1 (by subst hV; exact (ls_one w1).1))
  have HX2 := Lib.hid (HX.out.on bV HX.out.lt)
  have HA3 := Lib.hid (HA2.out.on bV)
  have HB3 := Lib.hid (below_join HB.out bV HB.out.size)
  clear bV
  obtain ⟨x0, x1, x2⟩ := HX.out.cells
  go_wp2_with (fail)
  rw [← hV]
  clear hV x0 x1 x2
  go_at_call 59
  refine HS.out.mono ?_
  rintro e w3 ⟨rfl, d3, rfl⟩
  obtain ⟨x0, x1, x2⟩ := HX2.out.cells
  have hl2 : ((nat m).length : Int) ≤ 2 := by omega
  have hm64 : m < 18446744073709551616 := by have := nat_len_le.1 hl; rw [show BB ^ 2 = 18446744073709551616 from rfl] at this; exact this
  have HM := Lib.hid (val_nat m)
  go_wp2_with (fail)
  go_loopw [4, 5] (fun nv i wr => ∃ k : Nat, k ≤ (nat m).length ∧ i = .int .i64 ((k : Int) - 1) ∧ nv = .int .u64 ((val ((nat m).drop k) : Nat) : Int) ∧ V.drewN d3 = wr) (fun _ i _ => (intOf i + 1).toNat)
  case atStart => exact ⟨(nat m).length, Nat.le_refl _, rfl, (by rw [List.drop_of_length_le (Nat.le_refl _)]; rfl), rfl⟩
  case round =>
    obtain ⟨k, hk, rfl, rfl, rfl⟩ := hrel
    by_cases h0 : 0 < k
    · obtain ⟨b1, o1, c1, e1, -, -, -, g1⟩ := HA3.out.1.at_ (i := k - 1) (by omega)
      injection e1 with e1 _ e2
      subst e1 e2
      have q1 := g1 (k - 1) (by omega)
      have hko : ((k : Int) - 1).toNat = k - 1 := by omega
      have hk0 : 0 ≤ (k : Int) - 1 := by omega
      have hk1 : (k : Int) - 1 < ((nat m).length : Nat) := by omega
      have hdrop : val ((nat m).drop (k - 1)) = (nat m).getD (k - 1) 0 + 4294967296 * val ((nat m).drop k) := by
        rw [List.drop_eq_getElem_cons (show k - 1 < (nat m).length by omega), show k - 1 + 1 = k by omega, List.getD_eq_getElem?_getD, List.getElem?_eq_getElem (show k - 1 < (nat m).length by omega)]
        rfl
      have hxl := lb_get (lb_nat m) (k - 1)
      have hvl := val_lt (lb_drop (lb_nat m) k)
      have hvl2 : val ((nat m).drop k) < 4294967296 := by
        rcases Nat.lt_or_ge k (nat m).length with h | h
        · have e3 : ((nat m).drop k).length = 1 := by simp; omega
          rw [e3] at hvl
          simpa [BB] using hvl
        · rw [List.drop_of_length_le h]; simp [val]
      unfold BB at hxl
      have HD := Lib.hid hdrop
      clear g1 hdrop hvl
      generalize hgx : (nat m).getD (k - 1) 0 = x at *
      generalize hgv : val ((nat m).drop k) = u at *
      have hor : bits BinOp.or IntKind.u64 ((u : Int) * 4294967296) (x : Int) = ((x + 4294967296 * u : Nat) : Int) := by
        have e : (u : Int) * 4294967296 = ((u * 4294967296 : Nat) : Int) := by omega
        rw [e, or_word64 _ _ (by omega) (by omega), Nat.or_comm, or_add (d := 32) (by omega) (by omega)]
        congr 1
        omega
      have HOR := Lib.hid hor
      clear hor
      go_wp2_with (fail)
      go_roundw
      case rel => exact ⟨k - 1, by omega, by go_num, (by rw [HOR.out, HD.out]), trivial⟩
      case measure => simp [intOf]; omega
    · obtain rfl : k = 0 := by omega
      rw [List.drop_zero, HM.out]
      have HBd := Lib.hid (below_drewN HB3.out d3)
      rcases Nat.lt_trichotomy m 9223372036854775808 with h | h | h
      · have k1 : ¬ (9223372036854775808 : Int) < (m : Int) := by omega
        have k2 : ((m : Int) == 9223372036854775808) = false := by rw [beq_eq_false_iff_ne]; omega
        cases s
        · have hI : intP false m 1 = ((m : Int), 0) := by unfold intP; rw [if_neg (by omega), if_neg (by decide), if_pos (by omega)]
          have HI := Lib.hid hI
          clear hI
          go_wp2_with (fail)
          go_ret2
          exact ⟨ret_pair (by rw [HI.out]) (by rw [HI.out]), HBd.out⟩
        · have hI : intP true m 1 = (-(m : Int), 0) := by unfold intP; rw [if_neg (by omega), if_pos rfl, if_pos (by omega)]
          have HI := Lib.hid hI
          have hw : wrap64 (IntKind.u64.wrap (-(m : Int))) = -(m : Int) := by rw [IntKind.wrap_u64]; unfold wrap64; omega
          have HW := Lib.hid hw
          clear hI hw
          go_wp2_with (fail)
          go_ret2
          exact ⟨ret_pair (by rw [HI.out]; exact HW.out) (by rw [HI.out]), HBd.out⟩
      · subst h
        cases s
        · have HI := Lib.hid (show intP false 9223372036854775808 1 = (0, 2) from rfl)
          go_wp2_with (fail)
          go_ret2
          exact ⟨ret_pair (by rw [HI.out]) (by rw [HI.out]), HBd.out⟩
        · have HI := Lib.hid (show intP true 9223372036854775808 1 = (-9223372036854775808, 0) from rfl)
          go_wp2_with (fail)
          go_ret2
          exact ⟨ret_pair (by rw [HI.out, IntKind.wrap_u64]; unfold wrap64; omega) (by rw [HI.out]), HBd.out⟩
      · have k1 : (9223372036854775808 : Int) < (m : Int) := by omega
        have hI : intP s m 1 = (0, 2) := by
          unfold intP
          rw [if_neg (by omega)]
          split
          · rw [if_neg (by omega)]
          · rw [if_neg (by omega)]
        have HI := Lib.hid hI
        clear hI
        go_wp2_with (fail)
        go_ret2
        exact ⟨ret_pair (by rw [HI.out]) (by rw [HI.out]), HBd.out⟩
set_option maxHeartbeats 4000000 in
theorem int_d (s : Bool) (m n : Nat) (hn1 : n ≠ 1)  (hv : validB s (nat m) (nat n) = true) (x : Value) (w : World) (hx : Fr w x s m n) :
    Calls Tryz.prog 37 #[x] w (IntPost 0 2 w) := by
  obtain ⟨va, vb, rfl, ha, hb⟩ := hx
  obtain ⟨A, ca, rfl⟩ := ha.shape
  obtain ⟨B, cb, rfl⟩ := hb.shape
  have hla : Ls w _ (nat m) := ⟨ha, lb_nat _⟩
  have hlb : Ls w _ (nat n) := ⟨hb, lb_nat _⟩
  obtain ⟨W, hW⟩ : ∃ W, W = w.alloc (.cells #[.bool s, .slice A (nat m).length ca, .slice B (nat n).length cb] 25) := ⟨_, rfl⟩
  have B0 : Below w.heap.size w W := by subst hW; exact (Below.refl _ _).alloc (Nat.le_refl _) _
  have HX := Lib.hid (show Rt W w.heap.size s (.slice A (nat m).length ca) (.slice B (nat n).length cb) by subst hW; exact rt_new' _ _ _ _)
  have HB := Lib.hid B0
  have HV := Lib.hid (c_eValid s (nat m) (nat n) true hv _ _ W (hla.on B0) (hlb.on B0))
  have HA1 := Lib.hid (hla.on B0)
  have HB1 := Lib.hid (hlb.on B0)
  clear B0 ha hb hla hlb hv
  go_enter Tryz.func37, Tryz.ntmps37
  go_wp2_with (fail)
  rw [← hW]
  clear hW
  obtain ⟨x0, x1, x2⟩ := HX.out.cells
  go_wp2_with (fail)
  go_at_call 19
  refine HV.out.mono ?_
  rintro e w1 ⟨rfl, b1⟩
  replace HX := Lib.hid (HX.out.on b1 HX.out.lt)
  replace HB := Lib.hid (below_join HB.out b1 HB.out.size)
  have HA2 := Lib.hid (HA1.out.on b1)
  have HB2 := Lib.hid (HB1.out.on b1)
  clear b1 x0 x1 x2
  obtain ⟨V, hV⟩ : ∃ V, V = w1.alloc (.cells #[.int .u32 1] 51) := ⟨_, rfl⟩
  have bV : Below w1.heap.size w1 V := by subst hV; exact (Below.refl _ _).alloc (Nat.le_refl _) _
  have HS := Lib.hid (c_eSameNat (nat n) (nat 1) (lb_nat _) (lb_nat _) false (decide_eq_false fun h => hn1 (nat_inj h)) _ (.slice (some ⟨w1.heap.size, 0, none⟩) 1 1) _ _ V (HB2.out.on bV).1 (by subst hV; exact (ls_one w1).1))
  have HX2 := Lib.hid (HX.out.on bV HX.out.lt)
  have HA3 := Lib.hid (HA2.out.on bV)
  have HB3 := Lib.hid (below_join HB.out bV HB.out.size)
  clear bV
  obtain ⟨x0, x1, x2⟩ := HX.out.cells
  go_wp2_with (fail)
  rw [← hV]
  clear hV x0 x1 x2
  go_at_call 59
  refine HS.out.mono ?_
  rintro e w3 ⟨rfl, d3, rfl⟩
  obtain ⟨x0, x1, x2⟩ := HX2.out.cells
  go_wp2_with (fail)
  go_ret2
  exact ⟨rfl, below_drewN HB3.out d3⟩
set_option maxHeartbeats 4000000 in
theorem int_b (s : Bool) (m n : Nat) (hn1 : n = 1) (hl : 2 < (nat m).length)  (hv : validB s (nat m) (nat n) = true) (x : Value) (w : World) (hx : Fr w x s m n) :
    Calls Tryz.prog 37 #[x] w (IntPost 0 2 w) := by
  have HN1 := Lib.hid hn1
  obtain ⟨va, vb, rfl, ha, hb⟩ := hx
  obtain ⟨A, ca, rfl⟩ := ha.shape
  obtain ⟨B, cb, rfl⟩ := hb.shape
  have hla : Ls w _ (nat m) := ⟨ha, lb_nat _⟩
  have hlb : Ls w _ (nat n) := ⟨hb, lb_nat _⟩
  obtain ⟨W, hW⟩ : ∃ W, W = w.alloc (.cells #[.bool s, .slice A (nat m).length ca, .slice B (nat n).length cb] 25) := ⟨_, rfl⟩
  have B0 : Below w.heap.size w W := by subst hW; exact (Below.refl _ _).alloc (Nat.le_refl _) _
  have HX := Lib.hid (show Rt W w.heap.size s (.slice A (nat m).length ca) (.slice B (nat n).length cb) by subst hW; exact rt_new' _ _ _ _)
  have HB := Lib.hid B0
  have HV := Lib.hid (c_eValid s (nat m) (nat n) true hv _ _ W (hla.on B0) (hlb.on B0))
  have HA1 := Lib.hid (hla.on B0)
  have HB1 := Lib.hid (hlb.on B0)
  clear B0 ha hb hla hlb hv hn1
  go_enter Tryz.func37, Tryz.ntmps37
  go_wp2_with (fail)
  rw [← hW]
  clear hW
  obtain ⟨x0, x1, x2⟩ := HX.out.cells
  go_wp2_with (fail)
  go_at_call 19
  refine HV.out.mono ?_
  rintro e w1 ⟨rfl, b1⟩
  replace HX := Lib.hid (HX.out.on b1 HX.out.lt)
  replace HB := Lib.hid (below_join HB.out b1 HB.out.size)
  have HA2 := Lib.hid (HA1.out.on b1)
  have HB2 := Lib.hid (HB1.out.on b1)
  clear b1 x0 x1 x2
  obtain ⟨V, hV⟩ : ∃ V, V = w1.alloc (.cells #[.int .u32 1] 51) := ⟨_, rfl⟩
  have bV : Below w1.heap.size w1 V := by subst hV; exact (Below.refl _ _).alloc (Nat.le_refl _) _
  have HS := Lib.hid (c_eSameNat (nat n) (nat 1) (lb_nat _) (lb_nat _) true (decide_eq_true (by rw [HN1.out])) _ (.slice (some ⟨w1.heap.size, 0, none⟩) 1 1) _ _ V (HB2.out.on bV).1 (by subst hV; exact (ls_one w1).1))
  have HX2 := Lib.hid (HX.out.on bV HX.out.lt)
  have HA3 := Lib.hid (HA2.out.on bV)
  have HB3 := Lib.hid (below_join HB.out bV HB.out.size)
  clear bV
  obtain ⟨x0, x1, x2⟩ := HX.out.cells
  go_wp2_with (fail)
  rw [← hV]
  clear hV x0 x1 x2
  go_at_call 59
  refine HS.out.mono ?_
  rintro e w3 ⟨rfl, d3, rfl⟩
  obtain ⟨x0, x1, x2⟩ := HX2.out.cells
  have hl2 : (2 : Int) < ((nat m).length : Nat) := by omega
  go_wp2_with (fail)
  go_ret2
  exact ⟨rfl, below_drewN HB3.out d3⟩
theorem e_Int (s : Bool) (m n : Nat) (hv : validB s (nat m) (nat n) = true) (x : Value) (w : World) (hx : Fr w x s m n) : Calls Tryz.prog 37 #[x] w (IntPost (intP s m n).1 (intP s m n).2 w) := by
  by_cases hn : n = 1
  · by_cases hl : (nat m).length ≤ 2
    · subst hn
      exact int_v s m hv x w hx hl
    · have hbig : ¬ m ≤ 9223372036854775808 := fun h => hl (nat_len_le.2 (by unfold BB; omega))
      have e : intP s m n = (0, 2) := by
        unfold intP
        rw [if_neg (fun h => h hn), if_neg hbig, if_neg (show ¬ m ≤ 9223372036854775807 by omega)]
        split <;> rfl
      rw [e]
      exact int_b s m n hn (by omega) hv x w hx
  · have e : intP s m n = (0, 2) := by unfold intP; rw [if_pos hn]
    rw [e]
    exact int_d s m n hn hv x w hx
/-- The package's Int answers the same. -/
theorem n_Int (s : Bool) (m n : Nat) (hv : validB s (nat m) (nat n) = true) (x : Value) (w : World) (ht : Tz w) (hx : Fr w x s m n) : Calls Tryz.prog 36 #[x] w (IntPost (intP s m n).1 (intP s m n).2 w) := by
  obtain ⟨l1, l2, -, -⟩ := valid_facts hv
  unfold intP
  by_cases hn : n = 1
  · rw [if_neg (fun h => h hn)]
    cases s
    · rw [if_neg (by decide)]
      by_cases hm : m ≤ 9223372036854775807
      · rw [if_pos hm]; exact c_IntP m n (by omega) (by omega) hm hn x w ht hx hv
      · rw [if_neg hm]; exact c_IntBigP m n (by omega) (by omega) (by omega) hn x w ht hx hv
    · rw [if_pos rfl]
      by_cases hm : m ≤ 9223372036854775808
      · rw [if_pos hm]; exact c_IntM m n (by omega) (by omega) hm hn x w ht hx hv
      · rw [if_neg hm]; exact c_IntBigM m n (by omega) (by omega) (by omega) hn x w ht hx hv
  · rw [if_pos hn]
    cases s
    · exact c_IntDenP m n (by omega) (by omega) hn x w ht hx hv
    · exact c_IntDenM m n (by omega) (by omega) hn x w ht hx hv
end Go.Proofs.YtfdkdloldjfnjaaGreatDoor
