/-
  DERIVED. Several texts in one.
-/
import Derived.Test.YtfdkdloldjfnjaaGreatDoorYUAm
import Derived.Test.YtfdkdloldjfnjaaGreatDoorYMIm
import Derived.BigRegion
import Derived.Test.YtfdkdloldjfnjaaGreatDoorYUEm
set_option linter.unusedVariables false
set_option linter.unusedSimpArgs false

/- DERIVED. The reference's bits, half. -/
namespace Go.Proofs.YtfdkdloldjfnjaaGreatDoor
open Go.RowKit
set_option maxRecDepth 100000

/-- r is the number of binary digits of n. -/
def BitsOf (n r : Nat) : Prop := n < 2 ^ r ∧ (0 < n → 0 < r ∧ 2 ^ (r - 1) ≤ n) ∧ (n = 0 → r = 0)
theorem bits_of {n j : Nat} (hn : 0 < n) (h1 : (nat n).getD ((nat n).length - 1) 0 / 2 ^ j = 0) (h2 : j = 0 ∨ 0 < (nat n).getD ((nat n).length - 1) 0 / 2 ^ (j - 1)) : BitsOf n (32 * ((nat n).length - 1) + j) := by
  have hl := nat_len_pos.2 hn
  obtain ⟨k, hk⟩ : ∃ k, (nat n).length = k + 1 := ⟨(nat n).length - 1, by omega⟩
  have hv := val_take_succ (nat n) k
  rw [← hk, List.take_of_length_le (Nat.le_refl _), val_nat] at hv
  have hlt := val_lt (lb_take (lb_nat n) k)
  rw [List.length_take, Nat.min_eq_left (by omega)] at hlt
  have hlast : (nat n).getD k 0 ≠ 0 := by
    have := last_nat n
    rw [List.getLast?_eq_getElem?, hk] at this
    rw [List.getD_eq_getElem?_getD, List.getElem?_eq_getElem (show k < (nat n).length by omega)]
    exact this _ (by rw [Nat.add_sub_cancel]; exact List.getElem?_eq_getElem (show k < (nat n).length by omega))
  rw [hk, Nat.add_sub_cancel] at h1 h2 ⊢
  generalize (nat n).getD k 0 = x at *
  generalize val ((nat n).take k) = t at *
  have hp : BB ^ k = 2 ^ (32 * k) := by rw [show BB = 2 ^ 32 from rfl, ← Nat.pow_mul]
  rw [hp] at hv hlt
  have hx : x < 2 ^ j := by
    have := Nat.pow_pos (n := j) (show 0 < 2 by omega)
    rcases Nat.lt_or_ge x (2 ^ j) with h | h
    · exact h
    · have := Nat.div_pos h this
      omega
  have e0 : 2 ^ (32 * k + j) = 2 ^ (32 * k) * 2 ^ j := Nat.pow_add _ _ _
  have hj : 0 < j := by
    rcases Nat.eq_zero_or_pos j with h | h
    · subst h; simp at hx; omega
    · exact h
  refine ⟨?_, fun _ => ⟨by omega, ?_⟩, fun h => by omega⟩
  · rw [e0]
    have : 2 ^ (32 * k) * (x + 1) ≤ 2 ^ (32 * k) * 2 ^ j := Nat.mul_le_mul_left _ hx
    rw [Nat.mul_add, Nat.mul_one] at this
    omega
  · rcases h2 with h2 | h2
    · omega
    · have hx2 : 2 ^ (j - 1) ≤ x := by
        have := (Nat.le_div_iff_mul_le (Nat.pow_pos (n := j - 1) (show 0 < 2 by omega))).1 h2
        omega
      rw [show 32 * k + j - 1 = 32 * k + (j - 1) by omega, Nat.pow_add]
      have := Nat.mul_le_mul_left (2 ^ (32 * k)) hx2
      omega
set_option maxHeartbeats 2000000 in
theorem c_eBits (n : Nat) (hl : (nat n).length ≤ 100000) (v : Value) (ok : Nat → Prop) (w : World) (h : NatSl w ok v (nat n)) :
    Calls Tryz.prog 107 #[v] w fun e w' => ∃ r : Nat, e = .returned (.int .i64 (r : Int)) ∧ BitsOf n r ∧ r ≤ 3200000 ∧ w = w' := by
  rcases Nat.eq_zero_or_pos n with h0 | h0
  · subst h0
    rw [nat_zero] at h
    obtain ⟨A, c, rfl, -⟩ := h
    go_enter Tryz.func107, Tryz.ntmps107
    go_wp2
    go_ret
    exact ⟨0, rfl, ⟨by simp, fun h => by omega, fun _ => rfl⟩, by omega, rfl⟩
  · have hlp := nat_len_pos.2 h0
    obtain ⟨b, o, c, rfl, -, -, -, hc⟩ := h.at_ (i := (nat n).length - 1) (by omega)
    have hcell := hc ((nat n).length - 1) (by omega)
    have HF := Lib.hid (fun j => @bits_of n j h0)
    have hx := lb_get (lb_nat n) ((nat n).length - 1)
    unfold BB at hx
    clear hc h
    generalize hgl : (nat n).length = len at *
    generalize hgx : (nat n).getD (len - 1) 0 = x at *
    have hlo : ((len : Int) - 1).toNat = len - 1 := by omega
    have hne : ((len : Int) == 0) = false := by rw [beq_eq_false_iff_ne]; omega
    clear hgl hgx
    go_enter Tryz.func107, Tryz.ntmps107
    go_wp2
    go_loop [3, 4] (fun r y => ∃ j : Nat, j ≤ 32 ∧ r = .int .i64 ((32 * (len - 1) + j : Nat) : Int) ∧ y = .int .u32 ((x / 2 ^ j : Nat) : Int) ∧ Hid (j = 0 ∨ 0 < x / 2 ^ (j - 1))) (fun r y => (intOf y).toNat)
    case atStart => exact ⟨0, by omega, by go_num, by simp, Lib.hid (.inl rfl)⟩
    case round =>
      obtain ⟨j, hj, rfl, rfl, hh⟩ := hrel
      by_cases hz : 0 < x / 2 ^ j
      · have hj32 : j < 32 := by
          rcases Nat.lt_or_ge j 32 with h | h
          · exact h
          · obtain rfl : j = 32 := by omega
            rw [Nat.div_eq_of_lt (by omega)] at hz
            omega
        have e : x / 2 ^ (j + 1) = x / 2 ^ j / 2 := by rw [Nat.pow_succ, Nat.div_div_eq_div_mul]
        have HZ := Lib.hid hz
        have HE := Lib.hid e
        have hz2 : (0 : Int) < ((x / 2 ^ j : Nat) : Int) := Int.natCast_pos.2 hz
        have hzb : x / 2 ^ j < 4294967296 := Nat.lt_of_le_of_lt (Nat.div_le_self _ _) hx
        clear e hz
        generalize hy : x / 2 ^ j = y at *
        go_wp2
        go_round
        case rel => exact ⟨j + 1, by omega, by go_num, (by rw [HE.out]; go_num), Lib.hid (.inr (by rw [Nat.add_sub_cancel, hy]; exact HZ.out))⟩
        case measure => (have := HZ.out; simp only [intOf]; omega)
      · have hz0 : x / 2 ^ j = 0 := Nat.eq_zero_of_not_pos hz
        have HB := Lib.hid (HF.out j hz0 hh.out)
        have hz2 : ¬ (0 : Int) < ((x / 2 ^ j : Nat) : Int) := fun h => hz (Int.natCast_pos.1 h)
        have hlb : len ≤ 100000 := hl
        generalize x / 2 ^ j = y at *
        go_wp2
        go_ret
        exact ⟨32 * (len - 1) + j, ret_nat (by omega), HB.out, by omega, rfl⟩

/-- The reference halves in place. -/
def HalfRel (w : World) (a : List Nat) (g : Nat) (iv : Value) (wr : World) : Prop :=
  ∃ (k : Nat) (u : List Nat), k ≤ a.length ∧ iv = .int .i64 (k : Int) ∧ u.length = k ∧ Lb u ∧ val u * 2 ^ 1 + a.getD 0 0 % 2 ^ 1 = val (a.take k) + BB ^ k * (a.getD k 0 % 2 ^ 1) ∧ Row wr g (u ++ List.replicate (a.length - k) 0) ∧ Below w.heap.size w wr
theorem half_words {x y : Nat} (hx : x < BB) : x / 2 + y % 2 * 2147483648 < BB ∧ bits BinOp.or IntKind.u32 (((x / 2 : Nat)) : Int) ((y : Int) * 2147483648 % 4294967296) = ((x / 2 + y % 2 * 2147483648 : Nat) : Int) := by
  have h := lower_words (x := x) (y := y) (r := 1) hx (by omega)
  simp only [Nat.pow_one, show (2 : Nat) ^ (32 - 1) = 2147483648 from rfl, show ((2 : Int)) ^ (32 - 1) = 2147483648 from rfl, Int.pow_one] at h
  exact ⟨h.2, by rw [← h.1]; rfl⟩
theorem half_snoc {u : List Nat} {k n z : Nat} (hu : u.length = k) (hk : k < n) : (u ++ List.replicate (n - k) 0).set k z = (u ++ [z]) ++ List.replicate (n - (k + 1)) 0 := by
  rw [List.set_append_right _ _ (by omega), hu, Nat.sub_self, show n - k = (n - (k + 1)) + 1 by omega, List.replicate_succ]
  simp
theorem half_set {u : List Nat} {k m x z : Nat} (hu : u.length = k) : (u ++ [x] ++ List.replicate m 0).set k z = u ++ [z] ++ List.replicate m 0 := by
  rw [List.append_assoc, List.set_append_right _ _ (by omega), hu, Nat.sub_self]
  simp
theorem half_step {w wr : World} {a u : List Nat} {g k z : Nat} (hla : Lb a) (hk : k < a.length) (hu : u.length = k) (hlu : Lb u) (hv : val u * 2 ^ 1 + a.getD 0 0 % 2 ^ 1 = val (a.take k) + BB ^ k * (a.getD k 0 % 2 ^ 1)) (hz : z = a.getD k 0 / 2 + a.getD (k + 1) 0 % 2 * 2147483648) :
    (u ++ [z]).length = k + 1 ∧ Lb (u ++ [z]) ∧ val (u ++ [z]) * 2 ^ 1 + a.getD 0 0 % 2 ^ 1 = val (a.take (k + 1)) + BB ^ (k + 1) * (a.getD (k + 1) 0 % 2 ^ 1) := by
  have hx := lb_get hla k
  have hz1 := (half_words (y := a.getD (k + 1) 0) hx).1
  rw [← hz] at hz1
  refine ⟨by simp [hu], lb_append.2 ⟨hlu, lb_cons.2 ⟨hz1, lb_nil⟩⟩, ?_⟩
  have hr := lower_round (x := a.getD k 0) (y := a.getD (k + 1) 0) (d := 1) (by omega) hv
  rw [val_append, hu, val_one, val_take_succ, hz]
  exact hr
set_option maxHeartbeats 4000000 in
theorem c_eHalf (n : Nat) (hl : (nat n).length ≤ 100000) (v : Value) (w : World) (h : Ls w v (nat n)) :
    Calls Tryz.prog 109 #[v] w (NewNat (n / 2) w) := by
  obtain ⟨a, ha⟩ : ∃ a, a = nat n := ⟨_, rfl⟩
  have hva : val a = n := by rw [ha, val_nat]
  rw [← ha] at hl h
  clear ha
  obtain ⟨A, ca, rfl⟩ := h.1.shape
  have HA := Lib.hid h
  have HVA := Lib.hid hva
  clear h hva
  go_enter Tryz.func109, Tryz.ntmps109
  go_wp2_with (at_make; refine wp_make _ rfl _ _ rfl _ _ a.length rfl rfl (by omega) (by omega) (by omega) ?_; intro w1 hr1 hb1; have HR1 := Lib.hid hr1; have HB1 := Lib.hid hb1; have hsz := hr1.lt; clear hr1 hb1)
  go_loopw [4] (fun i wr => HalfRel w a w.heap.size i wr) (fun i wr => a.length - (intOf i).toNat)
  case atStart => exact ⟨0, [], Nat.zero_le _, rfl, rfl, lb_nil, by simp [val], by simpa using HR1.out, HB1.out⟩
  case round =>
    obtain ⟨k, u, hk, rfl, hu, hlu, hv, hrow, hnx⟩ := hrel
    by_cases hka : k < a.length
    · have HS := Lib.hid (fun z hz => half_step (z := z) HA.out.2 hka hu hlu hv hz (w := w) (wr := wr) (g := w.heap.size))
      have hki : ((k : Nat) : Int).toNat = k := by omega
      have hk0 : (0 : Int) ≤ (k : Int) := by omega
      have hkn : (k : Int) < (a.length : Nat) := by omega
      obtain ⟨b1, o1, c1, e1, hb1, q1⟩ := HA.out.cellAt hnx hka
      injection e1 with e1 _ e2
      subst e1 e2
      have hx := lb_get HA.out.2 k
      unfold BB at hx
      have hlen : (u ++ List.replicate (a.length - k) 0).length = a.length := by simp [hu]; omega
      have HLEN := Lib.hid hlen
      have HU := Lib.hid hu
      have q2 := hrow.cell (i := k) (by omega)
      have q3 := hrow.frozen k
      have HROW := Lib.hid hrow
      have HN := Lib.hid hnx
      clear hlu hv hrow hnx hlen hu
      generalize hgx : a.getD k 0 = x at *
      generalize hgt : (u ++ List.replicate (a.length - k) 0).getD k 0 = t at q2
      have hd : ((x / 2 : Nat) : Int) = (x : Int) / 2 := by omega
      have hrow2 := HROW.out.set k (x / 2)
      rw [hd, half_snoc HU.out hka] at hrow2
      have HROW2 := Lib.hid hrow2
      have HD := Lib.hid hd
      clear hd hrow2
      by_cases hk1 : k + 1 < a.length
      · obtain ⟨V, hV⟩ : ∃ V, V = wr.setCell ⟨w.heap.size, k, none⟩ (.int .u32 ((x : Int) / 2)) := ⟨_, rfl⟩
        have hk1i : (k : Int) + 1 < (a.length : Nat) := by omega
        have hko : ((k : Int) + 1).toNat = k + 1 := by omega
        have hk10 : (0 : Int) ≤ (k : Int) + 1 := by omega
        go_wp2_with (fail)
        rw [← hV] at HROW2 ⊢
        have HNV := Lib.hid (show Below w.heap.size w V by rw [hV]; exact HN.out.setCell (Nat.le_refl _) _)
        clear hV q1 q2 q3
        obtain ⟨b2, o2, c2, e3, hb2, q1⟩ := HA.out.cellAt HNV.out hk1
        injection e3 with e3 _ e4
        injection e3 with e3
        injection e3 with e3 e5
        subst e3 e5
        have q2 := HROW2.out.cell (i := k) (by simp [HU.out])
        have q3 := HROW2.out.frozen k
        have hxy := half_words (x := x) (y := a.getD (k + 1) 0) hx
        have hy := lb_get HA.out.2 (k + 1)
        have HX := Lib.hid hgx
        generalize hgy : a.getD (k + 1) 0 = y at *
        have hget : (u ++ [x / 2] ++ List.replicate (a.length - (k + 1)) 0).getD k 0 = x / 2 := by
          rw [List.getD_eq_getElem?_getD, List.append_assoc, List.getElem?_append_right (by rw [HU.out]; exact Nat.le_refl _), HU.out, Nat.sub_self]
          rfl
        rw [hget] at q2
        have HS2 := Lib.hid (HS.out _ rfl)
        have hrow3 := HROW2.out.set k (x / 2 + y % 2 * 2147483648)
        rw [half_set HU.out] at hrow3
        have HROW3 := Lib.hid hrow3
        have hxy2 := hxy.2
        rw [show ((x / 2 : Nat) : Int) = (x : Int) / 2 by omega] at hxy2
        have HXY := Lib.hid hxy2
        clear hxy2 hrow3
        have HV2 := Lib.hid (HNV.out.setCell (p := ⟨w.heap.size, k, none⟩) (Nat.le_refl _) (.int .u32 ((x / 2 + y % 2 * 2147483648 : Nat) : Int)))
        have hzb : x / 2 < 4294967296 := by omega
        have hyb : y < 4294967296 := hy
        have HD2 := HD.out
        clear hget hxy HS HD hy
        go_region
        rw [HXY.out]
        go_wp2
        go_roundw
        case rel => exact ⟨k + 1, u ++ [x / 2 + y % 2 * 2147483648], by omega, by go_num, HS2.out.1, HS2.out.2.1, by rw [hgy]; exact HS2.out.2.2, HROW3.out, HV2.out.drew⟩
        case measure => simp [intOf]; omega
      · go_wp2_with (fail)
        go_roundw
        case rel =>
          rw [getD_over (l := a) (by omega)] at HS
          obtain ⟨s1, s2, s3⟩ := HS.out (x / 2) (by omega)
          exact ⟨k + 1, u ++ [x / 2], by omega, by go_num, s1, s2, by rw [getD_over (l := a) (k := k + 1) (by omega)]; exact s3, HROW2.out, HN.out.setCell (Nat.le_refl _) _⟩
        case measure => simp [intOf]; omega
    · have hkn : ¬ (k : Int) < (a.length : Nat) := by omega
      obtain rfl : k = a.length := by omega
      have hvu : val u = n / 2 := by
        rw [getD_over (Nat.le_refl _), List.take_of_length_le (Nat.le_refl _), HVA.out] at hv
        simp only [Nat.pow_one, Nat.zero_mod, Nat.mul_zero, Nat.add_zero] at hv
        omega
      rw [Nat.sub_self, List.replicate_zero, List.append_nil] at hrow
      have HTR := Lib.hid (c_eTrim _ hlu _ _ wr (row_whole hrow hu (by omega)))
      have HVL := Lib.hid hvu
      have HN := Lib.hid hnx
      have hlt := hrow.lt
      clear hvu hrow hnx
      go_wp2_with (fail)
      go_at_call 89
      refine HTR.out.mono ?_
      rintro e w3 ⟨r, rfl, hn, rfl⟩
      rw [HVL.out] at hn
      have HNN := Lib.hid hn
      clear hn
      go_wp2_with (fail)
      go_ret
      exact ⟨_, rfl, HNN.out.mono (fun i hi => by subst hi; exact ⟨Nat.le_refl _, hlt⟩), HN.out⟩
end Go.Proofs.YtfdkdloldjfnjaaGreatDoor

/- DERIVED. The reference's double, Quotient. -/
namespace Go.Proofs.YtfdkdloldjfnjaaGreatDoor
open Go.RowKit
set_option maxRecDepth 100000

theorem c_eSumN (m n : Nat) (hm : (nat m).length ≤ 100000) (hn : (nat n).length ≤ 100000) (va vb : Value) (w : World) (h : Ls w va (nat m)) (k : Ls w vb (nat n)) : Calls Tryz.prog 77 #[va, vb] w (NewNat (m + n) w) := by
  have := c_eSum (nat m) (nat n) hm hn va vb w h k
  rwa [val_nat, val_nat] at this
theorem c_eDiffN (m n : Nat) (hm : (nat m).length ≤ 100000) (hle : n ≤ m) (va vb : Value) (w : World) (h : Ls w va (nat m)) (k : Ls w vb (nat n)) : Calls Tryz.prog 103 #[va, vb] w (NewNat (m - n) w) := by
  have := c_eDiff (nat m) (nat n) hm (len_le_of_le hle (Nat.le_refl _)) (by rw [val_nat, val_nat]; exact hle) va vb w h k
  rwa [val_nat, val_nat] at this
theorem c_eCmpN (m n : Nat) (va vb : Value) (w : World) (h : Ls w va (nat m)) (k : Ls w vb (nat n)) : Calls Tryz.prog 99 #[va, vb] w (CmpPost (cmpI m n) w) := by
  have := c_eCompare (nat m) (nat n) (lb_nat _) (lb_nat _) va vb _ _ w h.1 k.1
  rwa [cmpL_can (can_nat _) (can_nat _), val_nat, val_nat] at this
theorem NewNat.ls {n : Nat} {w : World} {e : Ending} {w' : World} (h : NewNat n w e w') : ∃ v, e = .returned v ∧ Ls w' v (nat n) ∧ Below w.heap.size w w' := by
  obtain ⟨v, h1, h2, h3⟩ := h
  exact ⟨v, h1, ⟨h2.mono fun i hi => hi.2, lb_nat _⟩, h3⟩
theorem nat_one : nat 1 = [1] := by
  rw [nat_pos (by omega), show 1 / BB = 0 from rfl, nat_zero]
  rfl
theorem ls_one (w : World) : Ls (w.alloc (.cells #[.int .u32 1] 51)) (.slice (some ⟨w.heap.size, 0, none⟩) 1 1) (nat 1) := by
  rw [nat_one]
  have hr : Row (w.alloc (.cells #[.int .u32 1] 51)) w.heap.size [1] := ⟨_, heap_alloc_new w _, rfl⟩
  exact ⟨(row_whole (n := 1) hr rfl (by omega)).mono (fun i hi => by subst hi; exact hr.lt), lb_cons.2 ⟨by unfold BB; omega, lb_nil⟩⟩
theorem len_succ {n k : Nat} (h : (nat n).length ≤ k) : (nat (2 * n + 1)).length ≤ k + 1 := by
  have := nat_len_le.1 h
  refine nat_len_le.2 ?_
  rw [Nat.pow_succ]
  unfold BB at *
  omega
set_option maxHeartbeats 2000000 in
theorem c_eDouble (n : Nat) (one : Bool) (hl : (nat n).length ≤ 90000) (v : Value) (w : World) (h : Ls w v (nat n)) : Calls Tryz.prog 108 #[v, .bool one] w (NewNat (2 * n + if one then 1 else 0) w) := by
  have HA := Lib.hid (c_eSumN n n (by omega) (by omega) v v w h h)
  have HL := Lib.hid (len_succ hl)
  obtain ⟨A, c, rfl⟩ := h.1.shape
  clear h
  cases one
  · go_enter Tryz.func108, Tryz.ntmps108
    go_wp2_with (fail)
    go_at_call 77
    refine HA.out.mono ?_
    rintro e w1 ⟨v1, rfl, h1, b1⟩
    have H1 := Lib.hid h1
    have B1 := Lib.hid b1
    clear h1 b1
    go_wp2_with (fail)
    go_ret
    refine ⟨_, rfl, ?_, B1.out⟩
    have h := H1.out
    rw [show n + n = 2 * n by omega] at h
    exact h
  · go_enter Tryz.func108, Tryz.ntmps108
    go_wp2_with (fail)
    go_at_call 77
    refine HA.out.mono ?_
    rintro e w1 h1
    obtain ⟨v1, rfl, h1, b1⟩ := h1.ls
    have hz := b1.size
    have B1 := Lib.hid b1
    have B2 := Lib.hid ((Below.refl w1.heap.size w1).alloc (Nat.le_refl _) (.cells #[.int .u32 1] 51))
    have HS := Lib.hid (c_eSumN (n + n) 1 (len_le_of_le (show n + n ≤ 2 * n + 1 by omega) (by have := HL.out; omega)) (by rw [nat_one]; simp) v1 _ _ (h1.on B2.out) (ls_one w1))
    obtain ⟨A1, c1, rfl⟩ := h1.1.shape
    clear h1 b1
    go_wp2_with (fail)
    go_at_call 77
    refine HS.out.mono ?_
    rintro e w2 ⟨v2, rfl, h2, b2⟩
    have H2 := Lib.hid h2
    have B3 := Lib.hid b2
    have hz2 := B2.out.size
    clear h2 b2
    go_wp2_with (fail)
    go_ret
    refine ⟨_, rfl, ?_, B1.out.trans ((B2.out.mono hz).trans (B3.out.mono (by omega)))⟩
    have h := H2.out
    rw [show n + n + 1 = 2 * n + 1 by omega] at h
    exact h.mono (fun i hi => ⟨by omega, hi.2⟩)
def QRel1 (w : World) (n S : Nat) (b iv : Value) (wr : World) : Prop := ∃ i : Nat, i ≤ S ∧ iv = .int .i64 (i : Int) ∧ Ls wr b (nat (n * 2 ^ i)) ∧ Below w.heap.size w wr
def QRel2 (w : World) (m n S : Nat) (a b q iv : Value) (wr : World) : Prop :=
  ∃ (j A Q : Nat), j ≤ S + 1 ∧ iv = .int .i64 ((j : Int) - 1) ∧ Ls wr a (nat A) ∧ Ls wr b (nat (n * 2 ^ j / 2)) ∧ Ls wr q (nat Q) ∧ A < n * 2 ^ j ∧ m = Q * (n * 2 ^ j) + A ∧ Below w.heap.size w wr
/-- What Quotient leaves. -/
def QuoPost (m n : Nat) (w : World) (e : Ending) (w' : World) : Prop := ∃ q r, e = .returned (.tuple #[q, r]) ∧ Ls w' q (nat (m / n)) ∧ Ls w' r (nat (m % n)) ∧ Below w.heap.size w w'
theorem q_step {m n j A Q B : Nat} (hB : n * 2 ^ (j + 1) / 2 = B) (h1 : A < n * 2 ^ (j + 1)) (h2 : m = Q * (n * 2 ^ (j + 1)) + A) : n * 2 ^ j = B ∧ B / 2 = n * 2 ^ j / 2 ∧ (B ≤ A → A - B < n * 2 ^ j ∧ m = (2 * Q + 1) * (n * 2 ^ j) + (A - B)) ∧ (A < B → A < n * 2 ^ j ∧ m = (2 * Q + 0) * (n * 2 ^ j) + A) := by
  have e : n * 2 ^ (j + 1) = 2 * (n * 2 ^ j) := by rw [Nat.pow_succ]; rw [← Nat.mul_assoc, Nat.mul_comm]
  rw [e] at hB h1 h2
  have hb : n * 2 ^ j = B := by omega
  refine ⟨hb, by rw [hb], fun h => ⟨by omega, ?_⟩, fun h => ⟨by omega, ?_⟩⟩
  · rw [hb] at h2 ⊢
    have e2 : Q * (2 * B) = 2 * Q * B := by rw [Nat.mul_comm 2 Q, Nat.mul_assoc]
    rw [h2, e2, Nat.add_mul, Nat.one_mul]
    omega
  · rw [h2, Nat.add_zero, Nat.mul_comm 2 Q, Nat.mul_assoc]
theorem q_lens {m n S i rm rn : Nat} (hm : BitsOf m rm) (hn : BitsOf n rn) (h0 : 0 < n) (hS : rn + S = rm) (hi : i ≤ S) (hl : (nat m).length ≤ 80000) : (nat (n * 2 ^ i)).length ≤ 80001 ∧ m < n * 2 ^ (S + 1) := by
  have hm0 : 0 < m := by
    rcases Nat.eq_zero_or_pos m with h | h
    · have := hm.2.2 h
      have := (hn.2.1 h0).1
      omega
    · exact h
  obtain ⟨k1, k2⟩ := hm.2.1 hm0
  obtain ⟨k3, k4⟩ := hn.2.1 h0
  have e1 : 2 ^ rm = 2 * 2 ^ (rm - 1) := by
    obtain ⟨r, rfl⟩ : ∃ r, rm = r + 1 := ⟨rm - 1, by omega⟩
    rw [Nat.pow_succ, Nat.add_sub_cancel]; omega
  have h1 : n * 2 ^ i ≤ 2 * m + 1 := by
    have a1 : n * 2 ^ i ≤ n * 2 ^ S := Nat.mul_le_mul_left _ (Nat.pow_le_pow_right (by omega) hi)
    have a2 : n * 2 ^ S ≤ 2 ^ rn * 2 ^ S := Nat.mul_le_mul_right _ (Nat.le_of_lt hn.1)
    rw [← Nat.pow_add, hS] at a2
    omega
  refine ⟨len_le_of_le h1 (len_succ hl), ?_⟩
  have a3 : 2 ^ (rn - 1) * 2 ^ (S + 1) ≤ n * 2 ^ (S + 1) := Nat.mul_le_mul_right _ k4
  rw [← Nat.pow_add, show rn - 1 + (S + 1) = rm by omega] at a3
  exact Nat.lt_of_lt_of_le hm.1 a3
end Go.Proofs.YtfdkdloldjfnjaaGreatDoor
