/-
  DERIVED. The reference's Product.
-/
import Derived.Test.YtfdkdloldjfnjaaGreatDoorYUAm
import Derived.Test.YtfdkdloldjfnjaaGreatDoorYUAm
import Derived.Test.YtfdkdloldjfnjaaGreatDoorYMEm
set_option linter.unusedVariables false
set_option linter.unusedSimpArgs false
namespace Go.Proofs.YtfdkdloldjfnjaaGreatDoor
open Go.RowKit
set_option maxRecDepth 100000

theorem val_zero_get {l : List Nat} (h : val l = 0) (k : Nat) : l.getD k 0 = 0 := by
  induction l generalizing k with
  | nil => rfl
  | cons x l ih =>
    unfold val at h
    have h1 : x = 0 := by omega
    have h2 : val l = 0 := by
      rcases Nat.eq_zero_or_pos (val l) with h3 | h3
      · exact h3
      · unfold BB at h; omega
    cases k with
    | zero => exact h1
    | succ k => exact ih h2 k
theorem high_zero {L : List Nat} {n k : Nat} (hn : n ≤ L.length) (h : val L < BB ^ n) (hk : n ≤ k) : L.getD k 0 = 0 := by
  have h1 := val_take_drop L n hn
  have h2 : val (L.drop n) = 0 := by
    rcases Nat.eq_zero_or_pos (val (L.drop n)) with h3 | h3
    · exact h3
    · have : BB ^ n * 1 ≤ BB ^ n * val (L.drop n) := Nat.mul_le_mul_left _ h3
      omega
  have h3 := val_zero_get h2 (k - n)
  rw [List.getD_eq_getElem?_getD, List.getElem?_drop, show n + (k - n) = k by omega] at h3
  rw [List.getD_eq_getElem?_getD]
  exact h3
theorem prod_word {cy x t y : Nat} (f1 : cy + (x + t * y) < 18446744073709551616) (f3 : t * y < 18446744073709551616) (hx : x < BB) (hy : y < BB) (ht : t < BB) :
    IntKind.u64.wrap (IntKind.u64.wrap ((cy : Int) + IntKind.u64.wrap (x : Int)) + IntKind.u64.wrap (IntKind.u64.wrap (t : Int) * IntKind.u64.wrap (y : Int))) = ((cy + (x + t * y) : Nat) : Int) := by
  unfold BB at hx hy ht
  rw [u64w (n := x) (by omega), u64w (n := y) (by omega), u64w (n := t) (by omega), ← Int.natCast_mul, u64w f3, ← Int.natCast_add, u64w (n := cy + x) (by omega), ← Int.natCast_add, Nat.add_assoc, u64w f1]
/-- The carry is stored behind the window, where a 0 was. -/
theorem prod_round {a b L u : List Nat} {k t cy : Nat} (ha : Lb a) (hb : Lb b) (hL : Lb L) (hl : L.length = a.length + b.length) (hk : k < a.length) (ht : a.getD k 0 = t) (hv : val L = val (a.take k) * val b) (hu : u.length = b.length) (hlu : Lb u) (hcy : cy < BB)
    (h : val u + BB ^ b.length * cy = val ((L.drop k).take b.length) + t * val (b.take b.length)) :
    val (L.take k ++ (u ++ [cy]) ++ L.drop (k + (b.length + 1))) = val (a.take (k + 1)) * val b := by
  refine mul_step (cy := 0) ha hb hL hl hk ht hv (by simp [hu]) (lb_append.2 ⟨hlu, lb_cons.2 ⟨hcy, lb_nil⟩⟩) ?_
  have hz : L.getD (k + b.length) 0 = 0 := by
    refine high_zero (n := k + b.length) (by omega) ?_ (Nat.le_refl _)
    rw [hv, Nat.pow_add]
    have h1 := val_lt (lb_take ha k)
    rw [List.length_take, Nat.min_eq_left (by omega)] at h1
    have h2 := val_lt hb
    exact Nat.mul_lt_mul'' h1 h2
  have e1 : (L.drop k).getD b.length 0 = 0 := by
    rw [List.getD_eq_getElem?_getD, List.getElem?_drop, ← List.getD_eq_getElem?_getD]
    exact hz
  rw [Nat.mul_zero, Nat.add_zero, val_append, hu, val_one, val_take_succ (L.drop k), e1, Nat.mul_zero, Nat.add_zero, h, val_take_succ b, getD_over (Nat.le_refl _), Nat.mul_zero, Nat.add_zero]
set_option maxHeartbeats 8000000 in
theorem c_eProduct (a b : List Nat) (hal : a.length ≤ 100000) (hbl : b.length ≤ 100000) (va vb : Value) (w : World) (ha : Ls w va a) (hb : Ls w vb b) :
    Calls Tryz.prog 69 #[va, vb] w (NewNat (val a * val b) w) := by
  obtain ⟨A, ca, rfl⟩ := ha.1.shape
  obtain ⟨B, cb, rfl⟩ := hb.1.shape
  have HA := Lib.hid ha
  have HB := Lib.hid hb
  clear ha hb
  go_enter Tryz.func69, Tryz.ntmps69
  go_wp2_with (at_make; refine wp_make _ rfl _ _ rfl _ _ (a.length + b.length) rfl rfl (by omega) (by omega) (by omega) ?_; intro w1 hr1 hb1; have HR1 := Lib.hid hr1; have HB1 := Lib.hid hb1; have hsz := hr1.lt; clear hr1 hb1)
  go_loopw [6] (fun i wr => MulRel a b w.heap.size w1 i wr) (fun i wr => a.length - (intOf i).toNat)
  case atStart => exact ⟨0, _, Nat.zero_le _, rfl, by simp, lb_zeros _, by rw [val_zeros]; simp [val], HR1.out, Keep.refl _ _ _⟩
  case round =>
    obtain ⟨i, L, hi, rfl, hl, hL, hv, hr, hkp⟩ := hrel
    have HK := Lib.hid hkp
    have HR := Lib.hid hr
    have HL := Lib.hid hL
    have HV := Lib.hid hv
    have HLL := Lib.hid hl
    clear hkp hr hL hv hl
    by_cases hlt : i < a.length
    · obtain ⟨t, ht⟩ : ∃ t, a.getD i 0 = t := ⟨_, rfl⟩
      have htb : t < BB := by rw [← ht]; exact lb_get HA.out.2 i
      have HT := Lib.hid ht
      have hzw : w.heap.size < wr.heap.size := HR.out.lt
      have BWR := Lib.hid (HB1.out.trans (HK.out.low (B := w.heap.size) (Nat.le_of_lt hsz) (Nat.le_refl _)))
      have hin : (i : Int) < (a.length : Nat) := by omega
      clear ht
      go_wp2_with (fail)
      go_loopw [7, 8] (fun c k w3 => AddRel w.heap.size i b.length t L b wr c k w3) (fun c k w3 => b.length - (intOf k).toNat)
      case atStart => exact ⟨0, [], 0, Nat.zero_le _, rfl, rfl, rfl, lb_nil, by decide, by simp [val], by simpa using HR.out, Keep.refl _ _ _⟩
      case round =>
        obtain ⟨k, u, cy, hk, rfl, rfl, hu, hlu, hcy, hv, hrow, hkp⟩ := hrel
        have HROW := Lib.hid hrow
        have HKP := Lib.hid hkp
        have HV2 := Lib.hid hv
        have HU := Lib.hid hu
        have HLU := Lib.hid hlu
        have BW3 := Lib.hid (BWR.out.trans (HKP.out.low (B := w.heap.size) (Nat.le_of_lt hzw) (Nat.le_refl _)))
        clear hrow hkp hv hu hlu
        by_cases hkl : k < b.length
        · obtain ⟨b1, o1, c1, e1, hb1, q1⟩ := HA.out.cellAt BW3.out hlt
          injection e1 with e1 _ e2
          subst e1 e2
          obtain ⟨b2, o2, c2, e3, hb2, q2⟩ := HB.out.cellAt BW3.out hkl
          injection e3 with e3 _ e4
          subst e3 e4
          rw [HT.out] at q1
          have hik : i + k < L.length := by have := HLL.out; omega
          have hm := mid_get (L := L) (u := u) (o := i) (k := k) (by omega) HU.out
          have q3 := HROW.out.cell (i := i + k) (by rw [hm.1]; exact hik)
          rw [hm.2] at q3
          have q4 := HROW.out.frozen (i + k)
          have hx := lb_get HL.out (i + k)
          have hy := lb_get HB.out.2 k
          have HM := Lib.hid hm
          clear hm
          generalize hgx : L.getD (i + k) 0 = x at *
          generalize hgy : b.getD k 0 = y at *
          have HX := Lib.hid hgx
          have HY := Lib.hid hgy
          have hki : ((i : Int) + (k : Int)).toNat = i + k := by omega
          have hii : ((i : Nat) : Int).toNat = i := by omega
          have hkk : ((k : Nat) : Int).toNat = k := by omega
          have hkn : (k : Int) < (b.length : Nat) := by omega
          have hn1 : (0 : Int) ≤ (i : Int) + (k : Int) := by omega
          have hn2 : (i : Int) + (k : Int) < ((a.length + b.length : Nat) : Int) := by omega
          have hn3 : (0 : Int) ≤ (i : Int) := by omega
          have hn4 : (0 : Int) ≤ (k : Int) := by omega
          obtain ⟨f1, f2, f3, f4⟩ := add_fits hx htb hy hcy
          have F := Lib.hid (And.intro f1 (And.intro f2 (And.intro f3 f4)))
          clear hgx hgy f1 f2 f3 f4
          go_wp2_with (fail)
          go_quiet (fail)
          go_wp2_with (fail)
          obtain ⟨f1, f2, f3, f4⟩ := F.out
          rw [prod_word f1 f3 hx hy htb]
          have hd1 : (((cy + (x + t * y) : Nat) : Int) / 4294967296) = (((cy + (x + t * y)) / BB : Nat) : Int) := by simp [BB]
          have hd2 : (((cy + (x + t * y) : Nat) : Int) % 4294967296) = (((cy + (x + t * y)) % BB : Nat) : Int) := by simp [BB]
          rw [hd1, hd2]
          have hrd := add_round (i := k) (r := x) (b := y) HV2.out
          refine ⟨⟨k + 1, u ++ [(cy + (x + t * y)) % BB], _, by omega, by go_num, rfl, by simp [HU.out], lb_append.2 ⟨HLU.out, lb_cons.2 ⟨Nat.mod_lt _ (by decide), lb_nil⟩⟩, f2, ?_, ?_, (HKP.out.drewN _).set _ _⟩, by simp [intOf]; omega⟩
          · rw [val_append, HU.out, val_take_succ, val_take_succ, HY.out]
            rw [show ((L.drop i).getD k 0) = x by rw [← HX.out, List.getD_eq_getElem?_getD, List.getElem?_drop, List.getD_eq_getElem?_getD]]
            simp only [val, Nat.mul_zero, Nat.add_zero]
            exact hrd
          · have := (HROW.out.drewN nq).set (i + k) ((cy + (x + t * y)) % BB)
            rwa [mid_set (by omega) HU.out] at this
        · obtain rfl : k = b.length := by omega
          have hkn : ¬ ((b.length : Nat) : Int) < (b.length : Nat) := by omega
          have hil : i + b.length < L.length := by have := HLL.out; omega
          have hm := mid_get (L := L) (u := u) (o := i) (k := b.length) (by omega) HU.out
          have q3 := HROW.out.cell (i := i + b.length) (by rw [hm.1]; exact hil)
          have q4 := HROW.out.frozen (i + b.length)
          have hki : ((i : Int) + (b.length : Int)).toNat = i + b.length := by omega
          have hn1 : (0 : Int) ≤ (i : Int) + (b.length : Int) := by omega
          have hn2 : (i : Int) + (b.length : Int) < ((a.length + b.length : Nat) : Int) := by omega
          have hcw : cy < 4294967296 := by unfold BB at hcy; exact hcy
          have HN := Lib.hid (prod_round HA.out.2 HB.out.2 HL.out HLL.out hlt HT.out HV.out HU.out HLU.out hcy HV2.out)
          have hrow2 := HROW.out.set (i + b.length) cy
          rw [mid_set hil HU.out] at hrow2
          have HROW2 := Lib.hid hrow2
          have HW := Lib.hid (window_lb (o := i) (n := b.length + 1) HL.out (lb_append.2 ⟨HLU.out, lb_cons.2 ⟨hcy, lb_nil⟩⟩))
          have HWL := Lib.hid (window_len (L := L) (u := u ++ [cy]) (o := i) (n := b.length + 1) (by omega) (by simp [HU.out]))
          clear hm hrow2
          go_wp2_with (fail)
          go_roundw
          case rel => exact ⟨i + 1, _, by omega, by go_num, HWL.out.trans HLL.out, HW.out, HN.out, HROW2.out, (HK.out.trans (HKP.out.mono HK.out.size)).set _ _⟩
          case measure => simp [intOf]; omega
    · have hin : ¬ (i : Int) < (a.length : Nat) := by omega
      obtain rfl : i = a.length := by omega
      have hvu : val L = val a * val b := by rw [HV.out, List.take_of_length_le (Nat.le_refl _)]
      have HTR := Lib.hid (c_eTrim _ HL.out _ _ wr (row_whole HR.out HLL.out (by omega)))
      have HVL := Lib.hid hvu
      have hlt2 := HR.out.lt
      have HN := Lib.hid (HB1.out.trans (HK.out.low (B := w.heap.size) (Nat.le_of_lt hsz) (Nat.le_refl _)))
      clear hvu
      go_wp2_with (fail)
      go_at_call 89
      refine HTR.out.mono ?_
      rintro e w3 ⟨r, rfl, hn, rfl⟩
      rw [HVL.out] at hn
      have HNN := Lib.hid hn
      clear hn
      go_wp2_with (fail)
      go_ret
      exact ⟨_, rfl, HNN.out.mono (fun j hj => by subst hj; exact ⟨Nat.le_refl _, hlt2⟩), HN.out⟩
end Go.Proofs.YtfdkdloldjfnjaaGreatDoor
