/-
  DERIVED. Several texts in one.
-/
import Derived.Test.YtfdkdloldjfnjaaGreatDoorMN
import Derived.Test.YtfdkdloldjfnjaaGreatDoorYMAm
set_option linter.unusedVariables false
set_option linter.unusedSimpArgs false

/- DERIVED. divisor. -/
namespace Go.Proofs.YtfdkdloldjfnjaaGreatDoor
open Go.RowKit
set_option maxRecDepth 100000

theorem NatSl.uniq {w : World} {ok ok' : Nat → Prop} {v : Value} {l m : List Nat} (h : NatSl w ok v l) (k : NatSl w ok' v m) : l = m := by
  obtain ⟨A, c, rfl, -, -, h4⟩ := h
  obtain ⟨B, d, e, -, -, k4⟩ := k
  injection e with e1 e2 e3
  subst e1
  refine List.ext_getElem e2 fun i hi hj => ?_
  obtain ⟨b, o, hA, -, hc⟩ := h4 (by omega)
  obtain ⟨b', o', hB, -, kc⟩ := k4 (by omega)
  rw [hA] at hB
  injection hB with hB
  injection hB with hb1 hb2
  subst hb1 hb2
  have h1 := hc i l[i] (List.getElem?_eq_getElem hi)
  have h2 := kc i m[i] (List.getElem?_eq_getElem hj)
  rw [h1] at h2
  injection h2 with h2
  injection h2 with _ h2
  omega
def cellNat (w : World) (a : Addr) : Nat := match w.cell? a with
  | some (.int _ x) => x.toNat
  | _ => 0
/-- The number that a slice reads as. -/
def slVal (w : World) (v : Value) : Nat := match v with
  | .slice (some ⟨b, o, _⟩) n _ => val ((List.range n).map fun j => cellNat w ⟨b, o + j, none⟩)
  | _ => 0
theorem slVal_eq {w : World} {ok : Nat → Prop} {v : Value} {l : List Nat} (h : NatSl w ok v l) (hl : 0 < l.length) : slVal w v = val l := by
  obtain ⟨b, o, c, rfl, -, -, -, hc⟩ := h.at_ hl
  unfold slVal
  dsimp only
  congr 1
  refine List.ext_getElem (by simp) fun i hi hj => ?_
  have h1 := hc i hj
  simp only [List.getElem_map, List.getElem_range, cellNat, h1]
  rw [List.getD_eq_getElem?_getD, List.getElem?_eq_getElem hj]
  simp
/-- A number in a window of a block of the call's own. -/
def Win (w : World) (base : Nat) (v : Value) (g x : Nat) : Prop :=
  ∃ (o c : Nat) (L : List Nat), v = .slice (some ⟨g, o, none⟩) (nat x).length c ∧ Row w g L ∧ Lb L ∧ (L.drop o).take (nat x).length = nat x ∧ o + (nat x).length ≤ L.length ∧ L.length ≤ 100001 ∧ (nat x).length ≤ c ∧ c ≤ maxLen ∧ base ≤ g
theorem Win.sl {w : World} {base : Nat} {v : Value} {g x : Nat} (h : Win w base v g x) : NatSl w (· = g) v (nat x) := by
  obtain ⟨o, c, L, rfl, h2, h3, h4, h5, -, h6, h7, -⟩ := h
  have := h2.sl (o := o) (n := (nat x).length) (c := c) h5 h6 h7
  rwa [h4] at this
theorem Win.lt {w : World} {base : Nat} {v : Value} {g x : Nat} (h : Win w base v g x) : g < w.heap.size := by obtain ⟨o, c, L, -, h2, -⟩ := h; exact h2.lt
theorem Win.keep {w w' : World} {base n b : Nat} {v : Value} {g x : Nat} (h : Win w base v g x) (hk : Keep n b w w') (h1 : g < n) (h2 : g ≠ b) : Win w' base v g x := by
  obtain ⟨o, c, L, k1, k2, k3⟩ := h
  exact ⟨o, c, L, k1, k2.keep hk h1 h2, k3⟩
theorem Win.drewN {w : World} {base : Nat} {v : Value} {g x : Nat} (h : Win w base v g x) (n : Nat) : Win (w.drewN n) base v g x := h
theorem Win.len {w : World} {base : Nat} {v : Value} {g x : Nat} (h : Win w base v g x) : (nat x).length ≤ 100001 := by obtain ⟨o, c, L, -, -, -, -, h5, h6, -⟩ := h; omega
/-- lower, of a window. -/
theorem c_lowerR {w : World} {base g o c n : Nat} {L : List Nat} (h2 : Row w g L) (h3 : Lb L) (h5 : o + n ≤ L.length) (h6 : L.length ≤ 100001) (h7 : n ≤ c) (h8 : c ≤ maxLen) (h9 : base ≤ g) (z : Nat) (hz : z < 32 * n) :
    Calls Tryz.prog 96 #[.slice (some ⟨g, o, none⟩) n c, .int .i64 (z : Int)] w fun e w' => ∃ r, e = .returned r ∧ Win w' base r g (val ((L.drop o).take n) / 2 ^ z) ∧ Keep w.heap.size g w w' := by
  refine (c_lower g o n c L h3 h5 (by omega) h7 h8 z (by omega) w h2).mono ?_
  rintro e w' ⟨L', he, k2, k3, k4, k5, k6, k7⟩
  exact ⟨_, he, ⟨o + z / 32, c - z / 32, L', rfl, k2, k4, k5, by omega, by omega, by omega, by omega, h9⟩, k7⟩
/-- The number of bits 0 at the end, and what is above them. -/
def tzN (n : Nat) : Nat := Lib.ctzFrom n n
def oddp (n : Nat) : Nat := n / 2 ^ tzN n
theorem tz_spec {n : Nat} (h : 0 < n) : n = 2 ^ tzN n * oddp n ∧ oddp n % 2 = 1 := by
  obtain ⟨m, h1, -⟩ := Lib.ctzFrom_spec n n h Nat.lt_two_pow_self
  have h2 : oddp n = 2 * m + 1 := by
    unfold oddp tzN
    conv => lhs; arg 1; rw [h1]
    exact Nat.mul_div_cancel_left _ (Nat.pow_pos (by decide))
  rw [h2]
  exact ⟨h1, by omega⟩
theorem tz_uniq {n z m : Nat} (h : n = 2 ^ z * m) (hm : m % 2 = 1) : z = tzN n := by
  have hn : 0 < n := by
    have : 0 < 2 ^ z := Nat.pow_pos (by decide)
    rw [h]; exact Nat.mul_pos this (by omega)
  obtain ⟨h1, h2⟩ := tz_spec hn
  rw [h] at h1
  have key : ∀ i j m k : Nat, m % 2 = 1 → k % 2 = 1 → 2 ^ i * m = 2 ^ j * k → i ≤ j → i = j := by
    intro i j m k hm hk he hij
    obtain ⟨d, rfl⟩ : ∃ d, j = i + d := ⟨j - i, by omega⟩
    rw [Nat.pow_add, Nat.mul_assoc] at he
    have := Nat.eq_of_mul_eq_mul_left (Nat.pow_pos (by decide)) he
    rcases d with _ | d
    · rfl
    · rw [Nat.pow_succ, Nat.mul_assoc, Nat.mul_left_comm] at this
      omega
  rw [← h] at h1
  rcases Nat.le_total z (tzN n) with h3 | h3
  · exact key _ _ _ _ hm h2 (h ▸ h1) h3
  · exact (key _ _ _ _ h2 hm (h1 ▸ h) h3).symm
theorem gcd_tz {x y : Nat} (hx : 0 < x) (hy : 0 < y) : Nat.gcd x y = 2 ^ min (tzN x) (tzN y) * Nat.gcd (oddp x) (oddp y) := by
  obtain ⟨h1, h2⟩ := tz_spec hx
  obtain ⟨h3, h4⟩ := tz_spec hy
  conv => lhs; rw [h1, h3]
  exact gcd_twos h2 h4 _ _
theorem gcd_sub_odd {x y : Nat} (hx : x % 2 = 1) (h : x < y) : Nat.gcd x (oddp (y - x)) = Nat.gcd x y := gcd_odd hx (Nat.le_of_lt h) (tz_spec (by omega)).1
theorem oddp_le (n : Nat) : oddp n ≤ n := Nat.div_le_self _ _
theorem c_zerosN (a : List Nat) (ha : Lb a) (h0 : 0 < val a) (hal : a.length ≤ 1000000) (v : Value) (ok : Nat → Prop) (w : World) (ht : Tz w) (h : NatSl w ok v a) :
    Calls Tryz.prog 95 #[v] w fun e w' => e = .returned (.int .i64 ((tzN (val a) : Nat) : Int)) ∧ w = w' := by
  refine (c_zeros a ha (by omega) hal v ok w ht h).mono ?_
  rintro e w' ⟨z, m, rfl, h1, h2, -, rfl⟩
  rw [← tz_uniq h1 h2]
  exact ⟨rfl, rfl⟩
theorem tz_lt {a : List Nat} (ha : Lb a) (h0 : 0 < val a) : tzN (val a) < 32 * a.length := by
  have h1 := (tz_spec h0).1
  have h2 := val_lt ha
  have h3 : 0 < oddp (val a) := by have := (tz_spec h0).2; omega
  have h4 : 2 ^ tzN (val a) * 1 ≤ 2 ^ tzN (val a) * oddp (val a) := Nat.mul_le_mul_left _ h3
  rw [← h1, Nat.mul_one] at h4
  have h5 : 2 ^ tzN (val a) < 2 ^ (32 * a.length) := by
    rw [Nat.pow_mul]
    exact Nat.lt_of_le_of_lt h4 h2
  exact (Nat.pow_lt_pow_iff_right (by decide)).1 h5
/-- takeTimes, once, of windows: the difference. -/
theorem c_takeW {w : World} {base : Nat} {v u : Value} {g g' x y : Nat} (h : Win w base v g x) (k : Win w base u g' y) (hne : g' ≠ g) (hle : y ≤ x) :
    Calls Tryz.prog 97 #[v, u, .int .u32 ((1 : Nat) : Int)] w fun e w' => ∃ d : Nat, e = .returned (.int .u32 (d : Int)) ∧ Keep w.heap.size g w w' ∧ ∃ (o c : Nat) (L : List Nat), v = .slice (some ⟨g, o, none⟩) (nat x).length c ∧ Row w' g L ∧ Lb L ∧ o + (nat x).length ≤ L.length ∧ L.length ≤ 100001 ∧ val ((L.drop o).take (nat x).length) = x - y ∧ (nat x).length ≤ c ∧ c ≤ maxLen := by
  have hs := k.sl
  have hkl := k.lt
  obtain ⟨o, c, L, rfl, h2, h3, h4, h5, h6, h7, h8, h9⟩ := h
  have hlen : (nat y).length ≤ (nat x).length := nat_len_le.2 (Nat.lt_of_le_of_lt hle (nat_len_le.1 (Nat.le_refl _)))
  refine (c_takeTimes g o (nat x).length c 1 L (nat y) h3 (lb_nat y) (by decide) h5 (by omega) _ _ w h2 hs (fun j hj => by subst hj; exact ⟨hkl, hne⟩)).mono ?_
  rintro e w' ⟨t, d, rfl, ht, hlt, -, hv, hr, hk⟩
  rw [h4, List.take_of_length_le hlen, val_nat, val_nat, Nat.one_mul] at hv
  have hb := val_lt hlt
  rw [ht] at hb
  have hval : val t = x - y := by
    rcases Nat.eq_zero_or_pos d with h0 | h0
    · subst h0; rw [Nat.mul_zero] at hv; omega
    · have : BB ^ (nat x).length * 1 ≤ BB ^ (nat x).length * d := Nat.mul_le_mul_left _ h0
      rw [Nat.mul_one] at this
      generalize BB ^ (nat x).length = P at *
      omega
  have hl : (L.take o).length = o := by simp; omega
  have hmid : ((L.take o ++ t ++ L.drop (o + (nat x).length)).drop o).take (nat x).length = t := by
    rw [List.append_assoc, List.drop_append_of_le_length (by omega), List.drop_of_length_le (by omega), List.nil_append, List.take_append_of_le_length (by omega), List.take_of_length_le (by omega)]
  have hwl := window_len (L := L) h5 ht
  exact ⟨d, rfl, hk, o, c, _, rfl, hr, window_lb h3 hlt, by omega, by omega, by rw [hmid, hval], h7, h8⟩
end Go.Proofs.YtfdkdloldjfnjaaGreatDoor

/- DERIVED. divisor: the walk. -/
namespace Go.Proofs.YtfdkdloldjfnjaaGreatDoor
open Go.RowKit
set_option maxRecDepth 100000

def GcdRel (G : Nat) (w : World) (s0 s1 : Value) (wr : World) : Prop :=
  ∃ g0 g1 x y : Nat, Win wr w.heap.size s0 g0 x ∧ Win wr w.heap.size s1 g1 y ∧ g0 ≠ g1 ∧ x % 2 = 1 ∧ y % 2 = 1 ∧ Nat.gcd x y = G ∧ Below w.heap.size w wr
theorem Win.val {w : World} {base : Nat} {v : Value} {g x : Nat} (h : Win w base v g x) (hx : 0 < x) : slVal w v = x := by
  rw [slVal_eq h.sl (nat_len_pos.2 hx), val_nat]
theorem Win.shape {w : World} {base : Nat} {v : Value} {g x : Nat} (h : Win w base v g x) : ∃ A n c, v = .slice A n c := by obtain ⟨o, c, L, h, -⟩ := h; exact ⟨_, _, _, h⟩
theorem Win.base {w : World} {base : Nat} {v : Value} {g x : Nat} (h : Win w base v g x) : base ≤ g := by obtain ⟨o, c, L, -, -, -, -, -, -, -, -, h⟩ := h; exact h
/-- Between the swap and the next round: the lesser one is taken from the greater one, whose bits 0 at the end are struck. -/
theorem gcd_round {G x y : Nat} (hx : x % 2 = 1) (h : x < y) (hg : Nat.gcd x y = G) : oddp (y - x) % 2 = 1 ∧ Nat.gcd x (oddp (y - x)) = G ∧ oddp (y - x) < y := by
  refine ⟨(tz_spec (by omega)).2, by rw [gcd_sub_odd hx h, hg], ?_⟩
  have := oddp_le (y - x)
  omega
theorem c_lowerW {w : World} {base : Nat} {v : Value} {g x : Nat} (h : Win w base v g x) (hx : 0 < x) :
    Calls Tryz.prog 96 #[v, .int .i64 ((tzN x : Nat) : Int)] w fun e w' => ∃ r, e = .returned r ∧ Win w' base r g (oddp x) ∧ Keep w.heap.size g w w' := by
  obtain ⟨o, c, L, rfl, h2, h3, h4, h5, h6, h7, h8, h9⟩ := h
  have hz := tz_lt (lb_nat x) (by rw [val_nat]; exact hx)
  rw [val_nat] at hz
  refine (c_lowerR h2 h3 h5 h6 h7 h8 h9 (tzN x) hz).mono ?_
  rintro e w' ⟨r, he, k1, k2⟩
  rw [h4, val_nat] at k1
  exact ⟨r, he, k1, k2⟩
theorem c_zerosW {w : World} {base : Nat} {v : Value} {g x : Nat} (h : Win w base v g x) (hx : 0 < x) (ht : Tz w) :
    Calls Tryz.prog 95 #[v] w fun e w' => e = .returned (.int .i64 ((tzN x : Nat) : Int)) ∧ w = w' := by
  have := c_zerosN (nat x) (lb_nat x) (by rw [val_nat]; exact hx) (by have := h.len; omega) v _ w ht h.sl
  rwa [val_nat] at this
theorem c_compareW {w : World} {base : Nat} {v u : Value} {g g' x y : Nat} (h : Win w base v g x) (k : Win w base u g' y) : Calls Tryz.prog 78 #[v, u] w (CmpPost (cmpI x y) w) := by
  have := c_compare (nat x) (nat y) (can_nat x) (can_nat y) v u _ _ w h.sl k.sl
  rwa [val_nat, val_nat] at this
theorem c_raiseW {w : World} {base : Nat} {v : Value} {g x : Nat} (h : Win w base v g x) (up : Nat) (hup : up ≤ 4000000) : Calls Tryz.prog 98 #[v, .int .i64 (up : Int)] w (RaisePost (nat x) up w) := by
  have hl := h.lt
  exact c_raise (nat x) (lb_nat x) h.len up hup v _ w h.sl (fun i hi => by subst hi; exact hl)
theorem cmp_post' {f : FuncId} {args : Array Value} {z : Int} {w : World} (h : Calls Tryz.prog f args w (CmpPost z w)) : Calls Tryz.prog f args w fun e w' => e = .returned (.int .i64 z) ∧ ∃ n, w' = w.drewN n := h.mono fun _ _ h => h
theorem cmp_post {z : Int} {w w' : World} {e : Ending} (h : CmpPost z w e w') : e = .returned (.int .i64 z) ∧ ∃ n, w' = w.drewN n := h

theorem win_clone {b : List Nat} {y g c base : Nat} {w : World} (hb : Lb b) (hy : nat y = b) (hr : Row w g b) (h1 : b.length ≤ c) (h2 : c ≤ maxLen) (h3 : base ≤ g) (h4 : b.length ≤ 100001) : Win w base (.slice (some ⟨g, 0, none⟩) b.length c) g y :=
  ⟨0, c, b, by rw [hy], hr, hb, by rw [hy, List.drop_zero, List.take_of_length_le (Nat.le_refl _)], by rw [hy]; omega, h4, by rw [hy]; exact h1, h2, h3⟩

set_option maxHeartbeats 1000000 in
theorem c_divisor (a b : List Nat) (ha : Lb a) (hb : Can b) (hb0 : 0 < b.length) (hal : a.length ≤ 100000) (hbl : b.length ≤ 100000) (va vb : Value) (ok ok' : Nat → Prop) (w : World) (ht : Tz w) (h : NatSl w ok va a) (k : NatSl w ok' vb b) (hok : ∀ i, ok i → i < w.heap.size) (hok' : ∀ i, ok' i → i < w.heap.size) :
    Calls Tryz.prog 57 #[va, vb] w (NewNat (Nat.gcd (val a) (val b)) w) := by
  have hbv : 0 < val b := by
    have := nat_val hb
    rcases Nat.eq_zero_or_pos (val b) with h0 | h0
    · rw [h0, nat_zero] at this; rw [← this] at hb0; simp at hb0
    · exact h0
  have HB := Lib.hid k
  have OB := Lib.hid hok'
  have CB := Lib.hid hb
  have HT := Lib.hid ht
  have hgt := ht.lt
  have HD := Lib.hid (c_divide a b ha hb hb0 hal hbl va vb ok ok' w h k hok hok')
  obtain ⟨A, c, rfl⟩ := h.shape
  obtain ⟨B, d, rfl⟩ := k.shape
  have hgcd : Nat.gcd (val a) (val b) = Nat.gcd (val b) (val a % val b) := by rw [Nat.gcd_comm, Nat.gcd_rec, Nat.gcd_comm]
  rw [hgcd]
  have hrb : val a % val b < val b := Nat.mod_lt _ hbv
  have hDD : Calls Tryz.prog 73 #[.slice A a.length c, .slice B b.length d] w fun e w' => ∃ (q : Value) (g c : Nat), e = .returned (.tuple #[q, .slice (some ⟨g, 0, none⟩) (nat (val a % val b)).length c]) ∧ Win w' w.heap.size (.slice (some ⟨g, 0, none⟩) (nat (val a % val b)).length c) g (val a % val b) ∧ Below w.heap.size w w' :=
    HD.out.mono fun e w' ⟨q, g, c, L, h1, h2, h3, h4, h5, h6, h7, h8, h9, h10, h11⟩ => ⟨q, g, c, h1, ⟨0, c, L, rfl, h3, h4, by rw [List.drop_zero]; exact h5, by omega, h7, h8, h9, h10⟩, h11⟩
  generalize val a % val b = r at hDD hrb ⊢
  have HDD := Lib.hid hDD
  clear h k ha hb hok hok' ht hgcd HD hDD
  have hbn := nat_val CB.out
  generalize hvb : val b = y at *
  have HBN := Lib.hid (And.intro hbn hvb)
  clear hbn hvb
  have hcs : r = 0 ∨ 0 < r := by omega
  have hlr : r = 0 → ((nat r).length : Int) = 0 := fun h => by subst h; rw [nat_zero]; rfl
  have hlr2 : 0 < r → 0 < (nat r).length := fun h => nat_len_pos.2 h
  rcases hcs with h0 | h0
  · have hl0 := hlr h0
    clear hlr hlr2
    subst h0
    go_enter Tryz.func57, Tryz.ntmps57
    go_wp2_with (fail)
    refine HDD.out.mono ?_
    rintro e w1 ⟨q, g, cc, rfl, hw1, hb1⟩
    have HB1 := Lib.hid hb1
    have hz1 := hb1.size
    clear hw1 hb1
    go_wp2_with (go_at_call 94; refine (c_Clone b hb0 hbl _ ok' w1 (HB.out.below HB1.out (fun i hi => ⟨OB.out i hi, hi⟩))).mono ?_; rintro e w2 ⟨gb, cb, rfl, hrb2, hcb1, hcb2, hgb, hbb2⟩; have HBB2 := Lib.hid (HB1.out.trans (hbb2.mono hz1)); have HWB := Lib.hid (win_clone CB.out.1 HBN.out.1 hrb2 hcb1 hcb2 (by omega : w.heap.size ≤ gb) (by omega)); have hgb2 := hrb2.lt; clear hrb2 hcb1 hcb2 hbb2)
    go_ret
    refine ⟨_, rfl, ?_, HBB2.out⟩
    rw [Nat.gcd_zero_right]
    exact HWB.out.sl.mono (fun i hi => by subst hi; exact ⟨by omega, hgb2⟩)
  all_goals
    have hl2 := hlr2 h0
    clear hlr hlr2
    go_enter Tryz.func57, Tryz.ntmps57
    go_wp2_with (fail)
    refine HDD.out.mono ?_
    rintro e w1 ⟨q, g, cc, rfl, hw1, hb1⟩
    have HW1 := Lib.hid hw1
    have HB1 := Lib.hid hb1
    have hz1 := hb1.size
    have hg1 := hw1.lt
    have hg1b := hw1.base
    have hl1 := hw1.len
    clear hw1 hb1
    go_wp2_with (go_at_call 94; refine (c_Clone b hb0 hbl _ ok' w1 (HB.out.below HB1.out (fun i hi => ⟨OB.out i hi, hi⟩))).mono ?_; rintro e w2 ⟨gb, cb, rfl, hrb2, hcb1, hcb2, hgb, hbb2⟩; have HBB2 := Lib.hid (HB1.out.trans (hbb2.mono hz1)); have HW2 := Lib.hid (HW1.out.keep (Keep.of_below hbb2 gb) hg1 (by omega)); have HWB := Lib.hid (win_clone CB.out.1 HBN.out.1 hrb2 hcb1 hcb2 (by omega : w.heap.size ≤ gb) (by omega)); have hgb2 := hrb2.lt; have hz2 := hbb2.size; clear hrb2 hcb1 hcb2 hbb2)
    refine (c_zerosW HW2.out h0 (HT.out.on HBB2.out hgt)).mono ?_
    rintro e w2' ⟨rfl, rfl⟩
    go_wp2_with (fail)
    refine (c_zerosW HWB.out hbv (HT.out.on HBB2.out hgt)).mono ?_
    rintro e w2' ⟨rfl, rfl⟩
    go_wp2_with (fail)
    refine (c_zerosW HW2.out h0 (HT.out.on HBB2.out hgt)).mono ?_
    rintro e w2' ⟨rfl, rfl⟩
    go_wp2_with (fail)
    refine (c_lowerW HW2.out h0).mono ?_
    rintro e w3 ⟨s0, rfl, hw3, hk3⟩
    have HW3 := Lib.hid hw3
    have HWB3 := Lib.hid (HWB.out.keep hk3 hgb2 (by omega))
    have HBB3 := Lib.hid (HBB2.out.trans (hk3.low (by omega) hg1b))
    have hz3 := hk3.size
    clear hw3 hk3
    go_wp2_with (fail)
    refine (c_zerosW HWB3.out hbv (HT.out.on HBB3.out hgt)).mono ?_
    rintro e w3' ⟨rfl, rfl⟩
    go_wp2_with (fail)
    refine (c_lowerW HWB3.out hbv).mono ?_
    rintro e w4 ⟨s1, rfl, hw4, hk4⟩
    have HWB4 := Lib.hid hw4
    have HW4 := Lib.hid (HW3.out.keep hk4 HW3.out.lt (by omega))
    have HBB4 := Lib.hid (HBB3.out.trans (hk4.low (by omega) (by omega)))
    have hlen : tzN r < 32 * 100001 ∧ tzN y < 32 * 100001 := by
      have q1 := tz_lt (lb_nat r) (by rw [val_nat]; exact h0)
      have q2 := tz_lt (lb_nat y) (by rw [val_nat]; exact hbv)
      rw [val_nat] at q1 q2
      have := HWB.out.len
      omega
    have HLE := Lib.hid hlen
    clear hw4 hk4 hlen
    have hne : g ≠ gb := by omega
    have HNE := Lib.hid hne
    clear hne
    go_wp2_with (fail)
    go_loopw [0, 1] (fun s0 s1 wr => GcdRel (Nat.gcd (oddp r) (oddp y)) w s0 s1 wr) (fun s0 s1 wr => slVal wr s0 + slVal wr s1)
    case atStart => exact ⟨g, gb, _, _, HW4.out, HWB4.out, HNE.out, (tz_spec h0).2, (tz_spec hbv).2, rfl, HBB4.out⟩
    case round =>
      obtain ⟨g0, g1, x, z, hx, hy, hgn, hxo, hyo, hg, hbel⟩ := hrel
      have HX := Lib.hid hx
      have HY := Lib.hid hy
      have HG := Lib.hid hg
      have HBL := Lib.hid hbel
      have hszr := hbel.size
      have hxb := hx.base
      have hyb := hy.base
      clear hx hy hg hbel
      rcases Nat.lt_trichotomy x z with hlt | hlt | hlt
      · skip
        have HC := Lib.hid (fun n => cmp_post' (c_compareW (HX.out.drewN n) (HY.out.drewN n)))
        rw [cmpI_lt hlt] at HC
        go_wp2_with (fail)
        refine (HC.out 0).mono ?_
        rintro e w5 ⟨rfl, n5, rfl⟩
        go_wp2_with (fail)
        refine (HC.out _).mono ?_
        rintro e w6 ⟨rfl, n6, rfl⟩
        go_wp2_with (fail)
        refine (c_takeW (HY.out.drewN _) (HX.out.drewN _) hgn (Nat.le_of_lt hlt)).mono ?_
        rintro e w7 ⟨d7, rfl, hk7, o7, c7, L7, he7, hr7, hb7, hl7, hm7, hv7, hc7, hx7⟩
        subst he7
        have hsl7 := hr7.sl (o := o7) (n := (nat z).length) (c := c7) hl7 hc7 hx7
        have HK7 := Lib.hid hk7.undrew
        have HLO7 := Lib.hid (HX.out.keep hk7.undrew HX.out.lt hgn)
        have HB7 := Lib.hid (HBL.out.trans (hk7.undrew.low hszr hyb))
        have hTz := HT.out.on HB7.out hgt
        have hpos7 : 0 < val ((L7.drop o7).take (nat z).length) := by rw [hv7]; omega
        have HZ7 := Lib.hid (c_zerosN _ (lb_take (lb_drop hb7 _) _) hpos7 (by simp; omega) _ _ w7 hTz hsl7)
        have hz7 := tz_lt (lb_take (lb_drop hb7 o7) (nat z).length) hpos7
        have hlen7 : ((L7.drop o7).take (nat z).length).length = (nat z).length := by simp; omega
        rw [hlen7] at hz7
        have HW7 := Lib.hid (c_lowerR (base := w.heap.size) hr7 hb7 hl7 hm7 hc7 hx7 hyb _ hz7)
        rw [hv7] at HZ7 HW7
        rw [← oddp] at HW7
        have HR := Lib.hid (gcd_round (G := Nat.gcd (oddp r) (oddp y)) hxo hlt HG.out)
        clear hk7 hr7 hb7 hl7 hm7 hv7 hc7 hx7 hsl7 hpos7 hz7 hlen7 hTz
        go_wp2_with (fail)
        refine HZ7.out.mono ?_
        rintro e w7' ⟨rfl, rfl⟩
        go_wp2_with (fail)
        refine HW7.out.mono ?_
        rintro e w8 ⟨s8, rfl, hw8, hk8⟩
        have hwv := hw8.val (by have := HR.out.1; omega)
        have HW8 := Lib.hid hw8
        have HLO8 := Lib.hid (HLO7.out.keep hk8 HLO7.out.lt hgn)
        have HB8 := Lib.hid (HB7.out.trans (hk8.low HB7.out.size hyb))
        have HV8 := Lib.hid hwv
        have HVx := Lib.hid (HX.out.val (by omega))
        have HVy := Lib.hid (HY.out.val (by omega))
        have HVl := Lib.hid (HLO8.out.val (by omega))
        clear hw8 hk8 hwv
        go_wp2_with (fail)
        obtain ⟨u1, u2, u3⟩ := HR.out
        refine ⟨⟨g0, g1, x, _, HLO8.out, HW8.out, hgn, hxo, u1, u2, HB8.out⟩, ?_⟩
        rw [HV8.out, HVx.out, HVy.out, HVl.out]
        omega
      · subst hlt
        rw [Nat.gcd_self] at HG
        have HC := Lib.hid (fun n => cmp_post' (c_compareW (HX.out.drewN n) (HY.out.drewN n)))
        rw [cmpI_eq] at HC
        have hxp := HX.out.base
        have hxl := HX.out.lt
        have hll := HX.out.len
        go_wp2_with (fail)
        refine (HC.out 0).mono ?_
        rintro e w5 ⟨rfl, n5, rfl⟩
        go_wp2_with (fail)
        have hmin : min ((tzN r : Nat) : Int) ((tzN y : Nat) : Int) = ((min (tzN r) (tzN y) : Nat) : Int) := by omega
        rw [hmin]
        refine (c_raiseW (HX.out.drewN n5) (min (tzN r) (tzN y)) (by have := HLE.out; omega)).mono ?_
        rintro e w6 ⟨L6, rfl, hl6, hb6, hv6, hr6, hbb6⟩
        have hs6 := row_whole hr6 hl6 (by have := HLE.out; omega)
        have HS6 := Lib.hid hs6
        have HV6 := Lib.hid hv6
        have hlt6 := hr6.lt
        have HBB6 := Lib.hid (HBL.out.trans (show Below w.heap.size wr w6 from ⟨hbb6.os, hbb6.tape, hbb6.output, hbb6.size, fun j hj => hbb6.block j (Nat.lt_of_lt_of_le hj hszr)⟩))
        clear hl6 hv6 hr6 hbb6 hs6
        go_wp2_with (fail)
        refine (c_trim L6 hb6 _ _ w6 HS6.out).mono ?_
        rintro e w7 ⟨r7, rfl, ⟨hn7, -⟩, rfl⟩
        rw [HV6.out, val_nat, HG.out] at hn7
        have HN7 := Lib.hid hn7
        clear hn7
        go_wp2_with (fail)
        go_ret
        refine ⟨_, rfl, ?_, HBB6.out⟩
        have hgz := gcd_tz hbv h0
        rw [Nat.gcd_comm (oddp y)] at hgz
        rw [hgz]
        have h9 := HN7.out
        rw [Nat.mul_comm] at h9
        rw [Nat.min_comm (tzN y)]
        exact h9.mono (fun i hi => by subst hi; exact ⟨hszr, hlt6⟩)
      · skip
        have HC := Lib.hid (fun n => cmp_post' (c_compareW (HX.out.drewN n) (HY.out.drewN n)))
        rw [cmpI_gt hlt] at HC
        go_wp2_with (fail)
        refine (HC.out 0).mono ?_
        rintro e w5 ⟨rfl, n5, rfl⟩
        go_wp2_with (fail)
        refine (HC.out _).mono ?_
        rintro e w6 ⟨rfl, n6, rfl⟩
        go_wp2_with (fail)
        refine (c_takeW (HX.out.drewN _) (HY.out.drewN _) hgn.symm (Nat.le_of_lt hlt)).mono ?_
        rintro e w7 ⟨d7, rfl, hk7, o7, c7, L7, he7, hr7, hb7, hl7, hm7, hv7, hc7, hx7⟩
        subst he7
        have hsl7 := hr7.sl (o := o7) (n := (nat x).length) (c := c7) hl7 hc7 hx7
        have HK7 := Lib.hid hk7.undrew
        have HLO7 := Lib.hid (HY.out.keep hk7.undrew HY.out.lt hgn.symm)
        have HB7 := Lib.hid (HBL.out.trans (hk7.undrew.low hszr hxb))
        have hTz := HT.out.on HB7.out hgt
        have hpos7 : 0 < val ((L7.drop o7).take (nat x).length) := by rw [hv7]; omega
        have HZ7 := Lib.hid (c_zerosN _ (lb_take (lb_drop hb7 _) _) hpos7 (by simp; omega) _ _ w7 hTz hsl7)
        have hz7 := tz_lt (lb_take (lb_drop hb7 o7) (nat x).length) hpos7
        have hlen7 : ((L7.drop o7).take (nat x).length).length = (nat x).length := by simp; omega
        rw [hlen7] at hz7
        have HW7 := Lib.hid (c_lowerR (base := w.heap.size) hr7 hb7 hl7 hm7 hc7 hx7 hxb _ hz7)
        rw [hv7] at HZ7 HW7
        rw [← oddp] at HW7
        have HR := Lib.hid (gcd_round (G := Nat.gcd (oddp r) (oddp y)) hyo hlt (by rw [Nat.gcd_comm]; exact HG.out))
        clear hk7 hr7 hb7 hl7 hm7 hv7 hc7 hx7 hsl7 hpos7 hz7 hlen7 hTz
        go_wp2_with (fail)
        refine HZ7.out.mono ?_
        rintro e w7' ⟨rfl, rfl⟩
        go_wp2_with (fail)
        refine HW7.out.mono ?_
        rintro e w8 ⟨s8, rfl, hw8, hk8⟩
        have hwv := hw8.val (by have := HR.out.1; omega)
        have HW8 := Lib.hid hw8
        have HLO8 := Lib.hid (HLO7.out.keep hk8 HLO7.out.lt hgn.symm)
        have HB8 := Lib.hid (HB7.out.trans (hk8.low HB7.out.size hxb))
        have HV8 := Lib.hid hwv
        have HVx := Lib.hid (HY.out.val (by omega))
        have HVy := Lib.hid (HX.out.val (by omega))
        have HVl := Lib.hid (HLO8.out.val (by omega))
        clear hw8 hk8 hwv
        go_wp2_with (fail)
        obtain ⟨u1, u2, u3⟩ := HR.out
        refine ⟨⟨g1, g0, z, _, HLO8.out, HW8.out, hgn.symm, hyo, u1, u2, HB8.out⟩, ?_⟩
        rw [HV8.out, HVx.out, HVy.out, HVl.out]
        omega
end Go.Proofs.YtfdkdloldjfnjaaGreatDoor
