/-
  DERIVED. Several texts in one.
-/
import Derived.Test.YtfdkdloldjfnjaaGreatDoorYMEm
import Derived.Laws.Bits64b
import Derived.Lib.TrailingZeros
import Derived.Shelf.Spec.TrailingZeros
import Derived.Test.YtfdkdloldjfnjaaGreatDoorLy
import Derived.StillTailTactics
set_option linter.unusedVariables false
set_option linter.unusedSimpArgs false

/- DERIVED. natural, magnitude; the bits of a limb. -/
namespace Go.Proofs.YtfdkdloldjfnjaaGreatDoor
open Go.RowKit
set_option maxRecDepth 100000

/-- The table that TrailingZeros32 reads is as it is laid. -/
def Tz (w : World) : Prop := ∀ j, j < 32 → w.cell? ⟨1, j, none⟩ = some (.int .u8 ((Lib.deBruijn32tab.getD j 0 : Nat) : Int))
theorem Tz.lt {w : World} (h : Tz w) : 1 < w.heap.size := by
  have := h 0 (by omega)
  unfold World.cell? at this
  cases hb : w.heap[1]? with
  | none => simp [hb] at this
  | some ob => exact (Array.getElem?_eq_some_iff.1 hb).1
theorem Tz.heap {w w' : World} (h : Tz w) (e : w'.heap[1]? = w.heap[1]?) : Tz w' := fun j hj =>
  (World.cell?_of_block (a := ⟨1, j, none⟩) e).trans (h j hj)
theorem Tz.on {w w' : World} {B : Nat} (h : Tz w) (hb : Below B w w') (hB : 1 < B) : Tz w' := h.heap (hb.block _ hB)
theorem Tz.kept {w w' : World} {n b : Nat} (h : Tz w) (hk : Keep n b w w') (hn : 1 < n) (hb : 1 ≠ b) : Tz w' := h.heap (hk.block _ hn hb)

theorem tz_key (x a : Nat) (hx : x < 4294967296) (hlow : x &&& (4294967296 - x) = a) (hx0 : x ≠ 0) :
    bits BinOp.and IntKind.u32 (x : Int) (-(x : Int) % 4294967296) * 125613361 % 4294967296 / 134217728 = ((a * 125613361 % 4294967296 / 134217728 : Nat) : Int) := by
  have e1 : -(x : Int) % 4294967296 = ((4294967296 - x : Nat) : Int) := by omega
  rw [e1, bits_and_u32_nat x _ hx (by omega), hlow]
  omega
theorem tz32_core (x k idx : Nat) (w : World) (hne : ((x : Int) == 0) = false) (key : bits BinOp.and IntKind.u32 (x : Int) (-(x : Int) % 4294967296) * 125613361 % 4294967296 / 134217728 = (idx : Int)) (hi : idx < 32)
    (hcell : w.cell? ⟨1, idx, none⟩ = some (.int .u8 (k : Int))) (hk : k < 32) :
    Calls Tryz.prog 117 #[.int .u32 (x : Int)] w fun e w' => e = .returned (.int .i64 (k : Int)) ∧ w = w' := by
  go_enter Tryz.func117, Tryz.ntmps117
  go_wp2_with (simp only [key])
  go_ret
  exact ⟨rfl, rfl⟩
theorem c_tz32 (x : Nat) (hx : x < BB) (hx0 : x ≠ 0) (w : World) (hT : Tz w) :
    Calls Tryz.prog 117 #[.int .u32 (x : Int)] w fun e w' => e = .returned (.int .i64 ((Lib.ctz 32 x : Nat) : Int)) ∧ w = w' := by
  have hx2 : x < 2 ^ 32 := by unfold BB at hx; omega
  have hx3 : x < 4294967296 := by omega
  have h1 := Lib.lowest_bit 32 x hx0 hx2
  have h2 := Lib.deBruijn32_at _ h1.2
  have hcell := hT _ h2.1
  rw [h2.2] at hcell
  exact tz32_core x _ _ w (by rw [beq_eq_false_iff_ne]; omega) (tz_key x _ hx3 h1.1 hx0) h2.1 hcell h1.2
theorem ctz_odd {x : Nat} (hx0 : x ≠ 0) (hx : x < BB) : ∃ m, m % 2 = 1 ∧ x = 2 ^ Lib.ctz 32 x * m ∧ Lib.ctz 32 x < 32 := by
  have hx2 : x < 2 ^ 32 := by unfold BB at hx; omega
  obtain ⟨m, h1, h2⟩ := Lib.ctzFrom_spec 32 x (by omega) hx2
  have e : Lib.ctz 32 x = Lib.ctzFrom 32 x := by simp [Lib.ctz, hx0]
  rw [e]
  exact ⟨2 * m + 1, by omega, h1, h2⟩
theorem nat_two (n : Nat) (hn : n < 18446744073709551616) : nat (val [n % 4294967296, n / 4294967296]) = nat n := by
  congr 1
  simp only [val, BB]
  omega
set_option maxHeartbeats 2000000 in
theorem c_natural (n : Nat) (hn : n < 18446744073709551616) (w : World) : Calls Tryz.prog 75 #[.int .u64 (n : Int)] w (NewNat n w) := by
  have e1 : ((n : Int) % 4294967296) = ((n % 4294967296 : Nat) : Int) := by omega
  have e2 : ((n : Int) / 4294967296) = ((n / 4294967296 : Nat) : Int) := by omega
  have h1 : n % 4294967296 < BB := by unfold BB; omega
  have h2 : n / 4294967296 < BB := by unfold BB; omega
  have E := Lib.hid (And.intro e1 e2)
  have HN := Lib.hid (nat_two n hn)
  clear e1 e2
  generalize n % 4294967296 = x at *
  generalize n / 4294967296 = y at *
  go_enter Tryz.func75, Tryz.ntmps75
  go_wp2_with (fail)
  rw [E.out.1, E.out.2]
  have hr : Row (w.alloc (.cells #[.int .u32 (x : Int), .int .u32 (y : Int)] 51)) w.heap.size [x, y] := ⟨_, heap_alloc_new w _, rfl⟩
  have HS := Lib.hid (row_whole (n := 2) hr rfl (by omega))
  refine (c_trim [x, y] (lb_cons.2 ⟨h1, lb_cons.2 ⟨h2, lb_nil⟩⟩) _ _ _ HS.out).mono ?_
  rintro e w1 ⟨r, rfl, ⟨hn, -⟩, rfl⟩
  rw [HN.out] at hn
  have HB := Lib.hid ((Below.refl w.heap.size w).alloc (Nat.le_refl _) (.cells #[.int .u32 (x : Int), .int .u32 (y : Int)] 51))
  have hlt := hr.lt
  clear hr
  rw [← E.out.1, ← E.out.2] at *
  go_wp2_with (fail)
  go_ret
  exact ⟨_, rfl, hn.mono (fun i hi => by subst hi; exact ⟨Nat.le_refl _, hlt⟩), HB.out⟩
theorem bitLen_spec (x : Nat) (hx : x < 4294967296) : x < 2 ^ Lib.bitLen x ∧ Lib.bitLen x ≤ 32 ∧ (0 < x → 0 < Lib.bitLen x ∧ 2 ^ (Lib.bitLen x - 1) ≤ x) := by
  have key : ∀ (f x : Nat), x < 2 ^ f → x < 2 ^ Lib.bitLenAux f x ∧ (0 < x → 0 < Lib.bitLenAux f x ∧ 2 ^ (Lib.bitLenAux f x - 1) ≤ x) := by
    intro f
    induction f with
    | zero => intro x hx; simp at hx; subst hx; simp [Lib.bitLenAux]
    | succ f ih =>
      intro x hx
      rcases Nat.eq_zero_or_pos x with h0 | h0
      · subst h0; simp [Lib.bitLenAux]
      · obtain ⟨h1, h2⟩ := ih (x / 2) (by rw [Nat.pow_succ] at hx; omega)
        have e : Lib.bitLenAux (f + 1) x = 1 + Lib.bitLenAux f (x / 2) := by
          conv => lhs; unfold Lib.bitLenAux
          split <;> first | rfl | omega
        have hz : x = 1 → Lib.bitLenAux f (x / 2) = 0 := fun h => by subst h; cases f <;> rfl
        rw [e]
        generalize Lib.bitLenAux f (x / 2) = k at *
        refine ⟨by rw [Nat.add_comm, Nat.pow_succ]; omega, fun _ => ⟨by omega, ?_⟩⟩
        rcases Nat.eq_zero_or_pos (x / 2) with h3 | h3
        · have hx1 : x = 1 := by omega
          subst hx1
          rcases Nat.eq_zero_or_pos k with h4 | h4
          · subst h4; decide
          · have : k = 0 := hz rfl
            omega
        · obtain ⟨h4, h5⟩ := h2 h3
          obtain ⟨j, rfl⟩ : ∃ j, k = j + 1 := ⟨k - 1, by omega⟩
          simp only [Nat.add_sub_cancel] at h5
          rw [show 1 + (j + 1) - 1 = j + 1 by omega, Nat.pow_succ]
          omega
  obtain ⟨h1, h2⟩ := key 64 x (by omega)
  exact ⟨h1, Lib.bitLen_le x 32 (by omega) (by omega), h2⟩
theorem c_lz32 (x : Nat) (hx : x < BB) (h0 : 0 < x) (w : World) : Calls Tryz.prog 104 #[.int .u32 (x : Int)] w fun e w' => ∃ k : Nat, e = .returned (.int .i64 (k : Int)) ∧ k < 32 ∧ x * 2 ^ k < BB ∧ w = w' := by
  unfold BB at hx
  obtain ⟨h1, h2, h3⟩ := bitLen_spec x hx
  refine (Tryz.bits_LeadingZeros32 (x : Int) w (by omega) (by omega)).mono ?_
  rintro e w' ⟨rfl, rfl⟩
  have h4 := (h3 h0).1
  rw [Int.toNat_natCast]
  generalize Lib.bitLen x = k at *
  refine ⟨32 - k, by rw [Int.ofNat_sub h2]; rfl, by omega, ?_, rfl⟩
  have h5 : x * 2 ^ (32 - k) < 2 ^ k * 2 ^ (32 - k) := Nat.mul_lt_mul_of_pos_right h1 (Nat.pow_pos (by decide))
  rw [← Nat.pow_add, show k + (32 - k) = 32 by omega] at h5
  exact h5
end Go.Proofs.YtfdkdloldjfnjaaGreatDoor

/- DERIVED. zeros, raise. -/
namespace Go.Proofs.YtfdkdloldjfnjaaGreatDoor
open Go.RowKit
set_option maxRecDepth 100000

theorem zeros_val {a : List Nat} {k : Nat} (hz : ∀ i, i < k → a.getD i 0 = 0) (hk : k < a.length) : val a = 2 ^ (32 * k) * (a.getD k 0 + BB * val (a.drop (k + 1))) := by
  have h1 : ∀ j, j ≤ k → val (a.take j) = 0 := by
    intro j
    induction j with
    | zero => intro _; simp [val]
    | succ j ih => intro hj; rw [val_take_succ, ih (by omega), hz j (by omega), Nat.mul_zero]
  rw [val_take_drop a k (by omega), h1 k (Nat.le_refl _), List.drop_eq_getElem_cons hk, val, List.getD_eq_getElem?_getD, List.getElem?_eq_getElem hk]
  rw [show BB = 2 ^ 32 from rfl, Nat.pow_mul]
  simp
/-- How many bits 0 stand below the lowest bit 1. -/
def ZerosPost (a : List Nat) (w : World) (e : Ending) (w' : World) : Prop := ∃ z m : Nat, e = .returned (.int .i64 (z : Int)) ∧ val a = 2 ^ z * m ∧ m % 2 = 1 ∧ z < 32 * a.length ∧ w = w'
theorem odd_up {x m r c : Nat} (h : x = 2 ^ c * m) (hc : c < 32) (hm : m % 2 = 1) : ∃ m', m' % 2 = 1 ∧ x + BB * r = 2 ^ c * m' := by
  refine ⟨m + 2 ^ (32 - c) * r, ?_, ?_⟩
  · obtain ⟨d, hd⟩ : ∃ d, 32 - c = d + 1 := ⟨31 - c, by omega⟩
    rw [hd, Nat.pow_succ, Nat.mul_assoc, Nat.mul_left_comm]
    omega
  · rw [h, Nat.mul_add, ← Nat.mul_assoc, ← Nat.pow_add, show c + (32 - c) = 32 by omega]

set_option maxHeartbeats 2000000 in
theorem c_zeros (a : List Nat) (ha : Lb a) (h0 : val a ≠ 0) (hal : a.length ≤ 1000000) (v : Value) (ok : Nat → Prop) (w : World) (ht : Tz w) (h : NatSl w ok v a) :
    Calls Tryz.prog 95 #[v] w (ZerosPost a w) := by
  have HA := Lib.hid h
  have LA := Lib.hid ha
  have H0 := Lib.hid h0
  have HT := Lib.hid ht
  obtain ⟨A, c, rfl, hc1, hc2, -⟩ := id h
  unfold maxLen at hc2
  clear h ha h0 ht
  go_enter Tryz.func95, Tryz.ntmps95
  go_wp2_with (fail)
  go_loop [3] (fun n => ∃ k : Nat, k < a.length ∧ n = .int .i64 k ∧ Hid (∀ i, i < k → a.getD i 0 = 0)) (fun n => a.length - (intOf n).toNat)
  case atStart => exact ⟨0, by
    rcases Nat.eq_zero_or_pos a.length with h | h
    · exact absurd (by rw [List.eq_nil_of_length_eq_zero h]; rfl) H0.out
    · exact h, rfl, Lib.hid (fun i hi => absurd hi (by omega))⟩
  case round =>
    obtain ⟨k, hk, rfl, hz⟩ := hrel
    obtain ⟨b, o, c', e, -, -, -, hc⟩ := HA.out.at_ hk
    injection e with e1 _ e2
    subst e1 e2
    have hcell := hc k hk
    have hki : ((k : Nat) : Int).toNat = k := by omega
    have hx := lb_get LA.out k
    generalize hgx : a.getD k 0 = x at hcell hx
    have HX := Lib.hid hgx
    clear hc hgx
    by_cases hx0 : x = 0
    · subst hx0
      have hk2 : k + 1 < a.length := by
        rcases Nat.lt_or_ge (k + 1) a.length with h | h
        · exact h
        · exfalso
          have := zeros_val hz.out hk
          rw [HX.out, List.drop_of_length_le h] at this
          exact H0.out (by rw [this]; simp [val])
      go_wp2_with (fail)
      go_round
      case rel => exact ⟨k + 1, hk2, by go_num, Lib.hid (fun i hi => by
        rcases Nat.lt_or_ge i k with h | h
        · exact hz.out i h
        · rw [show i = k by omega]; exact HX.out)⟩
      case measure => simp [intOf]; omega
    · have hne : ((x : Int) == 0) = false := by rw [beq_eq_false_iff_ne]; omega
      have HC := Lib.hid (c_tz32 x hx hx0 w HT.out)
      obtain ⟨m, hm1, hm2, hm3⟩ := ctz_odd hx0 hx
      obtain ⟨m', g1, g2⟩ := odd_up (r := val (a.drop (k + 1))) hm2 hm3 hm1
      have HG := Lib.hid (And.intro g1 g2)
      generalize Lib.ctz 32 x = cz at *
      clear hm1 hm2 g1 g2
      go_wp2_with (go_at_call 117; refine HC.out.mono ?_; rintro e w' ⟨rfl, rfl⟩)
      go_ret
      refine ⟨32 * k + cz, m', ret_nat (by omega), ?_, HG.out.1, by omega, rfl⟩
      rw [zeros_val hz.out hk, HX.out, HG.out.2, ← Nat.mul_assoc, ← Nat.pow_add]

theorem val_set {L : List Nat} {i : Nat} (y : Nat) (hi : i < L.length) : val (L.set i y) + BB ^ i * L.getD i 0 = val L + BB ^ i * y := by
  have h := window_val (L := L) (u := [y]) (o := i) (n := 1) (by omega) rfl
  have e : L.take i ++ [y] ++ L.drop (i + 1) = L.set i y := by
    rw [List.set_eq_take_append_cons_drop, if_pos hi]; simp
  have e2 : (L.drop i).take 1 = [L.getD i 0] := by
    rw [List.drop_eq_getElem_cons hi, List.take_succ_cons, List.take_zero, List.getD_eq_getElem?_getD, List.getElem?_eq_getElem hi]; rfl
  rw [e, e2, val_one, val_one] at h
  exact h
/-- The limbs moved up, in a new block. -/
def RaisePost (a : List Nat) (up : Nat) (w : World) (e : Ending) (w' : World) : Prop :=
  ∃ L : List Nat, e = .returned (.slice (some ⟨w.heap.size, 0, none⟩) (up / 32 + a.length + 1) (up / 32 + a.length + 1)) ∧ L.length = up / 32 + a.length + 1 ∧ Lb L ∧ val L = val a * 2 ^ up ∧ Row w' w.heap.size L ∧ Below w.heap.size w w'
def RaiseRel (a : List Nat) (q r g : Nat) (w : World) (i : Value) (wr : World) : Prop :=
  ∃ (k : Nat) (L : List Nat), k ≤ a.length ∧ i = .int .i64 k ∧ L.length = q + a.length + 1 ∧ Lb L ∧ val L = BB ^ q * (2 ^ r * val (a.take k)) ∧ (∀ j, q + k < j → L.getD j 0 = 0) ∧ L.getD (q + k) 0 < 2 ^ r ∧ Row wr g L ∧ Keep w.heap.size g w wr

theorem or_word (a b : Nat) (ha : a < BB) (hb : b < BB) : bits .or .u32 (a : Int) (b : Int) = ((a ||| b : Nat) : Int) := by
  unfold BB at ha hb
  have hx : a ||| b < 2 ^ 32 := Nat.or_lt_two_pow (by omega) (by omega)
  have h1 : (BitVec.ofInt 32 (a : Int)).toNat = a := by rw [BitVec.ofInt_natCast, BitVec.toNat_ofNat]; exact Nat.mod_eq_of_lt (by omega)
  have h2 : (BitVec.ofInt 32 (b : Int)).toNat = b := by rw [BitVec.ofInt_natCast, BitVec.toNat_ofNat]; exact Nat.mod_eq_of_lt (by omega)
  show IntKind.u32.wrap ((BitVec.ofInt 32 (a : Int) ||| BitVec.ofInt 32 (b : Int)).toNat : Int) = _
  rw [BitVec.toNat_or, h1, h2, IntKind.wrap_u32]
  omega
theorem or_word64 (a b : Nat) (ha : a < 18446744073709551616) (hb : b < 18446744073709551616) : bits .or .u64 (a : Int) (b : Int) = ((a ||| b : Nat) : Int) := by
  have hx : a ||| b < 2 ^ 64 := Nat.or_lt_two_pow (by omega) (by omega)
  have h1 : (BitVec.ofInt 64 (a : Int)).toNat = a := by rw [BitVec.ofInt_natCast, BitVec.toNat_ofNat]; exact Nat.mod_eq_of_lt (by omega)
  have h2 : (BitVec.ofInt 64 (b : Int)).toNat = b := by rw [BitVec.ofInt_natCast, BitVec.toNat_ofNat]; exact Nat.mod_eq_of_lt (by omega)
  show IntKind.u64.wrap ((BitVec.ofInt 64 (a : Int) ||| BitVec.ofInt 64 (b : Int)).toNat : Int) = _
  rw [BitVec.toNat_or, h1, h2]
  exact u64w (by omega)
/-- The words that a round of raise lays. -/
theorem raise_words {x y r : Nat} (hx : x < BB) (hr : r < 32) (hy : y < 2 ^ r) :
    bits BinOp.or IntKind.u32 (y : Int) (IntKind.u64.wrap (IntKind.u64.wrap (x : Int) * 2 ^ r) % 4294967296) = ((y + x * 2 ^ r % BB : Nat) : Int) ∧ IntKind.u64.wrap (IntKind.u64.wrap (x : Int) * 2 ^ r) / 4294967296 % 4294967296 = ((x * 2 ^ r / BB : Nat) : Int) ∧ y + x * 2 ^ r % BB < BB ∧ x * 2 ^ r / BB < 2 ^ r ∧ x * 2 ^ r / BB < BB := by
  obtain ⟨f1, f2, f3, f4⟩ := up_parts hx hr
  have hp := pow_two_lt hr
  have e0 : IntKind.u64.wrap (x : Int) = (x : Int) := u64w (by unfold BB at hx; omega)
  have e1 : IntKind.u64.wrap ((x : Int) * 2 ^ r) = ((x * 2 ^ r : Nat) : Int) := by
    rw [show (x : Int) * 2 ^ r = ((x * 2 ^ r : Nat) : Int) by simp]
    exact u64w f1
  have hm : x * 2 ^ r % BB < BB := Nat.mod_lt _ (by decide)
  have f5 := f4 y hy
  rw [e0, e1]
  generalize x * 2 ^ r = z at *
  have e2 : ((z : Nat) : Int) % 4294967296 = ((z % BB : Nat) : Int) := by simp [BB]
  have e3 : ((z : Nat) : Int) / 4294967296 = ((z / BB : Nat) : Int) := by simp [BB]
  rw [e2, e3, or_word _ _ (by omega) hm, or_add hy f3]
  refine ⟨rfl, ?_, f5, f2, by omega⟩
  generalize z / BB = d at *
  unfold BB at *
  omega
theorem raise_step {a L : List Nat} {q r k x y : Nat} {g : Nat} {w wr : World} (hr32 : r < 32) (hx : x < BB) (hk : k < a.length) (hX : a.getD k 0 = x) (hl : L.length = q + a.length + 1) (hL : Lb L) (hv : val L = BB ^ q * (2 ^ r * val (a.take k))) (hz : ∀ j, q + k < j → L.getD j 0 = 0) (hv2 : L.getD (q + k) 0 < 2 ^ r) (hY : L.getD (q + k) 0 = y) (hr : Row wr g L) (hkp : Keep w.heap.size g w wr) :
    RaiseRel a q r g w (.int .i64 ((k : Int) + 1)) ((wr.setCell ⟨g, q + k, none⟩ (.int .u32 ((y + x * 2 ^ r % BB : Nat) : Int))).setCell ⟨g, q + k + 1, none⟩ (.int .u32 ((x * 2 ^ r / BB : Nat) : Int))) := by
  obtain ⟨-, -, f1, f2, f3⟩ := raise_words hx hr32 (hY ▸ hv2)
  have h1 := val_set (L := L) (i := q + k) (y + x * 2 ^ r % BB) (by omega)
  have h2 := val_set (L := L.set (q + k) (y + x * 2 ^ r % BB)) (i := q + k + 1) (x * 2 ^ r / BB) (by simp; omega)
  have hg : (L.set (q + k) (y + x * 2 ^ r % BB)).getD (q + k + 1) 0 = 0 := by
    rw [List.getD_eq_getElem?_getD, List.getElem?_set_ne (by omega), ← List.getD_eq_getElem?_getD, hz _ (by omega)]
  rw [hg] at h2
  rw [hY] at h1
  have e := Nat.mod_add_div (x * 2 ^ r) BB
  have hlb : Lb ((L.set (q + k) (y + x * 2 ^ r % BB)).set (q + k + 1) (x * 2 ^ r / BB)) := by
    intro z hz'
    rcases List.mem_or_eq_of_mem_set hz' with h | rfl
    · rcases List.mem_or_eq_of_mem_set h with h | rfl
      · exact hL z h
      · exact f1
    · exact f3
  refine ⟨k + 1, _, by omega, by go_num, by simp [hl], hlb, ?_, fun j hj => ?_, ?_, (hr.set _ _).set _ _, (hkp.set _ _).set _ _⟩
  · rw [val_take_succ, hX]
    generalize val ((L.set (q + k) (y + x * 2 ^ r % BB)).set (q + k + 1) (x * 2 ^ r / BB)) = V2 at *
    generalize val (L.set (q + k) (y + x * 2 ^ r % BB)) = V1 at *
    generalize x * 2 ^ r % BB = m at *
    generalize x * 2 ^ r / BB = d at *
    rw [Nat.pow_succ] at h2
    have hp : BB ^ (q + k) = BB ^ q * BB ^ k := Nat.pow_add ..
    rw [hp] at h1 h2
    rw [hv] at h1
    generalize val (a.take k) = A at *
    generalize 2 ^ r = R at *
    generalize BB ^ q = Q at *
    generalize BB ^ k = K at *
    clear hp f1 f2 f3 hlb hg hv hv2 hz hx hr hkp
    grind
  · rw [List.getD_eq_getElem?_getD, List.getElem?_set_ne (by omega), List.getElem?_set_ne (by omega), ← List.getD_eq_getElem?_getD, hz _ (by omega)]
  · rw [show q + (k + 1) = q + k + 1 by omega, List.getD_eq_getElem?_getD, List.getElem?_set_self (by simp; omega)]
    exact f2

set_option maxHeartbeats 4000000 in
theorem c_raise (a : List Nat) (ha : Lb a) (hal : a.length ≤ 100001) (up : Nat) (hup : up ≤ 4000000) (v : Value) (ok : Nat → Prop) (w : World) (h : NatSl w ok v a) (hok : ∀ i, ok i → i < w.heap.size) :
    Calls Tryz.prog 98 #[v, .int .i64 (up : Int)] w (RaisePost a up w) := by
  have HA := Lib.hid h
  have LA := Lib.hid ha
  have OA := Lib.hid hok
  obtain ⟨A, c, rfl⟩ := h.shape
  clear h ha hok
  obtain ⟨q, hq⟩ : ∃ q, q = up / 32 := ⟨_, rfl⟩
  obtain ⟨r, hr⟩ : ∃ r, r = up % 32 := ⟨_, rfl⟩
  have hr32 : r < 32 := by omega
  have hq3 : q ≤ 200000 := by omega
  have e1 : (up : Int) / 32 = (q : Int) := by omega
  have e2 : (up : Int) % 32 = (r : Int) := by omega
  have HQ := Lib.hid (And.intro hq hr)
  have HE := Lib.hid (And.intro e1 e2)
  clear hq hr e1 e2
  go_enter Tryz.func98, Tryz.ntmps98
  go_wp2_with (at_make; refine wp_make _ rfl _ _ rfl _ _ (q + a.length + 1) rfl rfl (by have := HE.out.1; omega) (by have := HE.out.1; omega) (by omega) ?_; intro w1 hr1 hb1; have HR1 := Lib.hid hr1; have HB1 := Lib.hid hb1; have hsz := hr1.lt; clear hr1 hb1)
  rw [HE.out.1, HE.out.2]
  go_loopw [23] (fun i wr => RaiseRel a q r w.heap.size w1 i wr) (fun i wr => a.length - (intOf i).toNat)
  case atStart => exact ⟨0, _, Nat.zero_le _, rfl, by simp, lb_zeros _, by rw [val_zeros]; simp [val], fun j _ => by rw [List.getD_eq_getElem?_getD, List.getElem?_replicate]; split <;> rfl, by rw [List.getD_eq_getElem?_getD, List.getElem?_replicate]; split <;> exact Nat.pow_pos (by decide), HR1.out, Keep.refl _ _ _⟩
  case round =>
    obtain ⟨k, L, hk, rfl, hl, hL, hv, hz, hv2, hr, hkp⟩ := hrel
    have HK := Lib.hid hkp
    have HR := Lib.hid hr
    by_cases hlt : k < a.length
    · have hA := (HA.out.below (ok' := ok) HB1.out (fun i hi => ⟨OA.out i hi, hi⟩)).keep (ok' := ok) hkp (fun i hi => ⟨⟨by have := OA.out i hi; omega, by have := OA.out i hi; omega⟩, hi⟩)
      obtain ⟨b1, o1, c1, e1, -, -, -, g1⟩ := hA.at_ hlt
      injection e1 with e1 _ e1'
      subst e1 e1'
      have q1 := g1 k hlt
      have hx := lb_get LA.out k
      generalize hgx : a.getD k 0 = x at q1 hx
      have HX := Lib.hid hgx
      have HLL := Lib.hid hl
      have HL := Lib.hid hL
      have HV := Lib.hid hv
      have HV2 := Lib.hid hv2
      have HW := Lib.hid (raise_words (y := L.getD (q + k) 0) hx hr32 hv2)
      have HST := Lib.hid (raise_step hr32 hx hlt HX.out hl hL hv hz hv2 rfl hr hkp)
      have q2 := hr.cell (i := q + k) (by omega)
      have q3 := hr.cell (i := q + k + 1) (by omega)
      rw [hz (q + k + 1) (by omega)] at q3
      have f2 := hr.frozen (q + k)
      have f3 := hr.frozen (q + k + 1)
      clear g1 hA hgx hl hL hv hv2 hz hkp
      generalize L.getD (q + k) 0 = y at *
      have hki : ((k : Nat) : Int).toNat = k := by omega
      have hkj : ((q : Int) + (k : Int)).toNat = q + k := by omega
      have hkm : ((q : Int) + (k : Int) + 1).toNat = q + k + 1 := by omega
      go_wp2_with (fail)
      rw [HW.out.1, HW.out.2.1]
      exact ⟨HST.out, by simp [intOf]; omega⟩
    · obtain rfl : k = a.length := by omega
      rw [List.take_of_length_le (Nat.le_refl _)] at hv
      have HV := Lib.hid hv
      have HLL := Lib.hid hl
      have HL := Lib.hid hL
      have hsz2 := hkp.size
      clear hl hL hv hz hv2 hr hkp
      go_wp2_with (fail)
      go_ret
      obtain ⟨g1, g2⟩ := HQ.out
      refine ⟨L, by rw [← g1]; rfl, by rw [← g1]; exact HLL.out, HL.out, ?_, HR.out, HB1.out.trans (HK.out.low (by omega) (Nat.le_refl _))⟩
      rw [HV.out, pow_split up, ← g1, ← g2, ← Nat.mul_assoc, Nat.mul_comm]
end Go.Proofs.YtfdkdloldjfnjaaGreatDoor

/- DERIVED. lower. -/
namespace Go.Proofs.YtfdkdloldjfnjaaGreatDoor
open Go.RowKit
set_option maxRecDepth 100000

/-- The window's limbs moved down: the slice behind them begins with the number's. -/
def LowerPost (g o n c down : Nat) (L : List Nat) (w : World) (e : Ending) (w' : World) : Prop :=
  ∃ L' : List Nat, e = .returned (.slice (some ⟨g, o + down / 32, none⟩) (nat (val ((L.drop o).take n) / 2 ^ down)).length (c - down / 32)) ∧ Row w' g L' ∧ L'.length = L.length ∧ Lb L' ∧ (L'.drop (o + down / 32)).take (nat (val ((L.drop o).take n) / 2 ^ down)).length = nat (val ((L.drop o).take n) / 2 ^ down) ∧
    (nat (val ((L.drop o).take n) / 2 ^ down)).length ≤ n - down / 32 ∧ Keep w.heap.size g w w'
def LowerRel (g p m r : Nat) (L : List Nat) (w : World) (i : Value) (wr : World) : Prop :=
  ∃ (k : Nat) (u : List Nat), k ≤ m ∧ i = .int .i64 k ∧ u.length = k ∧ Lb u ∧ val u * 2 ^ r + (L.getD p 0 % 2 ^ r) = val ((L.drop p).take k) + BB ^ k * (((L.drop p).take m).getD k 0 % 2 ^ r) ∧ Row wr g (L.take p ++ u ++ L.drop (p + k)) ∧ Keep w.heap.size g w wr

theorem lower_words {x y r : Nat} (hx : x < BB) (hr : r < 32) :
    bits BinOp.or IntKind.u32 ((x : Int) / 2 ^ r) ((y : Int) * 2 ^ (32 - r) % 4294967296) = ((x / 2 ^ r + (y % 2 ^ r) * 2 ^ (32 - r) : Nat) : Int) ∧ x / 2 ^ r + (y % 2 ^ r) * 2 ^ (32 - r) < BB := by
  obtain ⟨f1, f2, f3⟩ := down_parts (y := y) hx hr
  have e1 : ((x : Int) / 2 ^ r) = ((x / 2 ^ r : Nat) : Int) := by simp
  have e2 : ((y : Int) * 2 ^ (32 - r) % 4294967296) = ((y * 2 ^ (32 - r) % BB : Nat) : Int) := by simp [BB]
  rw [e1, e2, f2]
  have h1 : x / 2 ^ r < BB := Nat.lt_of_le_of_lt (Nat.div_le_self _ _) hx
  have h2 : (y % 2 ^ r) * 2 ^ (32 - r) < BB := Nat.lt_of_le_of_lt (Nat.le_add_left _ _) f3
  rw [or_word _ _ h1 h2, or_add f1 (Nat.mul_mod_left _ _)]
  exact ⟨rfl, f3⟩
theorem lower_step {g p m r k x y : Nat} {L u : List Nat} {w wr : World} (hx : x < BB) (hr : r < 32) (hk : k < m) (hpm : p + m ≤ L.length) (hX : ((L.drop p).take m).getD k 0 = x) (hY : ((L.drop p).take m).getD (k + 1) 0 = y) (hu : u.length = k) (hlu : Lb u)
    (hv : val u * 2 ^ r + (L.getD p 0 % 2 ^ r) = val ((L.drop p).take k) + BB ^ k * (((L.drop p).take m).getD k 0 % 2 ^ r)) (hrow : Row wr g (L.take p ++ u ++ L.drop (p + k))) (hkp : Keep w.heap.size g w wr) :
    LowerRel g p m r L w (.int .i64 ((k : Int) + 1)) (wr.setCell ⟨g, p + k, none⟩ (.int .u32 ((x / 2 ^ r + (y % 2 ^ r) * 2 ^ (32 - r) : Nat) : Int))) := by
  have hb := (lower_words (y := y) hx hr).2
  rw [hX] at hv
  have hrd := lower_round (i := k) (x := x) (y := y) (d := r) (by omega) hv
  generalize hmm : x / 2 ^ r + (y % 2 ^ r) * 2 ^ (32 - r) = z at hrd hb ⊢
  refine ⟨k + 1, u ++ [z], by omega, by go_num, by simp [hu], lb_append.2 ⟨hlu, lb_cons.2 ⟨hb, lb_nil⟩⟩, ?_, ?_, hkp.set _ _⟩
  · rw [val_append, hu, val_one, val_take_succ, hY]
    have e : ((L.drop p).getD k 0) = x := by
      rw [← hX, List.getD_eq_getElem?_getD, List.getD_eq_getElem?_getD, List.getElem?_take_of_lt hk]
    rw [e]
    exact hrd
  · have := hrow.set (p + k) z
    rwa [mid_set (by omega) hu] at this
theorem take_sub {X u : List Nat} {k N : Nat} (h : X.take k = u) (hN : N ≤ k) : X.take N = u.take N := by rw [← h, List.take_take, Nat.min_eq_left hN]
theorem lower_fin {o q n m p r down : Nat} {L u : List Nat} (hL : Lb L) (hq : down / 32 = q) (hr : down % 32 = r) (hm : n - q = m) (hqn : q < n) (hp : o + q = p) (ho : o + n ≤ L.length) (hu : u.length = m)
    (hv : val u * 2 ^ r + (L.getD p 0 % 2 ^ r) = val ((L.drop p).take m) + BB ^ m * (((L.drop p).take m).getD m 0 % 2 ^ r)) : val u = val ((L.drop o).take n) / 2 ^ down := by
  have h0 : ((L.drop p).take m).getD m 0 = 0 := by rw [List.getD_eq_getElem?_getD, List.getElem?_eq_none (by simp; omega)]; rfl
  rw [h0, Nat.zero_mod, Nat.mul_zero, Nat.add_zero] at hv
  have h1 := lower_end (Nat.mod_lt _ (Nat.pow_pos (by decide))) hv
  have h2 := val_take_drop ((L.drop o).take n) q (by simp; omega)
  rw [List.drop_take, List.drop_drop, hp, hm] at h2
  have h3 := val_lt (lb_take (lb_take (lb_drop hL o) n) q)
  rw [List.length_take, Nat.min_eq_left (by simp; omega)] at h3
  have h4 : val ((L.drop o).take n) / BB ^ q = val ((L.drop p).take m) := by
    rw [h2, Nat.add_comm, Nat.mul_add_div (pow_pos' q), Nat.div_eq_of_lt h3, Nat.add_zero]
  rw [h1, pow_split down, hq, hr, ← Nat.div_div_eq_div_mul, h4]

set_option maxHeartbeats 8000000 in
theorem c_lower (g o n c : Nat) (L : List Nat) (hL : Lb L) (ho : o + n ≤ L.length) (hn : n ≤ 1000000) (hc : n ≤ c) (hc2 : c ≤ maxLen) (down : Nat) (hd : down / 32 < n) (w : World) (hr : Row w g L) :
    Calls Tryz.prog 96 #[.slice (some ⟨g, o, none⟩) n c, .int .i64 (down : Int)] w (LowerPost g o n c down L w) := by
  have HR := Lib.hid hr
  have HL := Lib.hid hL
  have HO := Lib.hid ho
  have HC2 := Lib.hid hc2
  unfold maxLen at hc2
  obtain ⟨q, hq⟩ : ∃ q, down / 32 = q := ⟨_, rfl⟩
  obtain ⟨r, hr'⟩ : ∃ r, down % 32 = r := ⟨_, rfl⟩
  have hr32 : r < 32 := by omega
  have hqn : q < n := by omega
  have e1 : (down : Int) / 32 = (q : Int) := by omega
  have e2 : (down : Int) % 32 = (r : Int) := by omega
  have hd2 : (down : Int) ≤ 9223372036854775807 := by omega
  obtain ⟨m, hm⟩ : ∃ m, n - q = m := ⟨_, rfl⟩
  obtain ⟨p, hp⟩ : ∃ p, o + q = p := ⟨_, rfl⟩
  have hm1 : m ≤ 1000000 := by omega
  have hm2 : 0 < m := by omega
  have HQ := Lib.hid (And.intro hq hr')
  have HM := Lib.hid (And.intro hm hp)
  have hpm : p + m ≤ L.length := by omega
  have HPM := Lib.hid hpm
  clear hr hL ho hr' hpm
  go_enter Tryz.func96, Tryz.ntmps96
  go_wp2_with (fail)
  rw [e2]
  clear hq e1 e2 hm hp
  go_loopw [14] (fun i wr => LowerRel g p m r L w i wr) (fun i wr => m - (intOf i).toNat)
  case atStart => exact ⟨0, [], Nat.zero_le _, rfl, rfl, lb_nil, by
    have h1 : ((L.drop p).take m).getD 0 0 = L.getD p 0 := by
      rw [List.getD_eq_getElem?_getD, List.getElem?_take_of_lt hm2, List.getElem?_drop, List.getD_eq_getElem?_getD]; rfl
    rw [h1]; simp [val], by simpa using HR.out, Keep.refl _ _ _⟩
  case round =>
    obtain ⟨k, u, hk, rfl, hu, hlu, hv, hrow, hkp⟩ := hrel
    by_cases hlt : k < m
    · have hmg := mid_get (L := L) (u := u) (o := p) (k := k) (by have := HPM.out; omega) hu
      have hcell := hrow.cell (i := p + k) (by have := HPM.out; omega)
      rw [hmg.2] at hcell
      have hfz := hrow.frozen (p + k)
      have hsl := hrow.sl (o := p) (n := m) (c := c - q) (by have := HPM.out; omega) (by have := HM.out.1; omega) (by have := HC2.out; omega)
      have hll : ((((L.take p ++ u ++ L.drop (p + k)).drop p).take m).getD (k + 1) 0) = ((L.drop p).take m).getD (k + 1) 0 := by
        have hlen : (L.take p ++ u).length = p + k := by simp [hu]; have := HPM.out; omega
        rw [List.getD_eq_getElem?_getD, List.getD_eq_getElem?_getD]
        by_cases h2 : k + 1 < m
        · rw [List.getElem?_take_of_lt h2, List.getElem?_take_of_lt h2, List.getElem?_drop, List.getElem?_drop, List.getElem?_append_right (by omega), List.getElem?_drop, hlen]
          congr 2; omega
        · rw [List.getElem?_eq_none (by simp; omega), List.getElem?_eq_none (by simp; omega)]
      have HLI := Lib.hid (fun j => c_limb _ _ _ (wr.drewN j) (hsl : NatSl (wr.drewN j) _ _ _) (k + 1) (by omega))
      rw [hll] at HLI
      have hslen : (((L.take p ++ u ++ L.drop (p + k)).drop p).take m).length = m := by simp [hu]; have := HPM.out; omega
      have hx := lb_get HL.out (p + k)
      have hy : ((L.drop p).take m).getD (k + 1) 0 < BB := lb_get (lb_take (lb_drop HL.out _) _) _
      have hX : ((L.drop p).take m).getD k 0 = L.getD (p + k) 0 := by
        rw [List.getD_eq_getElem?_getD, List.getElem?_take_of_lt hlt, List.getElem?_drop, List.getD_eq_getElem?_getD]
      generalize hgx : L.getD (p + k) 0 = x at *
      generalize hgy : ((L.drop p).take m).getD (k + 1) 0 = y at *
      have HX := Lib.hid hgx
      have HY := Lib.hid hgy
      have HXX := Lib.hid hX
      have HROW := Lib.hid hrow
      have HKP := Lib.hid hkp
      have HV := Lib.hid hv
      have HU := Lib.hid hu
      have HLU := Lib.hid hlu
      clear hgx hgy hrow hkp hv hu hlu hll hmg hX hslen hsl
      have hki : ((k : Nat) : Int).toNat = k := by omega
      have hkn : (k : Int) < (m : Int) := by omega
      have hk0 : (0 : Int) ≤ (k : Int) := by omega
      have hk1 : IntKind.i64.wrap ((k : Int) + 1) = ((k + 1 : Nat) : Int) := by rw [IntWalk.i64_in _ ⟨by omega, by omega⟩]; rfl
      have hk2 : IntKind.i64.wrap (32 - (r : Int)) = ((32 - r : Nat) : Int) := by rw [IntWalk.i64_in _ ⟨by omega, by omega⟩]; omega
      have HLW := Lib.hid (lower_words (y := y) hx hr32)
      go_wp2_with (fail)
      go_still_tail 17, (by kernel_rfl)
      still_call ((HLI.out 1).mono fun _ _ h => ⟨h.1, h.2.symm⟩)
      repeat still_step
      refine wpStill_nil ?_
      change wpList _ _ _ _ _ (wr.drewN 1)
      go_wp2_with (fail)
      rw [HLW.out.1]
      exact ⟨lower_step hx hr32 hlt HPM.out (HXX.out.trans rfl) HY.out HU.out HLU.out HV.out (HROW.out.drewN 1) (HKP.out.drewN 1), by simp [intOf]; omega⟩
    · obtain rfl : k = m := by omega
      have hfin := lower_fin HL.out HQ.out.1 HQ.out.2 HM.out.1 hqn HM.out.2 HO.out hu hv
      have hsl := hrow.sl (o := p) (n := k) (c := c - q) (by simp [hu]; have := HPM.out; omega) (by have := HM.out.1; omega) (by have := HC2.out; omega)
      have hmid : ((L.take p ++ u ++ L.drop (p + k)).drop p).take k = u := by
        have hl : (L.take p).length = p := by simp; have := HPM.out; omega
        rw [List.append_assoc, List.drop_append_of_le_length (by omega), List.drop_of_length_le (by omega), List.nil_append, List.take_append_of_le_length (by omega), List.take_of_length_le (by omega)]
      rw [hmid] at hsl
      have hlen := window_len (L := L) (o := p) (n := k) HPM.out hu
      have hwl := window_lb (L := L) (o := p) (n := k) HL.out hlu
      have HC := Lib.hid (c_trim u hlu _ _ wr hsl)
      have HF := Lib.hid (And.intro hfin (And.intro hmid (And.intro hlen hwl)))
      have HROW := Lib.hid hrow
      have HKP := Lib.hid hkp
      have HU := Lib.hid hu
      have HLU := Lib.hid hlu
      clear hfin hmid hlen hwl hsl hu hv hlu hrow hkp
      go_wp2_with (fail)
      refine HC.out.mono ?_
      rintro e w3 ⟨r3, rfl, ⟨-, h3⟩, rfl⟩
      have h4 := h3 _ _ _ rfl
      subst h4
      go_wp2_with (fail)
      go_ret
      obtain ⟨f1, f2, f3, f4⟩ := HF.out
      obtain ⟨q1, q2⟩ := HQ.out
      obtain ⟨m1, m2⟩ := HM.out
      have hle := val_len_le HLU.out
      rw [HU.out] at hle
      refine ⟨_, by rw [← f1, q1, m2]; rfl, HROW.out, f3, f4, ?_, by rw [← f1, q1]; omega, HKP.out⟩
      rw [← f1, q1, m2]
      rw [take_sub f2 hle]
      exact nat_take HLU.out
end Go.Proofs.YtfdkdloldjfnjaaGreatDoor

/- DERIVED. takeAll. -/
namespace Go.Proofs.YtfdkdloldjfnjaaGreatDoor
open Go.RowKit
set_option maxRecDepth 100000

/-- How often b can be taken from the window, and what is left of it. -/
def AllPost (g o n : Nat) (L bs : List Nat) (w : World) (e : Ending) (w' : World) : Prop :=
  ∃ u : List Nat, e = .returned (.int .u32 ((val ((L.drop o).take (n + 1)) / val bs : Nat) : Int)) ∧ u.length = n + 1 ∧ Lb u ∧ val u = val ((L.drop o).take (n + 1)) % val bs ∧ Row w' g (L.take o ++ u ++ L.drop (o + (n + 1))) ∧ Keep w.heap.size g w w'
def AllRel (g o n W : Nat) (L bs : List Nat) (w : World) (tv dv : Value) (wr : World) : Prop :=
  ∃ (t d : Nat) (u : List Nat), tv = .int .u32 (t : Int) ∧ dv = .int .u32 (d : Int) ∧ t < BB ∧ d < BB ∧ u.length = n + 1 ∧ Lb u ∧ val u + t * val bs = W + BB ^ (n + 1) * d ∧ W < (t + 1) * val bs ∧ Row wr g (L.take o ++ u ++ L.drop (o + (n + 1))) ∧ Keep w.heap.size g w wr
theorem all_step {W vb t d u u' cy P : Nat} (hd : 0 < d) (hu : u < P) (hu' : u' < P) (hvb : vb < P) (hv : u + t * vb = W + P * d) (ha : u' + P * cy = u + 1 * vb) : 0 < t ∧ cy ≤ d ∧ u' + (t - 1) * vb = W + P * (d - cy) ∧ W < (t - 1 + 1) * vb := by
  have h1 : P * 1 ≤ P * d := Nat.mul_le_mul_left _ hd
  have ht : 0 < t := by
    rcases Nat.eq_zero_or_pos t with h0 | h0
    · subst h0; rw [Nat.zero_mul] at hv; omega
    · exact h0
  have hc : cy ≤ 1 := by
    rcases Nat.lt_or_ge 1 cy with h | h
    · have : P * 2 ≤ P * cy := Nat.mul_le_mul_left _ h
      omega
    · exact h
  obtain ⟨s, rfl⟩ : ∃ s, t = s + 1 := ⟨t - 1, by omega⟩
  obtain ⟨f, rfl⟩ : ∃ f, d = f + 1 := ⟨d - 1, by omega⟩
  simp only [Nat.add_sub_cancel]
  rw [Nat.add_mul, Nat.one_mul] at hv
  refine ⟨ht, by omega, ?_, ?_⟩
  · rw [Nat.mul_sub]
    have : P * cy ≤ P * (f + 1) := Nat.mul_le_mul_left _ (by omega)
    generalize s * vb = x at *
    generalize P * cy = y at *
    generalize P * (f + 1) = z at *
    omega
  · rw [Nat.add_mul, Nat.one_mul]
    generalize s * vb = x at *
    generalize P * (f + 1) = z at *
    omega
theorem top_two {W : List Nat} {n : Nat} (hW : Lb W) (hl : W.length = n + 1) (hn : 0 < n) : val W / BB ^ (n - 1) = W.getD n 0 * BB + W.getD (n - 1) 0 := by
  have h1 := val_take_succ W n
  have h2 := val_take_succ W (n - 1)
  rw [List.take_of_length_le (by omega)] at h1
  rw [show n - 1 + 1 = n by omega] at h2
  have h3 := val_lt (lb_take hW (n - 1))
  rw [List.length_take, Nat.min_eq_left (by omega)] at h3
  have e : BB ^ n = BB ^ (n - 1) * BB := by rw [← Nat.pow_succ]; congr 1; omega
  rw [h1, h2, e]
  generalize BB ^ (n - 1) = p at *
  have hp : 0 < p := by omega
  rw [show val (W.take (n - 1)) + p * W.getD (n - 1) 0 + p * BB * W.getD n 0 = p * (W.getD n 0 * BB + W.getD (n - 1) 0) + val (W.take (n - 1)) by grind, Nat.mul_add_div hp, Nat.div_eq_of_lt h3, Nat.add_zero]
theorem top_le {b : List Nat} {n : Nat} (hl : b.length = n) (hn : 0 < n) : BB ^ (n - 1) * b.getD (n - 1) 0 ≤ val b := by
  have h2 := val_take_succ b (n - 1)
  rw [show n - 1 + 1 = n by omega, List.take_of_length_le (by omega)] at h2
  omega

theorem Keep.undrew {n b k : Nat} {w w' : World} (h : Keep n b (w.drewN k) w') : Keep n b w w' := ⟨h.os, h.tape, h.output, h.size, h.block⟩
theorem all_fin {u t vb W P : Nat} (h0 : u + t * vb = W + P * 0) (h : W < (t + 1) * vb) : W / vb = t ∧ W % vb = u := by
  rw [Nat.mul_zero, Nat.add_zero, Nat.add_comm] at h0
  rw [Nat.add_mul, Nat.one_mul] at h
  exact div_unique' h0.symm (by omega)
theorem window_two {L u u' : List Nat} {o n : Nat} (ho : o + n ≤ L.length) (hu : u.length = n) : (L.take o ++ u ++ L.drop (o + n)).take o ++ u' ++ (L.take o ++ u ++ L.drop (o + n)).drop (o + n) = L.take o ++ u' ++ L.drop (o + n) := by
  have h1 : (L.take o).length = o := by simp; omega
  have h2 : (L.take o ++ u).length = o + n := by rw [List.length_append, h1, hu]
  have e1 : (L.take o ++ u ++ L.drop (o + n)).drop (o + n) = L.drop (o + n) := by
    have := List.drop_left (l₁ := L.take o ++ u) (l₂ := L.drop (o + n))
    rwa [h2] at this
  have e2 : (L.take o ++ u ++ L.drop (o + n)).take o = L.take o := by
    have := List.take_left (l₁ := L.take o) (l₂ := u ++ L.drop (o + n))
    rwa [h1, ← List.append_assoc] at this
  rw [e1, e2]
theorem u32_mod {m : Nat} (h : m < BB) : ((m : Nat) : Int) % 4294967296 = (m : Int) := by unfold BB at h; omega
theorem u32_pred {t : Nat} (h : 0 < t) (ht : t < BB) : ((t : Int) - 1) % 4294967296 = ((t - 1 : Nat) : Int) := by unfold BB at ht; omega
theorem two_limbs {x z : Nat} (h1 : x < BB) (h0 : z < BB) : bits BinOp.or IntKind.u64 (IntKind.u64.wrap (IntKind.u64.wrap (x : Int) * 4294967296)) (IntKind.u64.wrap (z : Int)) = ((x * BB + z : Nat) : Int) := by
  have e1 : IntKind.u64.wrap (x : Int) = (x : Int) := u64w (by unfold BB at h1; omega)
  have e2 : IntKind.u64.wrap (z : Int) = (z : Int) := u64w (by unfold BB at h0; omega)
  have e4 : x * BB < 18446744073709551616 := by unfold BB at *; omega
  have e3 : IntKind.u64.wrap ((x : Int) * 4294967296) = ((x * BB : Nat) : Int) := by
    rw [show (x : Int) * 4294967296 = ((x * BB : Nat) : Int) by simp [BB]]
    exact u64w e4
  have h2 : z < 2 ^ 32 := h0
  rw [e1, e2, e3, or_word64 _ _ e4 (by unfold BB at h0; omega), Nat.or_comm, or_add (d := 32) h2 (Nat.mul_mod_left _ _), Nat.add_comm]
theorem u32_sub {a b : Nat} (h : b ≤ a) (ha : a < BB) : ((a : Int) - (b : Int)) % 4294967296 = ((a - b : Nat) : Int) := by unfold BB at ha; omega

set_option maxHeartbeats 1000000 in
theorem c_takeAll (g o n c : Nat) (L bs : List Nat) (hL : Lb L) (hbs : Lb bs) (hbl : n = bs.length) (hn0 : 0 < n) (hn : n ≤ 100000) (htop : 0 < bs.getD (n - 1) 0) (ho : o + (n + 1) ≤ L.length) (hlt : val ((L.drop o).take (n + 1)) < BB * val bs) (vb : Value) (ok : Nat → Prop) (w : World) (hr : Row w g L) (hb : NatSl w ok vb bs) (hok : ∀ k, ok k → k < w.heap.size ∧ k ≠ g) :
    Calls Tryz.prog 105 #[.slice (some ⟨g, o, none⟩) ((n + 1 : Nat)) c, vb] w (AllPost g o n L bs w) := by
  have HR := Lib.hid hr
  have HB := Lib.hid hb
  have HL := Lib.hid hL
  have HBS := Lib.hid hbs
  have HOK := Lib.hid hok
  have HO := Lib.hid ho
  have HLT := Lib.hid hlt
  have HTOP := Lib.hid htop
  subst hbl
  obtain ⟨b1, o1, c1, rfl, -, -, -, g1⟩ := hb.at_ (i := bs.length - 1) (by omega)
  have q1 := g1 (bs.length - 1) (by omega)
  have q2 := hr.cell (i := o + bs.length) (by omega)
  have q3 := hr.cell (i := o + (bs.length - 1)) (by omega)
  have x1 := lb_get hL (o + bs.length)
  have x0 := lb_get hL (o + (bs.length - 1))
  have y0 := lb_get hbs (bs.length - 1)
  have hWl : ((L.drop o).take (bs.length + 1)).length = bs.length + 1 := by simp; omega
  have g2 := top_two (lb_take (lb_drop hL o) (bs.length + 1)) hWl hn0
  have gd : ∀ j, j < bs.length + 1 → ((L.drop o).take (bs.length + 1)).getD j 0 = L.getD (o + j) 0 := fun j hj => by
    rw [List.getD_eq_getElem?_getD, List.getElem?_take_of_lt hj, List.getElem?_drop, List.getD_eq_getElem?_getD]
  rw [gd bs.length (by omega), gd (bs.length - 1) (by omega)] at g2
  have g3 := guess (p := BB ^ (bs.length - 1)) (bt := bs.getD (bs.length - 1) 0) (pow_pos' _) htop (top_le rfl hn0) hlt
  rw [g2] at g3
  have HG := Lib.hid g3
  clear hr hb hL hbs hok ho hlt g1 g2 g3 gd
  generalize bs.getD (bs.length - 1) 0 = y at *
  generalize L.getD (o + bs.length) 0 = x at *
  generalize L.getD (o + (bs.length - 1)) 0 = z at *
  have hni : ((bs.length : Nat) : Int).toNat = bs.length := by omega
  have hnj : ((bs.length : Int) - 1).toNat = bs.length - 1 := by omega
  have hnk : IntKind.i64.wrap ((bs.length : Int) - 1) = ((bs.length - 1 : Nat) : Int) := by rw [IntWalk.i64_in _ ⟨by omega, by omega⟩]; omega
  have hn2 : (bs.length : Int) < ((bs.length + 1 : Nat) : Int) := by omega
  have hn3 : ((bs.length - 1 : Nat) : Int) < ((bs.length + 1 : Nat) : Int) := by omega
  have hy0 : ((y : Int) == 0) = false := by rw [beq_eq_false_iff_ne]; have := HTOP.out; omega
  have hwx : IntKind.u64.wrap (y : Int) = (y : Int) := u64w (by unfold BB at y0; omega)
  have HBIG := Lib.hid (two_limbs x1 x0)
  generalize hT : x * BB + z = T at HBIG HG
  have hTb : T < 18446744073709551616 := by unfold BB at *; omega
  have hdiv : IntKind.u64.wrap (((T : Nat) : Int).tdiv (y : Int)) = ((T / y : Nat) : Int) := by
    rw [show ((T : Nat) : Int).tdiv (y : Int) = ((T / y : Nat) : Int) from rfl]
    exact u64w (Nat.lt_of_le_of_lt (Nat.div_le_self _ _) hTb)
  have hmin : min (((T / y : Nat)) : Int) 4294967295 = ((min (T / y) (BB - 1) : Nat) : Int) := by simp [BB]; omega
  have htv : min (IntKind.u64.wrap ((T : Int) / (y : Int))) 4294967295 % 4294967296 = ((min (T / y) (BB - 1) : Nat) : Int) := by
    rw [show ((T : Int) / (y : Int)) = ((T / y : Nat) : Int) by simp, u64w (Nat.lt_of_le_of_lt (Nat.div_le_self _ _) hTb), hmin]
    exact u32_mod (by unfold BB; omega)
  have HD := Lib.hid htv
  have htlt : min (T / y) (BB - 1) < BB := by unfold BB; omega
  clear hdiv hmin hT htv
  go_enter Tryz.func105, Tryz.ntmps105
  go_wp2_with (fail)
  go_quiet (fail)
  rw [HBIG.out]
  go_wp2_with (fail)
  rw [HD.out]
  generalize min (T / y) (BB - 1) = t0 at HG htlt
  refine (c_takeTimes g o (bs.length + 1) c t0 L bs HL.out HBS.out htlt HO.out (by omega) _ ok (w.drewN nq) (HR.out.drewN nq) HB.out HOK.out).mono ?_
  rintro e w1 ⟨u, d, rfl, hu, hlu, hd, hv, hr1, hk1⟩
  rw [List.take_of_length_le (by omega)] at hv
  have HR1 := Lib.hid hr1
  have HK1 := Lib.hid hk1.undrew
  have HU := Lib.hid hu
  have HLU := Lib.hid hlu
  have HV := Lib.hid hv
  clear hr1 hk1 hu hlu hv
  go_wp2_with (fail)
  go_loopw [7, 8] (fun tv dv wr => AllRel g o bs.length (val ((L.drop o).take (bs.length + 1))) L bs w tv dv wr) (fun tv dv wr => (intOf tv).toNat)
  case atStart => exact ⟨t0, d, u, rfl, rfl, htlt, hd, HU.out, HLU.out, HV.out, HG.out, HR1.out, HK1.out⟩
  case round =>
    obtain ⟨t, d, u, rfl, rfl, ht, hd, hu, hlu, hv, hW, hr, hk⟩ := hrel
    have HK := Lib.hid hk
    by_cases hd0 : 0 < d
    · have hwl := window_len (L := L) (o := o) HO.out hu
      have hwb := window_lb (L := L) (o := o) (n := bs.length + 1) HL.out hlu
      have hsl : ((L.take o ++ u ++ L.drop (o + (bs.length + 1))).drop o).take (bs.length + 1) = u := by
        have hl : (L.take o).length = o := by simp; have := HO.out; omega
        rw [List.append_assoc, List.drop_append_of_le_length (by omega), List.drop_of_length_le (by omega), List.nil_append, List.take_append_of_le_length (by omega), List.take_of_length_le (by omega)]
      have hB := HB.out.keep (ok' := ok) hk (fun j hj => ⟨HOK.out j hj, hj⟩)
      have HC := Lib.hid (c_addTimes g o (bs.length + 1) c 1 (L.take o ++ u ++ L.drop (o + (bs.length + 1))) bs hwb HBS.out (by decide) (by rw [hwl]; exact HO.out) (by omega) _ ok wr hr hB (fun j hj => ⟨Nat.lt_of_lt_of_le (HOK.out j hj).1 hk.size, (HOK.out j hj).2⟩))
      have hub := val_lt hlu
      rw [hu] at hub
      have hvbb := val_lt HBS.out
      have hvb2 : val bs < BB ^ (bs.length + 1) := Nat.lt_of_lt_of_le hvbb (Nat.pow_le_pow_right (by decide) (by omega))
      have HX := Lib.hid (And.intro hwl (And.intro hwb (And.intro hsl (And.intro hub (And.intro hvb2 (And.intro hv hu))))))
      clear hwl hwb hsl hB hub hvbb hvb2 hv hr hu hlu hk
      go_wp2_with (fail)
      refine HC.out.mono ?_
      rintro e w2 ⟨u', cy, rfl, hu', hlu', hcy, hv', hr2, hk2⟩
      obtain ⟨f1, f2, f3, f4, f5, f6, f7⟩ := HX.out
      rw [f3, List.take_of_length_le (by omega)] at hv'
      have hub' := val_lt hlu'
      rw [hu'] at hub'
      obtain ⟨s1, s2, s3, s4⟩ := all_step hd0 f4 hub' f5 f6 hv'
      have hs5 := u32_sub s2 hd
      have hs6 := u32_pred s1 ht
      have hrr : Row w2 g (L.take o ++ u' ++ L.drop (o + (bs.length + 1))) := by
        rw [window_two HO.out f7] at hr2; exact hr2
      have HS := Lib.hid (And.intro s3 (And.intro s4 (And.intro hs5 (And.intro hs6 (And.intro hrr (And.intro hu' hlu'))))))
      have HK2 := Lib.hid (HK.out.trans (hk2.mono HK.out.size))
      clear f1 f2 f3 f4 f5 f6 f7 hv' hub' s3 s4 hs5 hs6 hr2 hrr hu' hlu' hk2
      go_wp2_with (fail)
      obtain ⟨s3, s4, s5, s6, s7, s8, s9⟩ := HS.out
      exact ⟨⟨t - 1, d - cy, u', congrArg (Value.int .u32) s6, congrArg (Value.int .u32) s5, by omega, by omega, s8, s9, s3, s4, s7, HK2.out⟩, by simp only [intOf]; omega⟩
    · obtain rfl : d = 0 := by omega
      have HF := Lib.hid (all_fin hv hW)
      have HX := Lib.hid (And.intro hu (And.intro hlu hr))
      clear hv hW hu hlu hr hk
      go_wp2_with (fail)
      go_ret
      obtain ⟨f1, f2⟩ := HF.out
      obtain ⟨f3, f4, f5⟩ := HX.out
      exact ⟨u, by rw [f1]; rfl, f3, f4, f2.symm, f5, HK.out⟩
end Go.Proofs.YtfdkdloldjfnjaaGreatDoor
