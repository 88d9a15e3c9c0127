/-
  DERIVED. divide.
-/
import Derived.Test.YtfdkdloldjfnjaaGreatDoorYMIm
import Derived.Deep.RegionWith
set_option linter.unusedVariables false
set_option linter.unusedSimpArgs false
namespace Go.Proofs.YtfdkdloldjfnjaaGreatDoor
open Go.RowKit
set_option maxRecDepth 100000

theorem NatSl.drew {w : World} {ok : Nat → Prop} {v : Value} {l : List Nat} (h : NatSl w ok v l) : NatSl w.drew ok v l := h.stand fun k hk => ⟨hk, rfl⟩
theorem NatSl.drewN {w : World} {ok : Nat → Prop} {v : Value} {l : List Nat} (h : NatSl w ok v l) (n : Nat) : NatSl (w.drewN n) ok v l := h.stand fun k hk => ⟨hk, rfl⟩
/-- raise by less than a limb. -/
def Raise32 (a : List Nat) (up : Nat) (w : World) (e : Ending) (w' : World) : Prop :=
  ∃ L : List Nat, e = .returned (.slice (some ⟨w.heap.size, 0, none⟩) (a.length + 1) (a.length + 1)) ∧ L.length = a.length + 1 ∧ Lb L ∧ val L = val a * 2 ^ up ∧ Row w' w.heap.size L ∧ Below w.heap.size w w'
theorem c_raise32 (a : List Nat) (ha : Lb a) (hal : a.length ≤ 100000) (up : Nat) (hup : up < 32) (v : Value) (ok : Nat → Prop) (w : World) (h : NatSl w ok v a) (hok : ∀ i, ok i → i < w.heap.size) :
    Calls Tryz.prog 98 #[v, .int .i64 (up : Int)] w (Raise32 a up w) := by
  refine (c_raise a ha (by omega) up (by omega) v ok w h hok).mono ?_
  rintro e w' ⟨L, h1, h2, h3, h4, h5, h6⟩
  have e0 : up / 32 = 0 := by omega
  rw [e0, Nat.zero_add] at h1 h2
  exact ⟨L, h1, h2, h3, h4, h5, h6⟩
theorem up_top {b : List Nat} {n up x : Nat} (hb : Lb b) (hl : b.length = n) (hn : 0 < n) (hx : b.getD (n - 1) 0 = x) (hx0 : 0 < x) (hup : up < 32) (hk : x * 2 ^ up < BB) : val b * 2 ^ up < BB ^ n ∧ BB ^ (n - 1) ≤ val b * 2 ^ up := by
  have h2 := val_take_succ b (n - 1)
  rw [show n - 1 + 1 = n by omega, List.take_of_length_le (by omega), hx] at h2
  have h3 := val_lt (lb_take hb (n - 1))
  rw [List.length_take, Nat.min_eq_left (by omega)] at h3
  have e : BB ^ n = BB ^ (n - 1) * BB := by rw [← Nat.pow_succ]; congr 1; omega
  have hb2 : 2 ^ up * 2 ^ (32 - up) = BB := by rw [← Nat.pow_add, show up + (32 - up) = 32 by omega]
  have hp : 0 < 2 ^ up := Nat.pow_pos (by decide)
  have h4 : (x + 1) * 2 ^ up ≤ BB := by
    rw [← hb2, Nat.mul_comm] at hk
    have := Nat.lt_of_mul_lt_mul_left hk
    rw [← hb2, Nat.mul_comm]
    exact Nat.mul_le_mul_left _ this
  rw [e, h2]
  generalize BB ^ (n - 1) = p at *
  generalize 2 ^ up = s at *
  constructor
  · have h5 : (val (b.take (n - 1)) + p * x) * s < p * (x + 1) * s := Nat.mul_lt_mul_of_pos_right (by rw [Nat.mul_add]; omega) hp
    have h6 : p * (x + 1) * s ≤ p * BB := by rw [Nat.mul_assoc]; exact Nat.mul_le_mul_left _ h4
    omega
  · have h5 : p * 1 ≤ p * x := Nat.mul_le_mul_left _ hx0
    have h6 : (val (b.take (n - 1)) + p * x) * 1 ≤ (val (b.take (n - 1)) + p * x) * s := Nat.mul_le_mul_left _ hp
    omega
/-- The quotient, and the remainder in a block of its own. -/
def DivPost (a b : Nat) (w : World) (e : Ending) (w' : World) : Prop :=
  ∃ (q : Value) (g c : Nat) (L : List Nat), e = .returned (.tuple #[q, .slice (some ⟨g, 0, none⟩) (nat (a % b)).length c]) ∧ NatSl w' (fun k => (w.heap.size ≤ k ∧ k < w'.heap.size) ∧ k ≠ g) q (nat (a / b)) ∧ Row w' g L ∧ Lb L ∧ L.take (nat (a % b)).length = nat (a % b) ∧ (nat (a % b)).length ≤ L.length ∧ L.length ≤ 100001 ∧ (nat (a % b)).length ≤ c ∧ c ≤ maxLen ∧ w.heap.size ≤ g ∧ Below w.heap.size w w'
/-- Between two rounds. -/
def DivRel (m la ga gb gw : Nat) (A b' : Nat) (LB : List Nat) (w : World) (i : Value) (wr : World) : Prop :=
  ∃ (k : Nat) (LR LW : List Nat), k ≤ m ∧ i = .int .i64 ((k : Int) - 1) ∧ LR.length = la + 1 ∧ LW.length = m ∧ Lb LR ∧ Lb LW ∧ A = val (LW.drop k) * BB ^ k * b' + val LR ∧ val LR < BB ^ k * b' ∧ Row wr ga LR ∧ Row wr gb LB ∧ Row wr gw LW ∧ Below w.heap.size w wr ∧ w.heap.size ≤ wr.heap.size
theorem div_step {LR LW u : List Nat} {A vb k i n q la m : Nat} (hk : k = i + 1) (hLR : Lb LR) (hLW : Lb LW) (hl : LR.length = la + 1) (hlw : LW.length = m) (him : i < m) (hn : i + (n + 1) ≤ la + 1) (hvb : vb < BB ^ n) (hv : A = val (LW.drop k) * BB ^ k * vb + val LR) (hlt : val LR < BB ^ k * vb)
    (hu : u.length = n + 1) (hq : q = val ((LR.drop i).take (n + 1)) / vb) (hur : val u = val ((LR.drop i).take (n + 1)) % vb) :
    A = val ((LW.set i q).drop i) * BB ^ i * vb + val (LR.take i ++ u ++ LR.drop (i + (n + 1))) ∧ val (LR.take i ++ u ++ LR.drop (i + (n + 1))) < BB ^ i * vb := by
  subst hk
  have h1 := window_val (L := LR) (u := u) (o := i) (n := n + 1) (by omega) hu
  have h2 := Nat.div_add_mod (val ((LR.drop i).take (n + 1))) vb
  rw [← hq, ← hur] at h2
  have e1 := val_take_drop LR i (by omega)
  have e2 := val_take_drop (LR.drop i) (n + 1) (by simp; omega)
  rw [List.drop_drop] at e2
  have hp := pow_pos' i
  have e3 : BB ^ (i + 1) = BB ^ i * BB := Nat.pow_succ ..
  have e4 : BB ^ (n + 1) = BB ^ n * BB := Nat.pow_succ ..
  have e5 : (LW.set i q).drop i = q :: LW.drop (i + 1) := by
    rw [List.drop_eq_getElem_cons (by simp; omega), List.getElem_set_self, List.drop_set_of_lt (by omega)]
  have hv0 : 0 < vb := by
    rcases Nat.eq_zero_or_pos vb with h | h
    · subst h; rw [Nat.mul_zero] at hlt; omega
    · exact h
  have h3 := val_lt (lb_take hLR i)
  rw [List.length_take, Nat.min_eq_left (by omega)] at h3
  -- what is above the window is 0
  have h6 : val (LR.drop (i + (n + 1))) = 0 := by
    rcases Nat.eq_zero_or_pos (val (LR.drop (i + (n + 1)))) with h | h
    · exact h
    · exfalso
      have g1 : BB ^ (n + 1) * 1 ≤ BB ^ (n + 1) * val (LR.drop (i + (n + 1))) := Nat.mul_le_mul_left _ h
      have g2 : BB ^ i * BB ^ (n + 1) ≤ val LR := by
        rw [e1, e2, Nat.mul_add]
        have := Nat.mul_le_mul_left (BB ^ i) g1
        rw [Nat.mul_one] at this
        omega
      have g3 : BB ^ (i + 1) * vb ≤ BB ^ (i + 1) * BB ^ n := Nat.mul_le_mul_left _ (Nat.le_of_lt hvb)
      have g4 : BB ^ (i + 1) * BB ^ n = BB ^ i * BB ^ (n + 1) := by rw [← Nat.pow_add, ← Nat.pow_add]; congr 1; omega
      omega
  have hmod : val u < vb := by rw [hur]; exact Nat.mod_lt _ hv0
  have h7 : val (LR.take i ++ u ++ LR.drop (i + (n + 1))) = val (LR.take i) + BB ^ i * val u := by
    rw [val_append, val_append, List.length_take, Nat.min_eq_left (by omega), h6, Nat.mul_zero, Nat.add_zero]
  rw [h6, Nat.mul_zero, Nat.add_zero] at e2
  constructor
  · rw [hv, e5, val, e1, e2, h7, e3]
    generalize val ((LR.drop i).take (n + 1)) = W at *
    generalize val (LW.drop (i + 1)) = T at *
    generalize BB ^ i = p at *
    rw [← h2]
    grind
  · rw [h7]
    have : BB ^ i * (val u + 1) ≤ BB ^ i * vb := Nat.mul_le_mul_left _ hmod
    rw [Nat.mul_add] at this
    omega
theorem div_window {LR : List Nat} {i n vb la : Nat} (hl : LR.length = la + 1) (hn : i + (n + 1) ≤ la + 1) (hlt : val LR < BB ^ (i + 1) * vb) : val ((LR.drop i).take (n + 1)) < BB * vb := by
  have e1 := val_take_drop LR i (by omega)
  have e2 := val_take_drop (LR.drop i) (n + 1) (by simp; omega)
  have e3 : BB ^ (i + 1) = BB ^ i * BB := Nat.pow_succ ..
  rw [e1, e2, e3, Nat.mul_assoc] at hlt
  have h : BB ^ i * val ((LR.drop i).take (n + 1)) < BB ^ i * (BB * vb) := by
    rw [Nat.mul_add] at hlt
    omega
  exact Nat.lt_of_mul_lt_mul_left h
theorem div_scale {a b s r q : Nat} (hs : 0 < s) (hb : 0 < b) (h : a * s = q * (b * s) + r) (hr : r < b * s) : q = a / b ∧ r / s = a % b := by
  have h1 : a / b = (a * s) / (b * s) := (Nat.mul_div_mul_right a b hs).symm
  have h2 : (a % b) * s = (a * s) % (b * s) := (Nat.mul_mod_mul_right s a b).symm
  obtain ⟨g1, g2⟩ := div_unique' h hr
  rw [h1, g1]
  refine ⟨rfl, ?_⟩
  rw [← g2, ← h2, Nat.mul_div_cancel _ hs]

theorem div_start {a b : List Nat} {up x m : Nat} (ha : Lb a) (hx : b.getD (b.length - 1) 0 = x) (hx0 : 0 < x) (hb0 : 0 < b.length) (hm : m = a.length + 1 - b.length) : val a * 2 ^ up < BB ^ m * (val b * 2 ^ up) := by
  rw [← Nat.mul_assoc]
  refine Nat.mul_lt_mul_of_pos_right ?_ (Nat.pow_pos (by decide))
  have h1 := top_le (b := b) rfl hb0
  rw [hx] at h1
  have h2 : BB ^ (b.length - 1) * 1 ≤ BB ^ (b.length - 1) * x := Nat.mul_le_mul_left _ hx0
  have h3 := val_lt ha
  have h4 : BB ^ a.length ≤ BB ^ m * BB ^ (b.length - 1) := by
    rw [← Nat.pow_add]
    exact Nat.pow_le_pow_right (by decide) (by omega)
  have h5 : BB ^ m * BB ^ (b.length - 1) ≤ BB ^ m * val b := Nat.mul_le_mul_left _ (by omega)
  omega
theorem raised_low {R : List Nat} {n : Nat} (hR : Lb R) (hl : R.length = n + 1) (h : val R < BB ^ n) : val (R.take n) = val R ∧ (R.take n).length = n ∧ Lb (R.take n) := by
  have e := val_take_drop R n (by omega)
  have h0 : val (R.drop n) = 0 := by
    rcases Nat.eq_zero_or_pos (val (R.drop n)) with h1 | h1
    · exact h1
    · have : BB ^ n * 1 ≤ BB ^ n * val (R.drop n) := Nat.mul_le_mul_left _ h1
      omega
  rw [h0, Nat.mul_zero, Nat.add_zero] at e
  exact ⟨e.symm, by simp; omega, lb_take hR n⟩

set_option maxHeartbeats 2000000 in
theorem c_divide (a b : List Nat) (ha : Lb a) (hb : Can b) (hb0 : 0 < b.length) (hal : a.length ≤ 100000) (hbl : b.length ≤ 100000) (va vb : Value) (ok ok' : Nat → Prop) (w : World) (h : NatSl w ok va a) (k : NatSl w ok' vb b) (hok : ∀ i, ok i → i < w.heap.size) (hok' : ∀ i, ok' i → i < w.heap.size) :
    Calls Tryz.prog 73 #[va, vb] w (DivPost (val a) (val b) w) := by
  have HA := Lib.hid h
  have HB := Lib.hid k
  have LA := Lib.hid ha
  have CB := Lib.hid hb
  have OA := Lib.hid hok
  have OB := Lib.hid hok'
  obtain ⟨A, c, rfl⟩ := h.shape
  obtain ⟨b1, o1, c1, rfl, -, -, -, g1⟩ := k.at_ (i := b.length - 1) (by omega)
  have q1 := g1 (b.length - 1) (by omega)
  have hx := lb_get hb.1 (b.length - 1)
  have hx0 : 0 < b.getD (b.length - 1) 0 := by
    have := hb.2 (b.getD (b.length - 1) 0) (by rw [List.getLast?_eq_getElem?, List.getD_eq_getElem?_getD, List.getElem?_eq_getElem (by omega)]; simp)
    omega
  generalize hgx : b.getD (b.length - 1) 0 = x at q1 hx hx0
  have HX := Lib.hid hgx
  clear h k ha hb hok hok' g1 hgx
  have hnj : ((b.length : Int) - 1).toNat = b.length - 1 := by omega
  go_enter Tryz.func73, Tryz.ntmps73
  go_wp2_with (go_at_call 104; refine (c_lz32 x hx hx0 _).mono ?_; rintro e w' ⟨up, rfl, hup, hup2, rfl⟩; have HU2 := Lib.hid hup2; clear hup2)
  go_region_with (first
    | (go_at_call 98; refine (c_raise32 a LA.out hal up hup _ ok _ (by first | exact HA.out.drew | exact (HA.out.drew.below (ok' := ok) hbb (fun i hi => ⟨OA.out i hi, hi⟩))) (by first | exact OA.out | exact fun i hi => Nat.lt_of_lt_of_le (OA.out i hi) hbb.size)).mono ?_; rintro e wa ⟨RA, rfl, hla, hLa, hva, hra, hba⟩)
    | (go_at_call 98; refine (c_raise32 b CB.out.1 hbl up hup _ ok' _ (by first | exact HB.out.drew | exact (HB.out.drew.below (ok' := ok') hba (fun i hi => ⟨OB.out i hi, hi⟩))) (by first | exact OB.out | exact fun i hi => Nat.lt_of_lt_of_le (OB.out i hi) hba.size)).mono ?_; rintro e wb ⟨RB, rfl, hlb, hLb, hvb, hrb, hbb⟩))
  obtain ⟨ga, hga⟩ : ∃ g, g = w.heap.size := ⟨_, rfl⟩
  obtain ⟨gb, hgb⟩ : ∃ g, g = wa.heap.size := ⟨_, rfl⟩
  have hs1 := hba.size
  have key : Row wb ga RA ∧ Row wb gb RB ∧ ga ≠ gb ∧ w.heap.size ≤ ga ∧ w.heap.size ≤ gb ∧ Below w.heap.size w wb := by
    subst hga hgb
    refine ⟨hra.below hbb hra.lt, hrb, ?_, Nat.le_refl _, hs1, ?_⟩
    · have : w.heap.size < wa.heap.size := hra.lt
      omega
    · have h1 : Below w.heap.size w wa := ⟨hba.os, hba.tape, hba.output, hba.size, hba.block⟩
      exact h1.trans (hbb.mono hs1)
  rw [← hga, ← hgb]
  have HK := Lib.hid key
  have HU := Lib.hid (up_top CB.out.1 rfl hb0 HX.out hx0 hup HU2.out)
  have HRB := Lib.hid (raised_low hLb (by rw [hlb]) (by rw [hvb]; exact HU.out.1))
  have HA2 := Lib.hid (And.intro hla (And.intro hLa hva))
  have HB2 := Lib.hid (And.intro hlb (And.intro hLb hvb))
  clear hga hgb hra hba hrb hbb key hs1 hla hLa hva hlb hLb hvb
  generalize wb = W at *
  clear wa
  obtain ⟨m, hm⟩ : ∃ m, m = a.length + 1 - b.length := ⟨_, rfl⟩
  have HM := Lib.hid hm
  have hm3 : m ≤ 100001 := by omega
  by_cases hle : (a.length : Int) - (b.length : Int) + 1 < 0
  all_goals
    have hmx : (a.length : Int) - (b.length : Int) + 1 ≤ (m : Int) := by omega
    have hmy : (a.length : Int) - (b.length : Int) + 1 < 0 ∨ (a.length : Int) - (b.length : Int) + 1 = (m : Int) := by omega
    have hm5 : m ≤ a.length + 1 - b.length := by omega
    clear hm
    go_wp2_with (at_make; refine wp_make _ rfl _ _ rfl _ _ m rfl rfl (by omega) (by omega) (by omega) ?_; intro w2 hr2 hb2; have HR2 := Lib.hid hr2; have HBB2 := Lib.hid hb2; have hsz := hr2.lt; clear hr2 hb2)
    obtain ⟨kA, kB, kne, kla, klb, kW⟩ := HK.out
    have HW2 := Lib.hid (kW.trans (HBB2.out.mono kW.size))
    have kA2 := kA.below HBB2.out kA.lt
    have kB2 := kB.below HBB2.out kB.lt
    have hgA := kA.lt
    have hgB := kB.lt
    have hWs := kW.size
    have HKA := Lib.hid kA2
    have HKB := Lib.hid kB2
    clear kA kB kA2 kB2 kW
    go_loopw [8] (fun i wr => DivRel m a.length ga gb W.heap.size (val a * 2 ^ up) (val b * 2 ^ up) RB w i wr) (fun i wr => (intOf i + 1).toNat)
    case atStart => exact ⟨m, RA, List.replicate m 0, Nat.le_refl _, rfl, HA2.out.1, by simp, HA2.out.2.1, lb_zeros _, by rw [List.drop_of_length_le (by simp)]; simp [val, HA2.out.2.2], by
      rw [HA2.out.2.2]
      exact div_start LA.out HX.out hx0 hb0 HM.out, HKA.out, HKB.out, HR2.out, HW2.out, by have := HW2.out.size; omega⟩
    case round =>
      obtain ⟨k, LR, LW, hk, rfl, hlr, hlw, hbR, hbW, hv, hlt, hrA, hrB, hrW, hbel, hsz2⟩ := hrel
      by_cases h0 : 0 < k
      · try (exfalso; omega)
        all_goals
          obtain ⟨i, rfl⟩ : ∃ i, k = i + 1 := ⟨k - 1, by omega⟩
          have e0 : ((i + 1 : Nat) : Int) - 1 = (i : Int) := by omega
          rw [e0]
          have hin : i + (b.length + 1) ≤ a.length + 1 := by omega
          obtain ⟨r1, r2, r3⟩ := HRB.out
          have hwin := div_window (i := i) hlr hin hlt
          rw [← HB2.out.2.2, ← r1] at hwin
          have htop : 0 < (RB.take b.length).getD (b.length - 1) 0 := by
            rcases Nat.eq_zero_or_pos ((RB.take b.length).getD (b.length - 1) 0) with h | h
            · exfalso
              have h2 := val_take_succ (RB.take b.length) (b.length - 1)
              rw [show b.length - 1 + 1 = b.length by omega, List.take_of_length_le (by omega), h, Nat.mul_zero, Nat.add_zero] at h2
              have h3 := val_lt (lb_take r3 (b.length - 1))
              rw [List.length_take, Nat.min_eq_left (by omega), ← h2, r1, HB2.out.2.2] at h3
              have := HU.out.2
              omega
            · exact h
          have hsB := hrB.sl (o := 0) (n := b.length) (c := b.length + 1) (by have := HB2.out.1; omega) (by omega) (by unfold maxLen; omega)
          rw [List.drop_zero] at hsB
          have HC := c_takeAll ga i b.length (a.length + 1 - i) LR (RB.take b.length) hbR r3 r2.symm hb0 hbl htop (by omega) hwin _ _ wr hrA hsB (fun j hj => by subst hj; exact ⟨hrB.lt, fun e => kne e.symm⟩)
          have HCC := Lib.hid HC
          have HRR := Lib.hid (And.intro r1 (And.intro r2 r3))
          have HS := Lib.hid (And.intro hlr (And.intro hlw (And.intro hbR (And.intro hbW (And.intro hv hlt)))))
          have HRW := Lib.hid hrW
          have HRB3 := Lib.hid hrB
          have HBEL := Lib.hid hbel
          have hgW := hrW.lt
          clear r1 r2 r3 hwin htop hsB HC hlr hlw hbR hbW hv hlt hrA hrB hrW hbel
          have hki : ((i : Nat) : Int).toNat = i := by omega
          have hkj : ((i : Int) + (b.length : Int) + 1).toNat = i + b.length + 1 := by omega
          have hkd : i + b.length + 1 - i = b.length + 1 := by omega
          go_wp2_with (go_at_call 105; refine HCC.out.mono ?_; rintro e w3 ⟨u, rfl, hu, hlu, hur, hrA3, hk3⟩; have hrW3 := HRW.out.keep hk3 hgW (by omega); have q5 := hrW3.cell (i := i) (by have := HS.out.2.1; omega); have f5 := hrW3.frozen i; have HX3 := Lib.hid (And.intro hu (And.intro hlu (And.intro hur (And.intro hrA3 (And.intro hk3 hrW3))))); clear hu hlu hur hrA3 hk3 hrW3)
          obtain ⟨k1, k2, k3, k4, k5, k6⟩ := HX3.out
          obtain ⟨t1, t2, t3, t4, t5, t6⟩ := HS.out
          obtain ⟨r1, r2, r3⟩ := HRR.out
          have hvb : val b * 2 ^ up < BB ^ b.length := HU.out.1
          have hqe : val ((LR.drop i).take (b.length + 1)) / val (RB.take b.length) = val ((LR.drop i).take (b.length + 1)) / (val b * 2 ^ up) := by rw [r1, HB2.out.2.2]
          rw [r1, HB2.out.2.2] at k3
          obtain ⟨s1, s2⟩ := div_step (i := i) (n := b.length) (q := val ((LR.drop i).take (b.length + 1)) / (val b * 2 ^ up)) rfl t3 t4 t1 t2 (by omega) hin hvb t5 t6 k1 rfl k3
          have hql : val ((LR.drop i).take (b.length + 1)) / (val b * 2 ^ up) < BB := by
            have hw := div_window (i := i) t1 hin t6
            rw [Nat.div_lt_iff_lt_mul (by have := HU.out.2; have := pow_pos' (b.length - 1); omega)]
            exact hw
          refine ⟨⟨i, _, LW.set i (val ((LR.drop i).take (b.length + 1)) / (val b * 2 ^ up)), by omega, rfl, by rw [window_len (by omega) k1, t1], by simp [t2], window_lb t3 k2, ?_, s1, s2, k4.far (by show ga ≠ W.heap.size; omega) _, (HRB3.out.keep k5 HRB3.out.lt (fun e => kne e.symm)).far (by show gb ≠ W.heap.size; omega) _, ?_, ?_, ?_⟩, by simp only [intOf]; omega⟩
          · intro z hz
            rcases List.mem_or_eq_of_mem_set hz with h | rfl
            · exact t4 z h
            · exact hql
          · rw [← Int.natCast_ediv, hqe]; exact k6.set _ _
          · exact (HBEL.out.trans (k5.low hsz2 kla)).setCell (by omega) _
          · have := k5.size
            simp [World.setCell]
            omega
      · obtain rfl : k = 0 := by omega
        rw [List.drop_zero, Nat.pow_zero, Nat.mul_one] at hv
        rw [Nat.pow_zero, Nat.one_mul] at hlt
        obtain ⟨d1, d2⟩ := div_scale (Nat.pow_pos (by decide)) (by rcases Nat.eq_zero_or_pos (val b) with h | h; (rw [h, Nat.zero_mul] at hlt; omega); exact h) hv hlt
        have hsW := row_whole hrW hlw (by omega)
        have HT := Lib.hid (c_trim LW hbW _ _ wr hsW)
        have e0 : up / 32 = 0 := by omega
        have hlow := c_lower ga 0 (a.length + 1) (a.length + 1) LR hbR (by omega) (by omega) (Nat.le_refl _) (by unfold maxLen; omega) up (by omega) wr hrA
        have HLO := Lib.hid hlow
        have HD := Lib.hid (And.intro d1 d2)
        have HS := Lib.hid (And.intro hlr (And.intro hbel (And.intro hrA.lt hrW.lt)))
        have htk : (LR.drop 0).take (a.length + 1) = LR := by rw [List.drop_zero, List.take_of_length_le (by omega)]
        have HTK := Lib.hid htk
        clear d1 d2 hsW hlow hlr hlw hbR hbW hv hlt hrA hrB hrW hbel htk
        go_wp2_with (go_at_call 93; refine HT.out.mono ?_; rintro e w3 ⟨r, rfl, ⟨hn, -⟩, rfl⟩; have HN := Lib.hid hn; clear hn)
        go_at_call 96
        refine HLO.out.mono ?_
        rintro e w4 ⟨L', he, h2, h3, h4, h5, h6, h7⟩
        rw [HTK.out, e0, Nat.zero_add, Nat.sub_zero] at he
        rw [HTK.out, e0, Nat.zero_add] at h5
        rw [HTK.out, e0, Nat.sub_zero] at h6
        subst he
        have HE := Lib.hid (And.intro h2 (And.intro h3 (And.intro h4 (And.intro h5 (And.intro h6 h7)))))
        clear h2 h3 h4 h5 h6 h7
        go_wp2_with (fail)
        go_ret2
        obtain ⟨h2, h3, h4, h5, h6, h7⟩ := HE.out
        obtain ⟨f1, f2, f3, f4⟩ := HS.out
        obtain ⟨d1, d2⟩ := HD.out
        have hz4 := h7.size
        have hz3 := f2.size
        refine ⟨r, ga, a.length + 1, L', ?_, ?_, h2, h4, ?_, ?_, by rw [h3, f1]; omega, ?_, by unfold maxLen; omega, kla, f2.trans (h7.low hz3 kla)⟩
        · rw [← d2]; rfl
        · rw [← d1]
          exact HN.out.keep h7 (fun j hj => by subst hj; exact ⟨⟨f4, by omega⟩, ⟨⟨by omega, by omega⟩, by omega⟩⟩)
        · rw [← d2]; rw [List.drop_zero] at h5; exact h5
        · rw [← d2, h3, f1]; exact h6
        · rw [← d2]; exact h6
end Go.Proofs.YtfdkdloldjfnjaaGreatDoor
