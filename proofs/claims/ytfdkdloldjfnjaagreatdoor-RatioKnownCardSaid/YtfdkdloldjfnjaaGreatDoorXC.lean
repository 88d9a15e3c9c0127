/-
  DERIVED. The law RatioKnown. (Written by gen/genXC.py.)
-/
import Derived.Test.YtfdkdloldjfnjaaGreatDoorXA
import Derived.Test.YtfdkdloldjfnjaaGreatDoorXB
import Derived.Test.YtfdkdloldjfnjaaGreatDoorXD
import Derived.Test.YtfdkdloldjfnjaaGreatDoorXE
import Derived.Test.YtfdkdloldjfnjaaGreatDoorUQ
import Derived.Deep.Cut
import Derived.Deep.RegionHeld3
import Derived.Test.YtfdkdloldjfnjaaGreatDoorYWBm
import Derived.Test.YtfdkdloldjfnjaaGreatDoorYTRm
import Derived.Test.YtfdkdloldjfnjaaGreatDoorYTUm
import Derived.Test.YtfdkdloldjfnjaaGreatDoorYTUm
set_option linter.unusedVariables false
set_option linter.unusedSimpArgs false
namespace Go.Proofs.YtfdkdloldjfnjaaGreatDoor
open Go.RowKit Go.Shelf
set_option maxRecDepth 100000

theorem of_none {w : World} (he : Env w) : Calls Tryz.prog 13 #[.int .i64 1, .int .i64 0] w fun e w' => e = .returned (.tuple #[.agg #[.bool false, .slice none 0 0, .slice none 0 0], .int .i64 2]) ∧ Below w.heap.size w w' := by
  refine (c_Of 1 0 (by omega) (by omega) (by omega) (by omega) w he.1 none 2 (fun _ => ⟨rfl, rfl⟩) (fun h => absurd rfl h)).mono ?_
  rintro e w' ⟨v, y, rfl, hb, h1, -⟩
  obtain ⟨rfl, rfl⟩ := h1 rfl
  exact ⟨rfl, hb⟩
theorem res_none {z : Int} {w : World} {e : Ending} {w' : World} (h : ResPost none z w e w') : e = .returned (.tuple #[.agg #[.bool false, .slice none 0 0, .slice none 0 0], .int .i64 z]) ∧ Below w.heap.size w w' := by
  obtain ⟨v, y, rfl, hb, h1, -⟩ := h
  obtain ⟨rfl, rfl⟩ := h1 rfl
  exact ⟨rfl, hb⟩
theorem v_IntTo' {x : Value} {l : Rat} {z : Int} {w : World} (ht : Env w) (hx : Rv w x l) (h : l = (z : Rat)) (h1 : -9223372036854775808 ≤ z) (h2 : z ≤ 9223372036854775807) : Calls Tryz.prog 36 #[x] w fun e w' => e = .returned (.tuple #[.int .i64 z, .int .i64 0]) ∧ Below w.heap.size w w' := by subst h; exact v_Int ht hx h1 h2
theorem int_over {x : Value} {w : World} (ht : Env w) (hx : Rv w x kO) : Calls Tryz.prog 36 #[x] w fun e w' => e = .returned (.tuple #[.int .i64 0, .int .i64 2]) ∧ Below w.heap.size w w' := by
  have hv := hx.valid
  have hf := hx.1
  obtain ⟨p1, p2, p3⟩ := pO
  rw [p1, p2, p3] at hv hf
  have h := n_Int true 9223372036854775809 1 hv x w ht.1 hf
  have e1 : intP true 9223372036854775809 1 = (0, 2) := by decide +kernel
  rw [e1] at h
  exact h
theorem add_none {x y : Value} {w : World} (ht : Env w) (hx : Rv w x kB) (hy : Rv w y (smq 1 1)) : Calls Tryz.prog 24 #[x, y] w fun e w' => e = .returned (.tuple #[.agg #[.bool false, .slice none 0 0, .slice none 0 0], .int .i64 3]) ∧ Below w.heap.size w w' := by
  have h := c_AddQ _ _ _ _ _ _ x y w ht.1 hx.1 hy.1 hx.valid hy.valid
  rw [quo_self, quo_self, show kB + smq 1 1 = kB + kS from rfl, add_over] at h
  exact h.mono fun _ _ h => res_none h
theorem mul_none {x : Value} {w : World} (ht : Env w) (hx : Rv w x kB) : Calls Tryz.prog 26 #[x, x] w fun e w' => e = .returned (.tuple #[.agg #[.bool false, .slice none 0 0, .slice none 0 0], .int .i64 3]) ∧ Below w.heap.size w w' := by
  have h := c_MulQ _ _ _ _ _ _ x x w ht.1 hx.1 hx.1 hx.valid hx.valid
  rw [quo_self, mul_over'] at h
  exact h.mono fun _ _ h => res_none h
def TB : ByteArray := str (txq kB)
theorem TB_size : TB.size = 311 := by
  obtain ⟨p1, p2, p3⟩ := pB
  show (str (txq kB)).size = 311
  rw [txq_of p1 p2 p3, str_size]
  exact big_len
theorem m_len : (nat kM.num.natAbs).length = 32 := by
  obtain ⟨p1, p2, p3⟩ := pM
  rw [p2, nat_less]
  rfl
theorem m_open {w : World} {s : Bool} {A : Option Addr} {n c : Nat} {vb : Value} (h : Rv w (.agg #[.bool s, .slice A n c, vb]) kM) : ∃ b o, A = some ⟨b, o, none⟩ ∧ Lm w b o 4294967294 := by
  obtain ⟨-, h1, -⟩ := h.ls
  obtain ⟨p1, p2, p3⟩ := pM
  rw [p2, nat_less] at h1
  obtain ⟨A', c', e, -, -, h2⟩ := h1.1
  injection e with e1 e2 e3
  subst e1
  obtain ⟨b, o, rfl, hb, hc⟩ := h2 (by simp)
  exact ⟨b, o, rfl, hb, hc 0 4294967294 rfl⟩
theorem m_at {w : World} {s : Bool} {b o n c : Nat} {vb : Value} (h : Rv w (.agg #[.bool s, .slice (some ⟨b, o, none⟩) n c, vb]) kM) : w.cell? ⟨b, o, none⟩ = some (.int .u32 4294967294) := by
  obtain ⟨b', o', e, hm⟩ := m_open h
  injection e with e
  injection e with e1 e2
  subst e1 e2
  exact hm.2
theorem kB_ne : kB ≠ 0 := by decide +kernel
theorem TB_is : str (txt false (2 ^ 1024 - 1) 1) = TB := by
  obtain ⟨p1, p2, p3⟩ := pB
  unfold TB
  rw [txq_of p1 p2 p3]
theorem near_none {x : Value} {w : World} (ht : Env w) (hx : Rv w x kP) : Calls Tryz.prog 40 #[x, .int .i64 1001] w fun e w' => e = .returned (.tuple #[.agg #[.bool false, .slice none 0 0, .slice none 0 0], .int .i64 2]) ∧ Below w.heap.size w w' := by
  have h1 := hx.2
  unfold Sm at h1
  have h := c_NearestR _ _ _ 1001 (Or.inr (by omega)) x w ht.1 (hx.1.to0 (by omega) (by omega)) hx.valid
  exact h.mono fun _ _ h => res_none h
theorem simp_none {x y : Value} {w : World} (ht : Env w) (hx : Rv w x kP) (hy : Rv w y (smq 3 1)) : Calls Tryz.prog 38 #[x, y] w fun e w' => e = .returned (.tuple #[.agg #[.bool false, .slice none 0 0, .slice none 0 0], .int .i64 2]) ∧ Below w.heap.size w w' := by
  have h1 := hx.2
  have h2 := hy.2
  unfold Sm at h1 h2
  have h := c_SimplestR _ _ _ _ _ _ h1.1 h1.2 h2.1 h2.2 x y w ht.1 hx.1 hy.1 hx.valid hy.valid (by decide +kernel)
  exact h.mono fun _ _ h => res_none h
theorem le1 : k31 ≤ k22 := by decide +kernel
theorem le2 : k7 ≤ k5 := by decide +kernel
theorem sim1 : SimpIs k31 k22 kA := by unfold SimpIs; decide +kernel
theorem sim2 : SimpIs k7 k5 kY := by unfold SimpIs; decide +kernel
set_option maxHeartbeats 32000000 in
theorem known_walk (w : World) (he : Env w) : Calls Tryz.prog 11 #[] w fun e w' => e = .returned (.bool true) ∧ Below w.heap.size w w' := by
  have HE := Lib.hid he
  have HB := Lib.hid (Below.refl w.heap.size w)
  clear he
  go_enter Tryz.func11, Tryz.ntmps11
  go_wp2_with (fail)
  go_at_call 13
  refine (show Calls Tryz.prog 13 _ _ (RatPost kZ0 _) from v_Of 0 (-5) (by omega) (by omega) (by omega) (by omega) (by omega) _ HE.out).mono ?_
  rintro e w1 ⟨v1, rfl, hv1, hb1⟩
  obtain ⟨A1, c1, B1, d1, rfl⟩ := hv1.open
  replace HE := Lib.hid (HE.out.on hb1)
  replace HB := Lib.hid (below_join HB.out hb1 HB.out.size)
  clear hb1
  obtain ⟨W1, hW1⟩ : ∃ W, W = w1.alloc (.cells #[.bool (qneg kZ0), (.slice A1 (nat kZ0.num.natAbs).length c1), (.slice B1 (nat kZ0.den).length d1)] 25) := ⟨_, rfl⟩
  have hbW1 : Below w1.heap.size w1 W1 := by subst hW1; exact (Below.refl _ _).alloc (Nat.le_refl _) _
  have HXzero := Lib.hid (show Bq W1 w1.heap.size kZ0 (.slice A1 (nat kZ0.num.natAbs).length c1) (.slice B1 (nat kZ0.den).length d1) by subst hW1; exact Bq.new hv1)
  clear hv1
  go_wp2_with (fail)
  rw [← hW1]
  clear hW1
  replace HE := Lib.hid (HE.out.on hbW1)
  replace HB := Lib.hid (below_join HB.out hbW1 HB.out.size)
  clear hbW1
  go_at_call 13
  refine (of_none HE.out).mono ?_
  rintro e w2 ⟨rfl, hb2⟩
  replace HXzero := Lib.hid (HXzero.out.on hb2)
  replace HE := Lib.hid (HE.out.on hb2)
  replace HB := Lib.hid (below_join HB.out hb2 HB.out.size)
  clear hb2
  obtain ⟨W2, hW2⟩ : ∃ W, W = w2.alloc (.cells #[.bool false, .slice none 0 0, .slice none 0 0] 25) := ⟨_, rfl⟩
  have hbW2 : Below w2.heap.size w2 W2 := by subst hW2; exact (Below.refl _ _).alloc (Nat.le_refl _) _
  go_wp2_with (fail)
  rw [← hW2]
  clear hW2
  replace HXzero := Lib.hid (HXzero.out.on hbW2)
  replace HE := Lib.hid (HE.out.on hbW2)
  replace HB := Lib.hid (below_join HB.out hbW2 HB.out.size)
  clear hbW2
  go_at_call 13
  refine (show Calls Tryz.prog 13 _ _ (RatPost kL _) from v_Of (-9223372036854775808) 1 (by omega) (by omega) (by omega) (by omega) (by omega) _ HE.out).mono ?_
  rintro e w3 ⟨v3, rfl, hv3, hb3⟩
  obtain ⟨A3, c3, B3, d3, rfl⟩ := hv3.open
  replace HXzero := Lib.hid (HXzero.out.on hb3)
  replace HE := Lib.hid (HE.out.on hb3)
  replace HB := Lib.hid (below_join HB.out hb3 HB.out.size)
  clear hb3
  obtain ⟨W3, hW3⟩ : ∃ W, W = w3.alloc (.cells #[.bool (qneg kL), (.slice A3 (nat kL.num.natAbs).length c3), (.slice B3 (nat kL.den).length d3)] 25) := ⟨_, rfl⟩
  have hbW3 : Below w3.heap.size w3 W3 := by subst hW3; exact (Below.refl _ _).alloc (Nat.le_refl _) _
  have HXleast := Lib.hid (show Bq W3 w3.heap.size kL (.slice A3 (nat kL.num.natAbs).length c3) (.slice B3 (nat kL.den).length d3) by subst hW3; exact Bq.new hv3)
  clear hv3
  go_wp2_with (fail)
  rw [← hW3]
  clear hW3
  replace HXzero := Lib.hid (HXzero.out.on hbW3)
  replace HE := Lib.hid (HE.out.on hbW3)
  replace HB := Lib.hid (below_join HB.out hbW3 HB.out.size)
  clear hbW3
  go_at_call 36
  refine (v_IntTo' (z := -9223372036854775808) HE.out HXleast.out.rv (by decide +kernel) (by omega) (by omega)).mono ?_
  rintro e w4 ⟨rfl, hb4⟩
  replace HXzero := Lib.hid (HXzero.out.on hb4)
  replace HXleast := Lib.hid (HXleast.out.on hb4)
  replace HE := Lib.hid (HE.out.on hb4)
  replace HB := Lib.hid (below_join HB.out hb4 HB.out.size)
  clear hb4
  go_wp2_with (fail)
  refine rgA5 _ _ _ w3.heap.size (.agg #[.bool (qneg kL), .slice A3 (nat kL.num.natAbs).length c3, .slice B3 (nat kL.den).length d3]) kL kO (by simp) (by simp [Act.eval]) ⟨_, _, rfl, HXleast.out⟩ (fun d v c b w h => (show _ from h)) (fun X => c_small 1 1 (by omega) (by omega) (by omega) (by omega) X) (fun X v hb hS hv => ?_) ?_
  · obtain ⟨va, vb, e, h⟩ := hS
    rw [e]
    exact v_Sub (HE.out.on hb) h.rv hv smOk
  intro w5 x5 u5 v5 hb5 f5
  obtain ⟨A5, c5, B5, d5, rfl, k5⟩ := f5.open
  replace HXzero := Lib.hid (HXzero.out.on hb5)
  replace HXleast := Lib.hid (HXleast.out.on hb5)
  replace HE := Lib.hid (HE.out.on hb5)
  replace HB := Lib.hid (below_join HB.out hb5 HB.out.size)
  have HXover := Lib.hid k5
  clear hb5 f5 k5
  simp only [wpA56, wpA51, wpA52, sqA5]
  obtain ⟨pover_5, rover_5, uover_5⟩ := HXover.out.cells
  go_wp2_with (fail)
  clear pover_5 rover_5 uover_5
  go_at_call 36
  refine (int_over HE.out HXover.out.rv).mono ?_
  rintro e w6 ⟨rfl, hb6⟩
  replace HXzero := Lib.hid (HXzero.out.on hb6)
  replace HXleast := Lib.hid (HXleast.out.on hb6)
  replace HXover := Lib.hid (HXover.out.on hb6)
  replace HE := Lib.hid (HE.out.on hb6)
  replace HB := Lib.hid (below_join HB.out hb6 HB.out.size)
  clear hb6
  obtain ⟨pzero_6, rzero_6, uzero_6⟩ := HXzero.out.cells
  go_wp2_with (fail)
  clear pzero_6 rzero_6 uzero_6
  go_at_call 20
  refine (v_TextAt HE.out HXzero.out.rv pZ0.1 pZ0.2.1 pZ0.2.2 txZ0k).mono ?_
  rintro e w7 ⟨rfl, hb7⟩
  replace HXzero := Lib.hid (HXzero.out.on hb7)
  replace HXleast := Lib.hid (HXleast.out.on hb7)
  replace HXover := Lib.hid (HXover.out.on hb7)
  replace HE := Lib.hid (HE.out.on hb7)
  replace HB := Lib.hid (below_join HB.out hb7 HB.out.size)
  clear hb7
  obtain ⟨pover_7, rover_7, uover_7⟩ := HXover.out.cells
  go_wp2_with (fail)
  clear pover_7 rover_7 uover_7
  go_at_call 20
  refine (v_TextAt HE.out HXover.out.rv pO.1 pO.2.1 pO.2.2 txOk).mono ?_
  rintro e w8 ⟨rfl, hb8⟩
  replace HXzero := Lib.hid (HXzero.out.on hb8)
  replace HXleast := Lib.hid (HXleast.out.on hb8)
  replace HXover := Lib.hid (HXover.out.on hb8)
  replace HE := Lib.hid (HE.out.on hb8)
  replace HB := Lib.hid (below_join HB.out hb8 HB.out.size)
  clear hb8
  go_upto_region 9 with (fail)
  have hmk : ∀ w : World, (Instr.makeSlice 23 (.int .i64 32) (.int .i64 32)).run Tryz.prog w = .ok (.slice (some ⟨w.heap.size, 0, none⟩) 32 32) (w.alloc (.cells (zc 32) 51)) := mk_limbs 32 (by omega)
  obtain ⟨G, hG⟩ : ∃ G, G = ((w8.alloc (.cells (zc 32) 51)).alloc (.cells #[.int .u32 1] 51)).alloc (.cells #[.bool false, .slice (some ⟨w8.heap.size, 0, none⟩) 32 32, .slice (some ⟨w8.heap.size + 1, 0, none⟩) 1 1] 25) := ⟨_, rfl⟩
  have HK0 := Lib.hid (show KR w8 0 G by subst hG; exact KR.start w8)
  go_upto_region 10 with (fail)
  clear hmk
  rw [← hG]
  clear hG
  go_wp2_with (fail)
  go_loopw [14] (fun i wr => ∃ k : Nat, i = .int .i64 (k : Int) ∧ k ≤ 32 ∧ Hid (KR w8 k wr)) (fun i _ => 32 - (intOf i).toNat)
  case atStart => exact ⟨0, rfl, by omega, HK0⟩
  case round =>
    obtain ⟨k, rfl, hk, HK⟩ := hrel
    have hkk : ((k : Nat) : Int).toNat = k := by omega
    obtain ⟨x0, x1, x2⟩ := HK.out.cells
    by_cases hlt : k < 32
    · have hlt' : ((k : Nat) : Int) < 32 := by omega
      obtain ⟨y0, y1⟩ := HK.out.at_ hlt
      have HK1 := Lib.hid (HK.out.step hlt)
      go_wp2_with (fail)
      go_roundw
      case rel => exact ⟨k + 1, by go_num, by omega, HK1⟩
      case measure => simp only [intOf]; omega
    obtain rfl : k = 32 := by omega
    clear x0 x1 x2 hkk hlt hk
    replace HXzero := Lib.hid (HXzero.out.on HK.out.1)
    replace HXleast := Lib.hid (HXleast.out.on HK.out.1)
    replace HXover := Lib.hid (HXover.out.on HK.out.1)
    replace HE := Lib.hid (HE.out.on HK.out.1)
    replace HB := Lib.hid (below_join HB.out HK.out.1 HB.out.size)
    have HXbig := Lib.hid HK.out.done
    clear HK HK0
    go_wp2_with (fail)
    have HBd := Lib.hid (Below.drew (Below.refl wr.heap.size wr))
    go_region_held3 (fun X => X.cell? ⟨(w8.heap.size + 2), 0, none⟩ = some (.bool (qneg kB)) ∧ X.cell? ⟨(w8.heap.size + 2), 1, none⟩ = some (.slice (some ⟨w8.heap.size, 0, none⟩) 32 32) ∧ X.cell? ⟨(w8.heap.size + 2), 2, none⟩ = some (.slice (some ⟨w8.heap.size + 1, 0, none⟩) 1 1))
      (first | exact (HXbig.out.on HBb.out).cells | exact (HXbig.out.on HBa.out).cells | exact (HXbig.out.on HBd.out).cells | exact HXbig.out.cells)
      (first
        | (go_at_call 42; (with_reducible refine (c_small 1 1 (by omega) (by omega) (by omega) (by omega) _).mono ?_); rintro e wa ⟨va, rfl, hva, ba⟩; have HVa := Lib.hid hva; have HBa := Lib.hid (below_join HBd.out ba HBd.out.size); clear hva ba)
        | (go_at_call 24; (with_reducible refine (add_none (HE.out.on HBa.out) (HXbig.out.on HBa.out).rv HVa.out).mono ?_); rintro e wb ⟨rfl, bb⟩; have HBb := Lib.hid (below_join HBa.out bb HBa.out.size); clear bb)
        | fail)
    replace HXzero := Lib.hid (HXzero.out.on HBb.out)
    replace HXleast := Lib.hid (HXleast.out.on HBb.out)
    replace HXover := Lib.hid (HXover.out.on HBb.out)
    replace HXbig := Lib.hid (HXbig.out.on HBb.out)
    replace HE := Lib.hid (HE.out.on HBb.out)
    replace HB := Lib.hid (below_join HB.out HBb.out HB.out.size)
    clear HBd HBa HBb HVa
    go_wp2_with (fail)
    refine rgB5 _ _ _ (w8.heap.size + 2) (.agg #[.bool (qneg kB), .slice (some ⟨w8.heap.size, 0, none⟩) 32 32, .slice (some ⟨w8.heap.size + 1, 0, none⟩) 1 1]) kB kM (by simp) (by simp [Act.eval]) ⟨_, _, rfl, HXbig.out⟩ (fun d v c b w h => (show _ from h)) (fun X => c_small 1 1 (by omega) (by omega) (by omega) (by omega) X) (fun X v hb hS hv => ?_) ?_
    · obtain ⟨va, vb, e, h⟩ := hS
      rw [e]
      exact v_Sub (HE.out.on hb) h.rv hv smMk
    intro w9 x9 u9 v9 hb9 f9
    obtain ⟨A9, c9, B9, d9, rfl, k9⟩ := f9.open
    replace HXzero := Lib.hid (HXzero.out.on hb9)
    replace HXleast := Lib.hid (HXleast.out.on hb9)
    replace HXover := Lib.hid (HXover.out.on hb9)
    replace HXbig := Lib.hid (HXbig.out.on hb9)
    replace HE := Lib.hid (HE.out.on hb9)
    replace HB := Lib.hid (below_join HB.out hb9 HB.out.size)
    have HXm := Lib.hid k9
    clear hb9 f9 k9
    simp only [wpB56, wpB51, wpB52, sqB5]
    obtain ⟨bm, om, e1, -⟩ := m_open HXm.out.rv
    subst e1
    have HXm2 := Lib.hid (show Bq _ x9 kM (.slice (some ⟨bm, om, none⟩) 32 c9) (.slice B9 (nat kM.den).length d9) from m_len ▸ HXm.out)
    clear HXm
    have HXm := HXm2
    clear HXm2
    obtain ⟨pbig_9, rbig_9, ubig_9⟩ := HXbig.out.cells
    go_wp2_with (fail)
    clear pbig_9 rbig_9 ubig_9
    go_at_call 26
    refine (mul_none HE.out HXbig.out.rv).mono ?_
    rintro e w10 ⟨rfl, hb10⟩
    replace HXzero := Lib.hid (HXzero.out.on hb10)
    replace HXleast := Lib.hid (HXleast.out.on hb10)
    replace HXover := Lib.hid (HXover.out.on hb10)
    replace HXbig := Lib.hid (HXbig.out.on hb10)
    replace HXm := Lib.hid (HXm.out.on hb10)
    replace HE := Lib.hid (HE.out.on hb10)
    replace HB := Lib.hid (below_join HB.out hb10 HB.out.size)
    clear hb10
    obtain ⟨pbig_10, rbig_10, ubig_10⟩ := HXbig.out.cells
    go_wp2_with (fail)
    clear pbig_10 rbig_10 ubig_10
    go_at_call 27
    refine (show Calls Tryz.prog 27 _ _ (RatPost kE _) from v_Div HE.out HXbig.out.rv HXbig.out.rv kB_ne smEk).mono ?_
    rintro e w11 ⟨v11, rfl, hv11, hb11⟩
    obtain ⟨A11, c11, B11, d11, rfl⟩ := hv11.open
    replace HXzero := Lib.hid (HXzero.out.on hb11)
    replace HXleast := Lib.hid (HXleast.out.on hb11)
    replace HXover := Lib.hid (HXover.out.on hb11)
    replace HXbig := Lib.hid (HXbig.out.on hb11)
    replace HXm := Lib.hid (HXm.out.on hb11)
    replace HE := Lib.hid (HE.out.on hb11)
    replace HB := Lib.hid (below_join HB.out hb11 HB.out.size)
    clear hb11
    obtain ⟨W11, hW11⟩ : ∃ W, W = w11.alloc (.cells #[.bool (qneg kE), (.slice A11 (nat kE.num.natAbs).length c11), (.slice B11 (nat kE.den).length d11)] 25) := ⟨_, rfl⟩
    have hbW11 : Below w11.heap.size w11 W11 := by subst hW11; exact (Below.refl _ _).alloc (Nat.le_refl _) _
    have HXone := Lib.hid (show Bq W11 w11.heap.size kE (.slice A11 (nat kE.num.natAbs).length c11) (.slice B11 (nat kE.den).length d11) by subst hW11; exact Bq.new hv11)
    clear hv11
    obtain ⟨pbig_11, rbig_11, ubig_11⟩ := HXbig.out.cellsA
    go_wp2_with (fail)
    clear pbig_11 rbig_11 ubig_11
    rw [← hW11]
    clear hW11
    replace HXzero := Lib.hid (HXzero.out.on hbW11)
    replace HXleast := Lib.hid (HXleast.out.on hbW11)
    replace HXover := Lib.hid (HXover.out.on hbW11)
    replace HXbig := Lib.hid (HXbig.out.on hbW11)
    replace HXm := Lib.hid (HXm.out.on hbW11)
    replace HE := Lib.hid (HE.out.on hbW11)
    replace HB := Lib.hid (below_join HB.out hbW11 HB.out.size)
    clear hbW11
    go_at_call 18
    refine (v_Valid HE.out HXbig.out.rv).mono ?_
    rintro e w12 ⟨rfl, hb12⟩
    replace HXzero := Lib.hid (HXzero.out.on hb12)
    replace HXleast := Lib.hid (HXleast.out.on hb12)
    replace HXover := Lib.hid (HXover.out.on hb12)
    replace HXbig := Lib.hid (HXbig.out.on hb12)
    replace HXm := Lib.hid (HXm.out.on hb12)
    replace HXone := Lib.hid (HXone.out.on hb12)
    replace HE := Lib.hid (HE.out.on hb12)
    replace HB := Lib.hid (below_join HB.out hb12 HB.out.size)
    clear hb12
    have hlm := m_at HXm.out.rv
    obtain ⟨pone_12, rone_12, uone_12⟩ := HXone.out.cells
    obtain ⟨pm_12, rm_12, um_12⟩ := HXm.out.cells
    go_wp2_with (fail)
    clear pone_12 rone_12 uone_12 pm_12 rm_12 um_12
    go_at_call 20
    refine (v_TextAt HE.out HXone.out.rv pE.1 pE.2.1 pE.2.2 txEk).mono ?_
    rintro e w13 ⟨rfl, hb13⟩
    replace HXzero := Lib.hid (HXzero.out.on hb13)
    replace HXleast := Lib.hid (HXleast.out.on hb13)
    replace HXover := Lib.hid (HXover.out.on hb13)
    replace HXbig := Lib.hid (HXbig.out.on hb13)
    replace HXm := Lib.hid (HXm.out.on hb13)
    replace HXone := Lib.hid (HXone.out.on hb13)
    replace HE := Lib.hid (HE.out.on hb13)
    replace HB := Lib.hid (below_join HB.out hb13 HB.out.size)
    clear hb13
    clear hlm
    obtain ⟨pbig_13, rbig_13, ubig_13⟩ := HXbig.out.cells
    go_wp2_with (fail)
    clear pbig_13 rbig_13 ubig_13
    go_at_call 20
    refine (v_TextAt (r := TB) HE.out HXbig.out.rv pB.1 pB.2.1 pB.2.2 TB_is).mono ?_
    rintro e w14 ⟨rfl, hb14⟩
    replace HXzero := Lib.hid (HXzero.out.on hb14)
    replace HXleast := Lib.hid (HXleast.out.on hb14)
    replace HXover := Lib.hid (HXover.out.on hb14)
    replace HXbig := Lib.hid (HXbig.out.on hb14)
    replace HXm := Lib.hid (HXm.out.on hb14)
    replace HXone := Lib.hid (HXone.out.on hb14)
    replace HE := Lib.hid (HE.out.on hb14)
    replace HB := Lib.hid (below_join HB.out hb14 HB.out.size)
    clear hb14
    have htb := TB_size
    go_upto_region 20 with (fail)
    clear htb
    obtain ⟨G1, hG1⟩ : ∃ G, G = ((((((((((w14.alloc (.cells #[.int .u32 0] 51)).alloc (.cells #[.int .u32 1] 51)).alloc (.cells #[.int .u32 2] 51)).alloc (.cells #[.int .u32 4] 51)).alloc (.cells #[.int .u32 1] 51)).alloc (.cells (zc 33) 51)).alloc (.cells #[.int .u32 1] 51)).alloc (.cells #[.int .u32 1] 51)).alloc (.cells #[.int .u32 2] 51)).alloc (.cells #[.bool false, .slice none 0 0, .slice none 0 0, .bool false, .slice (some ⟨w14.heap.size, 0, none⟩) 1 1, .slice (some ⟨w14.heap.size + 1, 0, none⟩) 1 1, .bool false, .slice (some ⟨w14.heap.size + 1 + 1, 0, none⟩) 1 1, .slice (some ⟨w14.heap.size + 1 + 1 + 1, 0, none⟩) 1 1, .bool true, .slice none 0 0, .slice (some ⟨w14.heap.size + 1 + 1 + 1 + 1, 0, none⟩) 1 1, .bool false, .slice (some ⟨w14.heap.size + 1 + 1 + 1 + 1 + 1, 0, none⟩) 33 33, .slice (some ⟨w14.heap.size + 1 + 1 + 1 + 1 + 1 + 1, 0, none⟩) 1 1, .bool false, .slice (some ⟨w14.heap.size + 1 + 1 + 1 + 1 + 1 + 1 + 1, 0, none⟩) 1 1, .slice none 0 0, .bool false, .slice none 0 0, .slice (some ⟨w14.heap.size + 1 + 1 + 1 + 1 + 1 + 1 + 1 + 1, 0, none⟩) 1 1] 25)) := ⟨_, rfl⟩
    have hg1 : G1.cell? ⟨w14.heap.size + 1 + 1 + 1 + 1 + 1 + 1 + 1 + 1 + 1, 13, none⟩ = some (.slice (some ⟨w14.heap.size + 1 + 1 + 1 + 1 + 1, 0, none⟩) 33 33) := by subst hG1; exact (odd_before w14).1
    have hg2 : G1.cell? ⟨w14.heap.size + 1 + 1 + 1 + 1 + 1, 32, none⟩ = some (.int .u32 0) := by subst hG1; exact (odd_before w14).2.1
    have hg3 : G1.frozen? ⟨w14.heap.size + 1 + 1 + 1 + 1 + 1, 32, none⟩ = false := by subst hG1; exact (odd_before w14).2.2
    obtain ⟨G2, hG2⟩ : ∃ G, G = G1.setCell ⟨w14.heap.size + 1 + 1 + 1 + 1 + 1, 32, none⟩ (.int .u32 1) := ⟨_, rfl⟩
    have HO := Lib.hid (show OddAt (w14.heap.size + 1 + 1 + 1 + 1 + 1 + 1 + 1 + 1 + 1) G2 by subst hG2 hG1; exact (odd_made w14).1)
    have hbG : Below w14.heap.size w14 G2 := by subst hG2 hG1; exact (odd_made w14).2
    have hmk : ∀ w : World, (Instr.makeSlice 23 (.int .i64 33) (.int .i64 33)).run Tryz.prog w = .ok (.slice (some ⟨w.heap.size, 0, none⟩) 33 33) (w.alloc (.cells (zc 33) 51)) := mk_limbs 33 (by omega)
    go_upto_region 21 with (fail)
    clear hmk
    rw [← hG1]
    clear hG1
    go_upto_region 22 with (fail)
    rw [← hG2]
    clear hG2 hg1 hg2 hg3
    replace HXzero := Lib.hid (HXzero.out.on hbG)
    replace HXleast := Lib.hid (HXleast.out.on hbG)
    replace HXover := Lib.hid (HXover.out.on hbG)
    replace HXbig := Lib.hid (HXbig.out.on hbG)
    replace HXm := Lib.hid (HXm.out.on hbG)
    replace HXone := Lib.hid (HXone.out.on hbG)
    replace HE := Lib.hid (HE.out.on hbG)
    replace HB := Lib.hid (below_join HB.out hbG HB.out.size)
    clear hbG
    go_wp2_with (fail)
    clear HXzero HXleast HXover HXbig HXm HXone
    go_loopw [18] (fun i wr => ∃ k : Nat, i = .int .i64 (k : Int) ∧ k ≤ 7 ∧ Hid (Below G2.heap.size G2 wr)) (fun i _ => 7 - (intOf i).toNat)
    case atStart => exact ⟨0, rfl, by omega, Lib.hid (Below.refl _ _)⟩
    case round =>
      obtain ⟨k, rfl, hk, HBl⟩ := hrel
      have hkk : ((k : Nat) : Int).toNat = k := by omega
      have HEl := Lib.hid (HE.out.on HBl.out)
      have HOl := Lib.hid (HO.out.on HBl.out)
      by_cases hlt : k < 7
      · have hlt' : ((k : Nat) : Int) < 7 := by omega
        obtain ⟨s, A, m, c, B, m2, c2, a, b, y1, y2, y3, HF, hv⟩ := HOl.out.2 k hlt
        have HFl := Lib.hid HF
        clear HF
        go_wp2_with (fail)
        have HY := Lib.hid (show ∀ X, Below wr.heap.size wr X → X.cell? ⟨w14.heap.size + 1 + 1 + 1 + 1 + 1 + 1 + 1 + 1 + 1, k * 3, none⟩ = some (.bool s) ∧ X.cell? ⟨w14.heap.size + 1 + 1 + 1 + 1 + 1 + 1 + 1 + 1 + 1, k * 3 + 1, none⟩ = some (.slice A m c) ∧ X.cell? ⟨w14.heap.size + 1 + 1 + 1 + 1 + 1 + 1 + 1 + 1 + 1, k * 3 + 2, none⟩ = some (.slice B m2 c2) from fun X h => ⟨(h.cell (p := ⟨w14.heap.size + 1 + 1 + 1 + 1 + 1 + 1 + 1 + 1 + 1, k * 3, none⟩) HOl.out.1).trans y1, (h.cell (p := ⟨w14.heap.size + 1 + 1 + 1 + 1 + 1 + 1 + 1 + 1 + 1, k * 3 + 1, none⟩) HOl.out.1).trans y2, (h.cell (p := ⟨w14.heap.size + 1 + 1 + 1 + 1 + 1 + 1 + 1 + 1 + 1, k * 3 + 2, none⟩) HOl.out.1).trans y3⟩)
        clear y1 y2 y3
        go_at_call 34
        refine (c_FloorN s a b _ _ HEl.out.1 HFl.out hv).mono ?_
        intro e v1 h; obtain ⟨rfl, b1⟩ := res_none h; clear h
        obtain ⟨y1, y2, y3⟩ := HY.out _ b1
        have HB1 := Lib.hid b1; clear b1
        go_wp2_with (fail)
        clear y1 y2 y3
        go_at_call 40
        refine (c_NearestE s a b 0 _ _ (HEl.out.on HB1.out).1 (HFl.out.on HB1.out) hv).mono ?_
        intro e v2 h; obtain ⟨rfl, b2⟩ := res_none h; clear h
        have HB2 := Lib.hid (below_join HB1.out b2 HB1.out.size); clear b2
        obtain ⟨y1, y2, y3⟩ := HY.out _ HB2.out
        go_wp2_with (fail)
        clear y1 y2 y3
        go_at_call 18
        refine (c_ValidF (HFl.out.on HB2.out) false hv (HEl.out.on HB2.out).1).mono ?_
        rintro e v3 ⟨rfl, b3⟩
        have HB3 := Lib.hid (below_join HB2.out b3 HB2.out.size); clear b3
        obtain ⟨y1, y2, y3⟩ := HY.out _ HB3.out
        go_wp2_with (fail)
        clear y1 y2 y3
        go_at_call 20
        refine (show Calls Tryz.prog 20 #[_] _ (fun e w2 => e = .returned (.string ⟨#[]⟩) ∧ Below _ _ w2) from c_TextN s a b _ _ (HEl.out.on HB3.out).1 (HFl.out.on HB3.out) hv).mono ?_
        rintro e v4 ⟨rfl, b4⟩
        have HB4 := Lib.hid (below_join HBl.out (below_join HB3.out b4 HB3.out.size) HBl.out.size); clear b4
        clear HB1 HB2 HB3 HY
        go_wp2_with (fail)
        go_roundw
        case rel => exact ⟨k + 1, by go_num, by omega, HB4⟩
        case measure => simp only [intOf]; omega
      obtain rfl : k = 7 := by omega
      clear hkk hlt hk HOl HO
      replace HB := Lib.hid (below_join HB.out HBl.out HB.out.size)
      clear HE
      have HE := HEl
      clear HEl HBl
      go_upto_region 29 with (fail)
      obtain ⟨G3, hG3⟩ : ∃ G, G = wr.alloc (.cells #[.string ⟨#[]⟩, .string ⟨#[47]⟩, .string ⟨#[49]⟩, .string ⟨#[49, 47]⟩, .string ⟨#[47, 49]⟩, .string ⟨#[54, 47, 52]⟩, .string ⟨#[45, 48, 47, 49]⟩, .string ⟨#[48, 49, 47, 50]⟩, .string ⟨#[49, 47, 48, 50]⟩, .string ⟨#[43, 49, 47, 50]⟩, .string ⟨#[49, 47, 50, 32]⟩, .string ⟨#[49, 47, 48]⟩, .string ⟨#[48, 47, 50]⟩, .string ⟨#[45, 45, 49, 47, 50]⟩, .string ⟨#[49, 47, 45, 50]⟩, .string ⟨#[49, 47, 50, 47, 51]⟩] 9) := ⟨_, rfl⟩
      have HT := Lib.hid (show TxAt wr.heap.size G3 by subst hG3; exact texts_made wr)
      have hbG : Below wr.heap.size wr G3 := by subst hG3; exact (Below.refl _ _).alloc (Nat.le_refl _) _
      go_upto_region 30 with (fail)
      rw [← hG3]
      clear hG3
      replace HE := Lib.hid (HE.out.on hbG)
      replace HB := Lib.hid (below_join HB.out hbG HB.out.size)
      clear hbG
      go_wp2_with (fail)
      go_loopw [20] (fun i wr => ∃ k : Nat, i = .int .i64 (k : Int) ∧ k ≤ 16 ∧ Hid (Below G3.heap.size G3 wr)) (fun i _ => 16 - (intOf i).toNat)
      case atStart => exact ⟨0, rfl, by omega, Lib.hid (Below.refl _ _)⟩
      case round =>
        obtain ⟨k, rfl, hk, HBl⟩ := hrel
        have hkk : ((k : Nat) : Int).toNat = k := by omega
        have HEl := Lib.hid (HE.out.on HBl.out)
        have HTl := Lib.hid (HT.out.on HBl.out)
        by_cases hlt : k < 16
        · have hlt' : ((k : Nat) : Int) < 16 := by omega
          obtain ⟨l, y1, y2, y3⟩ := HTl.out.2 k hlt
          go_wp2_with (fail)
          go_at_call 15
          refine (c_Read l y3 _ HEl.out.1 HEl.out.2.2).mono ?_
          intro e v1 h; rw [y2] at h; obtain ⟨rfl, b1⟩ := res_none h; clear h y1
          have HB1 := Lib.hid (below_join HBl.out b1 HBl.out.size); clear b1
          go_wp2_with (fail)
          refine ⟨⟨_, _, _, _, _, _, _, _, _, _, _, _, _, _, _, _, _, _, _, ?rel, rfl⟩, ?measure⟩
          case rel => exact ⟨k + 1, by go_num, by omega, HB1⟩
          case measure => show 16 - (intOf (Value.int .i64 ((k : Int) + 1))).toNat < 16 - (intOf (Value.int .i64 (k : Int))).toNat; simp only [intOf]; omega
        obtain rfl : k = 16 := by omega
        clear hkk hlt hk HTl HT
        replace HB := Lib.hid (below_join HB.out HBl.out HB.out.size)
        clear HE
        have HE := HEl
        clear HEl HBl
        go_wp2_with (fail)
        go_at_call 13
        refine (show Calls Tryz.prog 13 _ _ (RatPost kP _) from v_Of 314159 100000 (by omega) (by omega) (by omega) (by omega) (by omega) _ HE.out).mono ?_
        rintro e w15 ⟨v15, rfl, hv15, hb15⟩
        obtain ⟨A15, c15, B15, d15, rfl⟩ := hv15.open
        replace HE := Lib.hid (HE.out.on hb15)
        replace HB := Lib.hid (below_join HB.out hb15 HB.out.size)
        clear hb15
        obtain ⟨W15, hW15⟩ : ∃ W, W = w15.alloc (.cells #[.bool (qneg kP), (.slice A15 (nat kP.num.natAbs).length c15), (.slice B15 (nat kP.den).length d15)] 25) := ⟨_, rfl⟩
        have hbW15 : Below w15.heap.size w15 W15 := by subst hW15; exact (Below.refl _ _).alloc (Nat.le_refl _) _
        have HXpi := Lib.hid (show Bq W15 w15.heap.size kP (.slice A15 (nat kP.num.natAbs).length c15) (.slice B15 (nat kP.den).length d15) by subst hW15; exact Bq.new hv15)
        clear hv15
        go_wp2_with (fail)
        rw [← hW15]
        clear hW15
        replace HE := Lib.hid (HE.out.on hbW15)
        replace HB := Lib.hid (below_join HB.out hbW15 HB.out.size)
        clear hbW15
        go_at_call 40
        refine (v_NearestC HE.out HXpi.out.rv 10 (by omega) (by omega) pP.1 pP.2.1 pP.2.2 (by decide +kernel) smAk).mono ?_
        rintro e w16 ⟨v16, rfl, hv16, hb16⟩
        obtain ⟨A16, c16, B16, d16, rfl⟩ := hv16.open
        replace HXpi := Lib.hid (HXpi.out.on hb16)
        replace HE := Lib.hid (HE.out.on hb16)
        replace HB := Lib.hid (below_join HB.out hb16 HB.out.size)
        clear hb16
        obtain ⟨W16, hW16⟩ : ∃ W, W = w16.alloc (.cells #[.bool (qneg kA), (.slice A16 (nat kA.num.natAbs).length c16), (.slice B16 (nat kA.den).length d16)] 25) := ⟨_, rfl⟩
        have hbW16 : Below w16.heap.size w16 W16 := by subst hW16; exact (Below.refl _ _).alloc (Nat.le_refl _) _
        have HXna := Lib.hid (show Bq W16 w16.heap.size kA (.slice A16 (nat kA.num.natAbs).length c16) (.slice B16 (nat kA.den).length d16) by subst hW16; exact Bq.new hv16)
        clear hv16
        obtain ⟨ppi_16, rpi_16, upi_16⟩ := HXpi.out.cellsA
        go_wp2_with (fail)
        clear ppi_16 rpi_16 upi_16
        rw [← hW16]
        clear hW16
        replace HXpi := Lib.hid (HXpi.out.on hbW16)
        replace HE := Lib.hid (HE.out.on hbW16)
        replace HB := Lib.hid (below_join HB.out hbW16 HB.out.size)
        clear hbW16
        go_at_call 40
        refine (v_NearestC HE.out HXpi.out.rv 1000 (by omega) (by omega) pP.1 pP.2.1 pP.2.2 (by decide +kernel) smBbk).mono ?_
        rintro e w17 ⟨v17, rfl, hv17, hb17⟩
        obtain ⟨A17, c17, B17, d17, rfl⟩ := hv17.open
        replace HXpi := Lib.hid (HXpi.out.on hb17)
        replace HXna := Lib.hid (HXna.out.on hb17)
        replace HE := Lib.hid (HE.out.on hb17)
        replace HB := Lib.hid (below_join HB.out hb17 HB.out.size)
        clear hb17
        obtain ⟨W17, hW17⟩ : ∃ W, W = w17.alloc (.cells #[.bool (qneg kBb), (.slice A17 (nat kBb.num.natAbs).length c17), (.slice B17 (nat kBb.den).length d17)] 25) := ⟨_, rfl⟩
        have hbW17 : Below w17.heap.size w17 W17 := by subst hW17; exact (Below.refl _ _).alloc (Nat.le_refl _) _
        have HXnb := Lib.hid (show Bq W17 w17.heap.size kBb (.slice A17 (nat kBb.num.natAbs).length c17) (.slice B17 (nat kBb.den).length d17) by subst hW17; exact Bq.new hv17)
        clear hv17
        obtain ⟨ppi_17, rpi_17, upi_17⟩ := HXpi.out.cellsA
        go_wp2_with (fail)
        clear ppi_17 rpi_17 upi_17
        rw [← hW17]
        clear hW17
        replace HXpi := Lib.hid (HXpi.out.on hbW17)
        replace HXna := Lib.hid (HXna.out.on hbW17)
        replace HE := Lib.hid (HE.out.on hbW17)
        replace HB := Lib.hid (below_join HB.out hbW17 HB.out.size)
        clear hbW17
        go_at_call 40
        refine (near_none HE.out HXpi.out.rv).mono ?_
        rintro e w18 ⟨rfl, hb18⟩
        replace HXpi := Lib.hid (HXpi.out.on hb18)
        replace HXna := Lib.hid (HXna.out.on hb18)
        replace HXnb := Lib.hid (HXnb.out.on hb18)
        replace HE := Lib.hid (HE.out.on hb18)
        replace HB := Lib.hid (below_join HB.out hb18 HB.out.size)
        clear hb18
        go_wp2_with (fail)
        go_at_call 42
        refine (c_small (-1) 2 (by omega) (by omega) (by omega) (by omega) _).mono ?_
        rintro e w19 ⟨v19, rfl, hv19, hb19⟩
        replace HXpi := Lib.hid (HXpi.out.on hb19)
        replace HXna := Lib.hid (HXna.out.on hb19)
        replace HXnb := Lib.hid (HXnb.out.on hb19)
        replace HE := Lib.hid (HE.out.on hb19)
        replace HB := Lib.hid (below_join HB.out hb19 HB.out.size)
        have HVh := Lib.hid (show Rv w19 v19 kH from hv19)
        clear hv19 hb19
        go_wp2_with (fail)
        go_at_call 40
        refine (v_NearestC HE.out HVh.out 1 (by omega) (by omega) pH.1 pH.2.1 pH.2.2 (by decide +kernel) smCk).mono ?_
        rintro e w20 ⟨v20, rfl, hv20, hb20⟩
        obtain ⟨A20, c20, B20, d20, rfl⟩ := hv20.open
        replace HXpi := Lib.hid (HXpi.out.on hb20)
        replace HXna := Lib.hid (HXna.out.on hb20)
        replace HXnb := Lib.hid (HXnb.out.on hb20)
        replace HE := Lib.hid (HE.out.on hb20)
        replace HB := Lib.hid (below_join HB.out hb20 HB.out.size)
        clear hb20
        obtain ⟨W20, hW20⟩ : ∃ W, W = w20.alloc (.cells #[.bool (qneg kC), (.slice A20 (nat kC.num.natAbs).length c20), (.slice B20 (nat kC.den).length d20)] 25) := ⟨_, rfl⟩
        have hbW20 : Below w20.heap.size w20 W20 := by subst hW20; exact (Below.refl _ _).alloc (Nat.le_refl _) _
        have HXnc := Lib.hid (show Bq W20 w20.heap.size kC (.slice A20 (nat kC.num.natAbs).length c20) (.slice B20 (nat kC.den).length d20) by subst hW20; exact Bq.new hv20)
        clear hv20
        clear HVh
        go_wp2_with (fail)
        rw [← hW20]
        clear hW20
        replace HXpi := Lib.hid (HXpi.out.on hbW20)
        replace HXna := Lib.hid (HXna.out.on hbW20)
        replace HXnb := Lib.hid (HXnb.out.on hbW20)
        replace HE := Lib.hid (HE.out.on hbW20)
        replace HB := Lib.hid (below_join HB.out hbW20 HB.out.size)
        clear hbW20
        go_at_call 42
        refine (c_small (31) 10 (by omega) (by omega) (by omega) (by omega) _).mono ?_
        rintro e w21 ⟨v21, rfl, hv21, hb21⟩
        replace HXpi := Lib.hid (HXpi.out.on hb21)
        replace HXna := Lib.hid (HXna.out.on hb21)
        replace HXnb := Lib.hid (HXnb.out.on hb21)
        replace HXnc := Lib.hid (HXnc.out.on hb21)
        replace HE := Lib.hid (HE.out.on hb21)
        replace HB := Lib.hid (below_join HB.out hb21 HB.out.size)
        have HVa := Lib.hid (show Rv w21 v21 k31 from hv21)
        clear hv21 hb21
        go_wp2_with (fail)
        go_at_call 42
        refine (c_small (22) 7 (by omega) (by omega) (by omega) (by omega) _).mono ?_
        rintro e w22 ⟨v22, rfl, hv22, hb22⟩
        replace HXpi := Lib.hid (HXpi.out.on hb22)
        replace HXna := Lib.hid (HXna.out.on hb22)
        replace HXnb := Lib.hid (HXnb.out.on hb22)
        replace HXnc := Lib.hid (HXnc.out.on hb22)
        replace HVa := Lib.hid (HVa.out.on hb22)
        replace HE := Lib.hid (HE.out.on hb22)
        replace HB := Lib.hid (below_join HB.out hb22 HB.out.size)
        have HVb := Lib.hid (show Rv w22 v22 k22 from hv22)
        clear hv22 hb22
        go_wp2_with (fail)
        go_at_call 38
        refine (v_Simp le1 sim1 smAk HE.out HVa.out HVb.out).mono ?_
        rintro e w23 ⟨v23, rfl, hv23, hb23⟩
        obtain ⟨A23, c23, B23, d23, rfl⟩ := hv23.open
        replace HXpi := Lib.hid (HXpi.out.on hb23)
        replace HXna := Lib.hid (HXna.out.on hb23)
        replace HXnb := Lib.hid (HXnb.out.on hb23)
        replace HXnc := Lib.hid (HXnc.out.on hb23)
        replace HE := Lib.hid (HE.out.on hb23)
        replace HB := Lib.hid (below_join HB.out hb23 HB.out.size)
        clear hb23
        obtain ⟨W23, hW23⟩ : ∃ W, W = w23.alloc (.cells #[.bool (qneg kA), (.slice A23 (nat kA.num.natAbs).length c23), (.slice B23 (nat kA.den).length d23)] 25) := ⟨_, rfl⟩
        have hbW23 : Below w23.heap.size w23 W23 := by subst hW23; exact (Below.refl _ _).alloc (Nat.le_refl _) _
        have HXsa := Lib.hid (show Bq W23 w23.heap.size kA (.slice A23 (nat kA.num.natAbs).length c23) (.slice B23 (nat kA.den).length d23) by subst hW23; exact Bq.new hv23)
        clear hv23
        clear HVa
        clear HVb
        go_wp2_with (fail)
        rw [← hW23]
        clear hW23
        replace HXpi := Lib.hid (HXpi.out.on hbW23)
        replace HXna := Lib.hid (HXna.out.on hbW23)
        replace HXnb := Lib.hid (HXnb.out.on hbW23)
        replace HXnc := Lib.hid (HXnc.out.on hbW23)
        replace HE := Lib.hid (HE.out.on hbW23)
        replace HB := Lib.hid (below_join HB.out hbW23 HB.out.size)
        clear hbW23
        have HBd := Lib.hid (Below.drew (Below.refl W23.heap.size W23))
        go_region_held3 (fun X => X.cell? ⟨w15.heap.size, 0, none⟩ = some (.bool (qneg kP)) ∧ X.cell? ⟨w15.heap.size, 1, none⟩ = some (.slice A15 (nat kP.num.natAbs).length c15) ∧ X.cell? ⟨w15.heap.size, 2, none⟩ = some (.slice B15 (nat kP.den).length d15))
          (first | exact (HXpi.out.on HBb.out).cells | exact (HXpi.out.on HBa.out).cells | exact (HXpi.out.on HBd.out).cells | exact HXpi.out.cells)
          (first
            | (go_at_call 42; (with_reducible refine (c_small 3 1 (by omega) (by omega) (by omega) (by omega) _).mono ?_); rintro e wa ⟨va, rfl, hva, ba⟩; have HVa := Lib.hid hva; have HBa := Lib.hid (below_join HBd.out ba HBd.out.size); clear hva ba)
            | (go_at_call 38; (with_reducible refine (simp_none (HE.out.on HBa.out) (HXpi.out.on HBa.out).rv HVa.out).mono ?_); rintro e wb ⟨rfl, bb⟩; have HBb := Lib.hid (below_join HBa.out bb HBa.out.size); clear bb)
            | fail)
        replace HXpi := Lib.hid (HXpi.out.on HBb.out)
        replace HXna := Lib.hid (HXna.out.on HBb.out)
        replace HXnb := Lib.hid (HXnb.out.on HBb.out)
        replace HXnc := Lib.hid (HXnc.out.on HBb.out)
        replace HXsa := Lib.hid (HXsa.out.on HBb.out)
        replace HE := Lib.hid (HE.out.on HBb.out)
        replace HB := Lib.hid (below_join HB.out HBb.out HB.out.size)
        clear HBd HBa HBb HVa
        go_wp2_with (fail)
        go_at_call 42
        refine (c_small (-7) 2 (by omega) (by omega) (by omega) (by omega) _).mono ?_
        rintro e w24 ⟨v24, rfl, hv24, hb24⟩
        replace HXpi := Lib.hid (HXpi.out.on hb24)
        replace HXna := Lib.hid (HXna.out.on hb24)
        replace HXnb := Lib.hid (HXnb.out.on hb24)
        replace HXnc := Lib.hid (HXnc.out.on hb24)
        replace HXsa := Lib.hid (HXsa.out.on hb24)
        replace HE := Lib.hid (HE.out.on hb24)
        replace HB := Lib.hid (below_join HB.out hb24 HB.out.size)
        have HVa := Lib.hid (show Rv w24 v24 k7 from hv24)
        clear hv24 hb24
        go_wp2_with (fail)
        go_at_call 42
        refine (c_small (-5) 2 (by omega) (by omega) (by omega) (by omega) _).mono ?_
        rintro e w25 ⟨v25, rfl, hv25, hb25⟩
        replace HXpi := Lib.hid (HXpi.out.on hb25)
        replace HXna := Lib.hid (HXna.out.on hb25)
        replace HXnb := Lib.hid (HXnb.out.on hb25)
        replace HXnc := Lib.hid (HXnc.out.on hb25)
        replace HXsa := Lib.hid (HXsa.out.on hb25)
        replace HVa := Lib.hid (HVa.out.on hb25)
        replace HE := Lib.hid (HE.out.on hb25)
        replace HB := Lib.hid (below_join HB.out hb25 HB.out.size)
        have HVb := Lib.hid (show Rv w25 v25 k5 from hv25)
        clear hv25 hb25
        go_wp2_with (fail)
        go_at_call 38
        refine (v_Simp le2 sim2 smYk HE.out HVa.out HVb.out).mono ?_
        rintro e w26 ⟨v26, rfl, hv26, hb26⟩
        obtain ⟨A26, c26, B26, d26, rfl⟩ := hv26.open
        replace HXpi := Lib.hid (HXpi.out.on hb26)
        replace HXna := Lib.hid (HXna.out.on hb26)
        replace HXnb := Lib.hid (HXnb.out.on hb26)
        replace HXnc := Lib.hid (HXnc.out.on hb26)
        replace HXsa := Lib.hid (HXsa.out.on hb26)
        replace HE := Lib.hid (HE.out.on hb26)
        replace HB := Lib.hid (below_join HB.out hb26 HB.out.size)
        clear hb26
        obtain ⟨W26, hW26⟩ : ∃ W, W = w26.alloc (.cells #[.bool (qneg kY), (.slice A26 (nat kY.num.natAbs).length c26), (.slice B26 (nat kY.den).length d26)] 25) := ⟨_, rfl⟩
        have hbW26 : Below w26.heap.size w26 W26 := by subst hW26; exact (Below.refl _ _).alloc (Nat.le_refl _) _
        have HXsb := Lib.hid (show Bq W26 w26.heap.size kY (.slice A26 (nat kY.num.natAbs).length c26) (.slice B26 (nat kY.den).length d26) by subst hW26; exact Bq.new hv26)
        clear hv26
        clear HVa
        clear HVb
        obtain ⟨pna_26, rna_26, una_26⟩ := HXna.out.cellsA
        go_wp2_with (fail)
        clear pna_26 rna_26 una_26
        rw [← hW26]
        clear hW26
        replace HXpi := Lib.hid (HXpi.out.on hbW26)
        replace HXna := Lib.hid (HXna.out.on hbW26)
        replace HXnb := Lib.hid (HXnb.out.on hbW26)
        replace HXnc := Lib.hid (HXnc.out.on hbW26)
        replace HXsa := Lib.hid (HXsa.out.on hbW26)
        replace HE := Lib.hid (HE.out.on hbW26)
        replace HB := Lib.hid (below_join HB.out hbW26 HB.out.size)
        clear hbW26
        go_at_call 20
        refine (v_TextAt HE.out HXna.out.rv pA.1 pA.2.1 pA.2.2 txAk).mono ?_
        rintro e w27 ⟨rfl, hb27⟩
        replace HXpi := Lib.hid (HXpi.out.on hb27)
        replace HXna := Lib.hid (HXna.out.on hb27)
        replace HXnb := Lib.hid (HXnb.out.on hb27)
        replace HXnc := Lib.hid (HXnc.out.on hb27)
        replace HXsa := Lib.hid (HXsa.out.on hb27)
        replace HXsb := Lib.hid (HXsb.out.on hb27)
        replace HE := Lib.hid (HE.out.on hb27)
        replace HB := Lib.hid (below_join HB.out hb27 HB.out.size)
        clear hb27
        obtain ⟨pnb_27, rnb_27, unb_27⟩ := HXnb.out.cells
        go_wp2_with (fail)
        clear pnb_27 rnb_27 unb_27
        go_at_call 20
        refine (v_TextAt HE.out HXnb.out.rv pBb.1 pBb.2.1 pBb.2.2 txBbk).mono ?_
        rintro e w28 ⟨rfl, hb28⟩
        replace HXpi := Lib.hid (HXpi.out.on hb28)
        replace HXna := Lib.hid (HXna.out.on hb28)
        replace HXnb := Lib.hid (HXnb.out.on hb28)
        replace HXnc := Lib.hid (HXnc.out.on hb28)
        replace HXsa := Lib.hid (HXsa.out.on hb28)
        replace HXsb := Lib.hid (HXsb.out.on hb28)
        replace HE := Lib.hid (HE.out.on hb28)
        replace HB := Lib.hid (below_join HB.out hb28 HB.out.size)
        clear hb28
        obtain ⟨pnc_28, rnc_28, unc_28⟩ := HXnc.out.cells
        go_wp2_with (fail)
        clear pnc_28 rnc_28 unc_28
        go_at_call 20
        refine (v_TextAt HE.out HXnc.out.rv pC.1 pC.2.1 pC.2.2 txCk).mono ?_
        rintro e w29 ⟨rfl, hb29⟩
        replace HXpi := Lib.hid (HXpi.out.on hb29)
        replace HXna := Lib.hid (HXna.out.on hb29)
        replace HXnb := Lib.hid (HXnb.out.on hb29)
        replace HXnc := Lib.hid (HXnc.out.on hb29)
        replace HXsa := Lib.hid (HXsa.out.on hb29)
        replace HXsb := Lib.hid (HXsb.out.on hb29)
        replace HE := Lib.hid (HE.out.on hb29)
        replace HB := Lib.hid (below_join HB.out hb29 HB.out.size)
        clear hb29
        obtain ⟨psa_29, rsa_29, usa_29⟩ := HXsa.out.cells
        go_wp2_with (fail)
        clear psa_29 rsa_29 usa_29
        go_at_call 20
        refine (v_TextAt HE.out HXsa.out.rv pA.1 pA.2.1 pA.2.2 txAk).mono ?_
        rintro e w30 ⟨rfl, hb30⟩
        replace HXpi := Lib.hid (HXpi.out.on hb30)
        replace HXna := Lib.hid (HXna.out.on hb30)
        replace HXnb := Lib.hid (HXnb.out.on hb30)
        replace HXnc := Lib.hid (HXnc.out.on hb30)
        replace HXsa := Lib.hid (HXsa.out.on hb30)
        replace HXsb := Lib.hid (HXsb.out.on hb30)
        replace HE := Lib.hid (HE.out.on hb30)
        replace HB := Lib.hid (below_join HB.out hb30 HB.out.size)
        clear hb30
        obtain ⟨psb_30, rsb_30, usb_30⟩ := HXsb.out.cells
        go_wp2_with (fail)
        clear psb_30 rsb_30 usb_30
        go_at_call 20
        refine (v_TextAt HE.out HXsb.out.rv pY.1 pY.2.1 pY.2.2 txYk).mono ?_
        rintro e w31 ⟨rfl, hb31⟩
        replace HXpi := Lib.hid (HXpi.out.on hb31)
        replace HXna := Lib.hid (HXna.out.on hb31)
        replace HXnb := Lib.hid (HXnb.out.on hb31)
        replace HXnc := Lib.hid (HXnc.out.on hb31)
        replace HXsa := Lib.hid (HXsa.out.on hb31)
        replace HXsb := Lib.hid (HXsb.out.on hb31)
        replace HE := Lib.hid (HE.out.on hb31)
        replace HB := Lib.hid (below_join HB.out hb31 HB.out.size)
        clear hb31
        go_wp2_with (fail)
        go_at_call 23
        refine (c_works _ HE.out).mono ?_
        rintro e w32 ⟨rfl, hb32⟩
        replace HXpi := Lib.hid (HXpi.out.on hb32)
        replace HXna := Lib.hid (HXna.out.on hb32)
        replace HXnb := Lib.hid (HXnb.out.on hb32)
        replace HXnc := Lib.hid (HXnc.out.on hb32)
        replace HXsa := Lib.hid (HXsa.out.on hb32)
        replace HXsb := Lib.hid (HXsb.out.on hb32)
        replace HE := Lib.hid (HE.out.on hb32)
        replace HB := Lib.hid (below_join HB.out hb32 HB.out.size)
        clear hb32
        go_wp2_with (fail)
        go_ret
        exact ⟨rfl, HB.out⟩
end Go.Proofs.YtfdkdloldjfnjaaGreatDoor
