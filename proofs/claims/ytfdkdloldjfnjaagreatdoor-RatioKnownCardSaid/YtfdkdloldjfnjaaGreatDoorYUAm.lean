/-
  DERIVED. Several texts in one.
-/
import Derived.Test.YtfdkdloldjfnjaaGreatDoorYRJm
set_option linter.unusedVariables false
set_option linter.unusedSimpArgs false

/- DERIVED. The reference's comparisons: Compare, SameNat, Same; the law's equal. -/
namespace Go.Proofs.YtfdkdloldjfnjaaGreatDoor
open Go.RowKit
set_option maxRecDepth 100000

/-- How the reference compares limbs: by their number first. -/
def cmpL (a b : List Nat) : Int := if a.length < b.length then -1 else if b.length < a.length then 1 else cmpI (val a) (val b)
theorem cmpL_can {a b : List Nat} (ha : Can a) (hb : Can b) : cmpL a b = cmpI (val a) (val b) := by
  unfold cmpL
  by_cases h1 : a.length < b.length
  · rw [if_pos h1, cmpI_lt (len_lt ha.1 hb h1)]
  · rw [if_neg h1]
    by_cases h2 : b.length < a.length
    · rw [if_pos h2, cmpI_gt (len_lt hb.1 ha h2)]
    · rw [if_neg h2]
theorem cmpL_zero {a b : List Nat} (ha : Lb a) (hb : Lb b) : cmpL a b = 0 ↔ a = b := by
  unfold cmpL
  constructor
  · intro h
    by_cases h1 : a.length < b.length
    · rw [if_pos h1] at h; cases h
    · rw [if_neg h1] at h
      by_cases h2 : b.length < a.length
      · rw [if_pos h2] at h; cases h
      · rw [if_neg h2] at h
        refine val_inj ha hb (by omega) ?_
        unfold cmpI at h
        split at h
        · cases h
        · split at h
          · cases h
          · omega
  · rintro rfl
    rw [if_neg (Nat.lt_irrefl _), if_neg (Nat.lt_irrefl _), cmpI_eq]

set_option maxHeartbeats 4000000 in
theorem c_eCompare (a b : List Nat) (ha : Lb a) (hb : Lb b) (va vb : Value) (ok ok' : Nat → Prop) (w : World) (h : NatSl w ok va a) (k : NatSl w ok' vb b) :
    Calls Tryz.prog 99 #[va, vb] w (CmpPost (cmpL a b) w) := by
  obtain ⟨A, c, rfl, h2, h3, h4⟩ := id h
  obtain ⟨B, d, rfl, k2, k3, k4⟩ := id k
  have HA := Lib.hid h
  have HB := Lib.hid k
  have CA := Lib.hid ha
  have CB := Lib.hid hb
  unfold maxLen at h3 k3
  clear h k h4 k4 ha hb
  by_cases hl : a.length = b.length
  · have hne : (((a.length : Nat) : Int) != ((b.length : Nat) : Int)) = false := by rw [bne_eq_false_iff_eq]; omega
    have hcl : cmpL a b = cmpI (val a) (val b) := by unfold cmpL; rw [if_neg (by omega), if_neg (by omega)]
    rw [hcl]
    clear hcl
    have HL := Lib.hid hl
    clear hl
    go_enter Tryz.func99, Tryz.ntmps99
    go_wp2_with (fail)
    go_loopw [5] (fun i wr => ∃ (k n : Nat), k ≤ a.length ∧ i = .int .i64 ((k : Int) - 1) ∧ Hid (a.drop k = b.drop k) ∧ wr = w.drewN n) (fun i wr => (intOf i + 1).toNat)
    case atStart => exact ⟨a.length, 0, Nat.le_refl _, rfl, Lib.hid (by rw [List.drop_of_length_le (Nat.le_refl _), HL.out, List.drop_of_length_le (Nat.le_refl _)]), rfl⟩
    case round =>
      obtain ⟨k, n, hk, rfl, hd, rfl⟩ := hrel
      by_cases h0 : 0 < k
      · obtain ⟨b1, o1, c1, e1, -, -, -, g1⟩ := HA.out.at_ (i := k - 1) (by omega)
        obtain ⟨b2, o2, c2, e2, -, -, -, g2⟩ := HB.out.at_ (i := k - 1) (by have := HL.out; omega)
        injection e1 with e1 _ e1'
        injection e2 with e2 _ e2'
        subst e1 e1' e2 e2'
        have q1 := g1 (k - 1) (by omega)
        have q2 := g2 (k - 1) (by have := HL.out; omega)
        have hko : ((k : Int) - 1).toNat = k - 1 := by omega
        have hk0 : 0 ≤ (k : Int) - 1 := by omega
        have hk1 : (k : Int) - 1 < (a.length : Nat) := by omega
        have hk2 : (k : Int) - 1 < (b.length : Nat) := by have := HL.out; omega
        clear g1 g2
        generalize hx : a.getD (k - 1) 0 = x at q1
        generalize hy : b.getD (k - 1) 0 = y at q2
        have HX := Lib.hid hx
        have HY := Lib.hid hy
        clear hx hy
        rcases Nat.lt_trichotomy x y with hlt | hxy | hlt
        · have hn1 : (x : Int) < (y : Int) := by omega
          have hc : cmpI (val a) (val b) = -1 := cmpI_lt (cmp_lt CA.out HL.out (i := k - 1) (by omega) (by rw [show k - 1 + 1 = k by omega]; exact hd.out) (by rw [HX.out, HY.out]; exact hlt))
          rw [hc]
          clear hc
          go_wp2_with (fail)
          go_quiet (fail)
          go_wp2_with (fail)
          go_ret
          exact ⟨rfl, _, (by first | (rw [World.drewN_drewN, World.drewN_drewN]) | (rw [World.drewN_drewN]))⟩
        · have hn1 : ¬ (x : Int) < (y : Int) := by omega
          have hn2 : ¬ (y : Int) < (x : Int) := by omega
          have HXY := Lib.hid hxy
          clear hxy
          go_wp2_with (fail)
          go_quiet (fail)
          go_wp2_with (fail)
          go_quiet (fail)
          go_wp2_with (fail)
          go_roundw
          case rel => exact ⟨k - 1, _, by omega, by go_num, Lib.hid (by
            rw [List.drop_eq_getElem_cons (show k - 1 < a.length by omega), List.drop_eq_getElem_cons (show k - 1 < b.length by have := HL.out; omega), show k - 1 + 1 = k by omega, hd.out]
            congr 1
            have e1 := HX.out
            have e2 := HY.out
            rw [List.getD_eq_getElem?_getD, List.getElem?_eq_getElem (show k - 1 < a.length by omega)] at e1
            rw [List.getD_eq_getElem?_getD, List.getElem?_eq_getElem (show k - 1 < b.length by have := HL.out; omega)] at e2
            have := HXY.out
            simp at e1 e2; omega), rfl⟩
          case measure => simp [intOf]; omega
        · have hn1 : ¬ (x : Int) < (y : Int) := by omega
          have hn2 : (y : Int) < (x : Int) := by omega
          have hc : cmpI (val a) (val b) = 1 := cmpI_gt (cmp_lt CB.out HL.out.symm (i := k - 1) (by have := HL.out; omega) (by rw [show k - 1 + 1 = k by omega]; exact hd.out.symm) (by rw [HX.out, HY.out]; exact hlt))
          rw [hc]
          clear hc
          go_wp2_with (fail)
          go_quiet (fail)
          go_wp2_with (fail)
          go_quiet (fail)
          go_wp2_with (fail)
          go_ret
          exact ⟨rfl, _, (by first | (rw [World.drewN_drewN, World.drewN_drewN]) | (rw [World.drewN_drewN]))⟩
      · obtain rfl : k = 0 := by omega
        have hz : val a = val b := by have := hd.out; simp only [List.drop_zero] at this; rw [this]
        have hc : cmpI (val a) (val b) = 0 := by rw [hz, cmpI_eq]
        have HC := Lib.hid hc
        clear hc hz
        go_wp2_with (fail)
        go_ret
        exact ⟨ret_nat HC.out.symm, n, rfl⟩
  · have hne : (((a.length : Nat) : Int) != ((b.length : Nat) : Int)) = true := by rw [bne_iff_ne]; omega
    by_cases hlt : a.length < b.length
    · have hc : cmpL a b = -1 := by unfold cmpL; rw [if_pos hlt]
      rw [hc]
      go_enter Tryz.func99, Tryz.ntmps99
      go_wp2_with (fail)
      go_ret
      exact ⟨rfl, 0, rfl⟩
    · have hc : cmpL a b = 1 := by unfold cmpL; rw [if_neg hlt, if_pos (by omega)]
      rw [hc]
      go_enter Tryz.func99, Tryz.ntmps99
      go_wp2_with (fail)
      go_ret
      exact ⟨rfl, 0, rfl⟩

theorem below_draws {B : Nat} {w w' : World} (h : ∃ n, w' = w.drewN n) : Below B w w' := by
  obtain ⟨n, rfl⟩ := h
  exact ⟨rfl, rfl, rfl, Nat.le_refl _, fun _ _ => rfl⟩
set_option maxHeartbeats 2000000 in
theorem c_eSameNat (a b : List Nat) (ha : Lb a) (hb : Lb b) (r : Bool) (hr : decide (a = b) = r) (va vb : Value) (ok ok' : Nat → Prop) (w : World) (h : NatSl w ok va a) (k : NatSl w ok' vb b) :
    Calls Tryz.prog 59 #[va, vb] w fun e w' => e = .returned (.bool r) ∧ ∃ n, w' = w.drewN n := by
  have HC := Lib.hid (c_eCompare a b ha hb va vb ok ok' w h k)
  have HZ := Lib.hid (cmpL_zero ha hb)
  obtain ⟨A, c, rfl, h2, h3, h4⟩ := h
  obtain ⟨B, d, rfl, k2, k3, k4⟩ := k
  clear h4 k4 ha hb
  by_cases hl : a.length = b.length
  · have hne : (((a.length : Nat) : Int) == ((b.length : Nat) : Int)) = true := by rw [beq_iff_eq]; omega
    clear hl
    by_cases hab : a = b
    · have hc : cmpL a b = 0 := HZ.out.2 hab
      clear HZ
      rw [hc] at HC
      rw [decide_eq_true hab] at hr
      subst hr
      clear hc hab
      go_enter Tryz.func59, Tryz.ntmps59
      go_wp2_with (go_at_call 99; refine HC.out.mono ?_; rintro e w1 ⟨rfl, n, rfl⟩)
      go_ret
      exact ⟨rfl, n, rfl⟩
    · have hc : cmpL a b ≠ 0 := fun h => hab (HZ.out.1 h)
      generalize cmpL a b = z at *
      have hz : (z == 0) = false := by rw [beq_eq_false_iff_ne]; exact hc
      rw [decide_eq_false hab] at hr
      subst hr
      clear hc hab
      go_enter Tryz.func59, Tryz.ntmps59
      go_wp2_with (go_at_call 99; refine HC.out.mono ?_; rintro e w1 ⟨rfl, n, rfl⟩)
      go_ret
      exact ⟨rfl, n, rfl⟩
  · have hne : (((a.length : Nat) : Int) == ((b.length : Nat) : Int)) = false := by rw [beq_eq_false_iff_ne]; omega
    have hab : ¬ a = b := fun h => hl (by rw [h])
    rw [decide_eq_false hab] at hr
    subst hr
    clear hab HC
    go_enter Tryz.func59, Tryz.ntmps59
    go_wp2_with (fail)
    go_ret
    exact ⟨rfl, 0, rfl⟩
end Go.Proofs.YtfdkdloldjfnjaaGreatDoor

/- DERIVED. The reference's Same, the law's equal. -/
namespace Go.Proofs.YtfdkdloldjfnjaaGreatDoor
open Go.RowKit
set_option maxRecDepth 100000

/-- Some limbs in memory, not cut to a fraction's size. -/
def Ls (w : World) (v : Value) (a : List Nat) : Prop := NatSl w (fun i => i < w.heap.size) v a ∧ Lb a
theorem Ls.on {w w' : World} {v : Value} {a : List Nat} (h : Ls w v a) (hb : Below w.heap.size w w') : Ls w' v a :=
  ⟨h.1.below hb (fun i hi => ⟨hi, Nat.lt_of_lt_of_le hi hb.size⟩), h.2⟩
set_option maxHeartbeats 4000000 in
theorem c_eSame (s t : Bool) (a b c d : List Nat) (r : Bool) (hr : decide (s = t ∧ a = c ∧ b = d) = r) (va vb vc vd : Value) (w : World) (h1 : Ls w va a) (h2 : Ls w vb b) (h3 : Ls w vc c) (h4 : Ls w vd d) :
    Calls Tryz.prog 22 #[.agg #[.bool s, va, vb], .agg #[.bool t, vc, vd]] w fun e w' => e = .returned (.bool r) ∧ Below w.heap.size w w' := by
  have H1 := Lib.hid (fun (X : World) (x : Bool) (hx : decide (a = c) = x) (hX : Below w.heap.size w X) => c_eSameNat a c h1.2 h3.2 x hx va vc _ _ X (h1.on hX).1 (h3.on hX).1)
  have H2 := Lib.hid (fun (X : World) (x : Bool) (hx : decide (b = d) = x) (hX : Below w.heap.size w X) => c_eSameNat b d h2.2 h4.2 x hx vb vd _ _ X (h2.on hX).1 (h4.on hX).1)
  have HB := Lib.hid (below_two w (.cells #[.bool s, va, vb] 25) (.cells #[.bool t, vc, vd] 25))
  clear h1 h2 h3 h4
  by_cases hs : s = t
  · subst hs
    by_cases ha : a = c
    · by_cases hb : b = d
      · rw [decide_eq_true ⟨rfl, ha, hb⟩] at hr
        subst hr
        have HA := Lib.hid (decide_eq_true ha)
        have HD := Lib.hid (decide_eq_true hb)
        clear ha hb
        go_enter Tryz.func22, Tryz.ntmps22
        go_wp2_with (fail)
        go_at_call 59
        refine (H1.out _ true HA.out HB.out).mono ?_
        rintro e w1 ⟨rfl, n, rfl⟩
        go_wp2_with (fail)
        go_at_call 59
        refine (H2.out _ true HD.out (below_drewN HB.out n)).mono ?_
        rintro e w1 ⟨rfl, m, rfl⟩
        go_wp2_with (fail)
        go_ret
        exact ⟨rfl, by first | exact below_drewN HB.out (n + m) | exact below_drewN (below_drewN HB.out n) m⟩
      · rw [decide_eq_false (fun h => hb h.2.2)] at hr
        subst hr
        have HA := Lib.hid (decide_eq_true ha)
        have HD := Lib.hid (decide_eq_false hb)
        clear ha hb
        go_enter Tryz.func22, Tryz.ntmps22
        go_wp2_with (fail)
        go_at_call 59
        refine (H1.out _ true HA.out HB.out).mono ?_
        rintro e w1 ⟨rfl, n, rfl⟩
        go_wp2_with (fail)
        go_at_call 59
        refine (H2.out _ false HD.out (below_drewN HB.out n)).mono ?_
        rintro e w1 ⟨rfl, m, rfl⟩
        go_wp2_with (fail)
        go_ret
        exact ⟨rfl, by first | exact below_drewN HB.out (n + m) | exact below_drewN (below_drewN HB.out n) m⟩
    · rw [decide_eq_false (fun h => ha h.2.1)] at hr
      subst hr
      have HA := Lib.hid (decide_eq_false ha)
      clear ha
      go_enter Tryz.func22, Tryz.ntmps22
      go_wp2_with (fail)
      go_at_call 59
      refine (H1.out _ false HA.out HB.out).mono ?_
      rintro e w1 ⟨rfl, n, rfl⟩
      go_wp2_with (fail)
      go_ret
      exact ⟨rfl, below_drewN HB.out n⟩
  · rw [decide_eq_false (fun h => hs h.1)] at hr
    subst hr
    have hne : (s == t) = false := by simpa using hs
    clear hs
    go_enter Tryz.func22, Tryz.ntmps22
    go_wp2_with (fail)
    go_ret
    exact ⟨rfl, HB.out⟩
theorem Rv.ls {w : World} {s : Bool} {va vb : Value} {q : Rat} (h : Rv w (.agg #[.bool s, va, vb]) q) : s = qneg q ∧ Ls w va (nat q.num.natAbs) ∧ Ls w vb (nat q.den) := by
  obtain ⟨a, b, h1, h2, h3⟩ := h.1
  injection h1 with h1
  injection h1 with h1
  simp only [List.cons.injEq, Value.bool.injEq, and_true] at h1
  obtain ⟨rfl, rfl, rfl⟩ := h1
  exact ⟨rfl, ⟨h2, lb_nat _⟩, ⟨h3, lb_nat _⟩⟩
/-- Two fractions of one number are the same. -/
theorem c_equal {x y : Value} {q : Rat} {w : World} (hx : Rv w x q) (hy : Rv w y q) : Calls Tryz.prog 43 #[x, .int .i64 0, y, .int .i64 0] w fun e w' => e = .returned (.bool true) ∧ Below w.heap.size w w' := by
  have HX := Lib.hid hx
  have HY := Lib.hid hy
  obtain ⟨va, vb, rfl, -⟩ := hx.1
  obtain ⟨vc, vd, rfl, -⟩ := hy.1
  have HS := Lib.hid (fun (X : World) (hX : Below w.heap.size w X) => c_eSame (qneg q) (qneg q) _ _ _ _ true (decide_eq_true ⟨rfl, rfl, rfl⟩) va vb vc vd X (HX.out.on hX).ls.2.1 (HX.out.on hX).ls.2.2 (HY.out.on hX).ls.2.1 (HY.out.on hX).ls.2.2)
  have HB := Lib.hid (below_two w (.cells #[.bool (qneg q), va, vb] 25) (.cells #[.bool (qneg q), vc, vd] 25))
  clear hx hy
  go_enter Tryz.func43, Tryz.ntmps43
  go_wp2_with (fail)
  go_at_call 22
  refine (HS.out _ HB.out).mono ?_
  rintro e w1 ⟨rfl, hb1⟩
  go_wp2_with (fail)
  go_ret
  exact ⟨rfl, HB.out.trans (hb1.mono HB.out.size)⟩
end Go.Proofs.YtfdkdloldjfnjaaGreatDoor

/- DERIVED. The reference's Sum and Diff. -/
namespace Go.Proofs.YtfdkdloldjfnjaaGreatDoor
open Go.RowKit
set_option maxRecDepth 100000

/-- Limbs that the call itself gathered, as a slice. -/
theorem own_natSl {w : World} {base n : Nat} {v : Value} {l : List Nat} (h : w.ownsRow base 51 1 v n (u32s l)) (hn : l.length = n) : NatSl w (fun i => base ≤ i ∧ i < w.heap.size) v l := by
  obtain ⟨k1, ⟨rfl, k2⟩ | ⟨g, cap, cur, rfl, k3, k4, k5, k6, k7, k8⟩⟩ := h
  · have : l = [] := List.eq_nil_of_length_eq_zero (by omega)
    subst this
    exact NatSl.nil _ _
  · subst hn
    refine ⟨some ⟨g, 0, none⟩, cap, rfl, k5, k6, fun _ => ⟨g, 0, rfl, ⟨k3, (Array.getElem?_eq_some_iff.1 k4).1⟩, fun j x hj => ?_⟩⟩
    have hr : Row w g l := ⟨cur, k4, by simpa using k8⟩
    rw [Nat.zero_add, hr.cellN (List.getElem?_eq_some_iff.1 hj).1, hj]
    rfl
theorem sum_step {a b u : List Nat} {k c t : Nat} (hu : u.length = k) (hlu : Lb u) (ha : Lb a) (hb : Lb b) (hc : c ≤ 1) (h : val u + BB ^ k * c = val (a.take k) + val (b.take k)) (ht : t = c + a.getD k 0 + b.getD k 0) :
    t < 2 * BB ∧ (u ++ [t % BB]).length = k + 1 ∧ Lb (u ++ [t % BB]) ∧ t / BB ≤ 1 ∧ val (u ++ [t % BB]) + BB ^ (k + 1) * (t / BB) = val (a.take (k + 1)) + val (b.take (k + 1)) := by
  have h1 := lb_get ha k
  have h2 := lb_get hb k
  have h3 : t < 2 * BB := by unfold BB at *; omega
  refine ⟨h3, by simp [hu], lb_append.2 ⟨hlu, lb_cons.2 ⟨Nat.mod_lt _ (by decide), lb_nil⟩⟩, ?_, ?_⟩
  · have := Nat.div_lt_of_lt_mul (show t < BB * 2 by omega)
    omega
  · rw [val_append, hu, val_take_succ, val_take_succ, val_one, Nat.pow_succ]
    have e := Nat.div_add_mod t BB
    generalize a.getD k 0 = x at *
    generalize b.getD k 0 = y at *
    generalize t % BB = r at *
    generalize t / BB = q at *
    generalize BB ^ k = p at *
    generalize val u = U at *
    generalize val (a.take k) = A at *
    generalize val (b.take k) = B at *
    generalize BB = z at *
    have e2 : p * r + p * z * q = p * c + p * x + p * y := by
      rw [Nat.mul_assoc, ← Nat.mul_add, ← Nat.mul_add, ← Nat.mul_add, ← ht, ← e, Nat.add_comm r]
    omega
def SumRel (w : World) (a b : List Nat) (v cv iv : Value) (wr : World) : Prop :=
  ∃ (k c : Nat) (u : List Nat), (k ≤ a.length ∨ k ≤ b.length) ∧ cv = .int .u64 (c : Int) ∧ iv = .int .i64 (k : Int) ∧ u.length = k ∧ Lb u ∧ c ≤ 1 ∧ val u + BB ^ k * c = val (a.take k) + val (b.take k) ∧ wr.ownsRow w.heap.size 51 1 v k (u32s u) ∧ Below w.heap.size w wr
theorem getD_over {l : List Nat} {k : Nat} (h : l.length ≤ k) : l.getD k 0 = 0 := by
  rw [List.getD_eq_getElem?_getD, List.getElem?_eq_none h]; rfl
/-- A cell of limbs that were there before. -/
theorem Ls.cellAt {w wr : World} {v : Value} {l : List Nat} (h : Ls w v l) (hb : Below w.heap.size w wr) {k : Nat} (hk : k < l.length) :
    ∃ b o c, v = .slice (some ⟨b, o, none⟩) l.length c ∧ b < w.heap.size ∧ wr.cell? ⟨b, o + k, none⟩ = some (.int .u32 ((l.getD k 0 : Nat) : Int)) := by
  obtain ⟨b, o, c, e, h1, -, -, h4⟩ := h.1.at_ hk
  exact ⟨b, o, c, e, h1, (hb.cell (p := ⟨b, o + k, none⟩) h1).trans (h4 k hk)⟩
theorem one_cell {w : World} {x : Value} {g : Nat} (hg : g = w.heap.size) (j : Nat) (u : Value) (hj : [x][j]? = some u) : (w.alloc (.cells #[x] 51)).cell? ((⟨g, 0, none⟩ : Addr).add j) = some u := by
  subst hg
  match j, hj with
  | 0, hj => simp at hj; subst hj; simp [Addr.add]
theorem one_one {x : Int} (u : Value) (hu : u ∈ [Value.int .u32 x]) : u.oneCell' = true := by simp at hu; subst hu; rfl
theorem u32s_snoc (u : List Nat) (x : Nat) : u32s u ++ [Value.int .u32 (x : Int)] = u32s (u ++ [x]) := by simp [u32s]
theorem Ls.nilcap {w : World} {v : Value} {l : List Nat} (h : Ls w v l) : ∃ A c, v = .slice A l.length c ∧ l.length ≤ c ∧ c ≤ maxLen := by
  obtain ⟨A, c, h1, h2, h3, -⟩ := h.1
  exact ⟨A, c, h1, h2, h3⟩
/-- Behind an append of one limb. -/
theorem own_snoc {w wr w2 : World} {v v2 : Value} {k r : Nat} {z : Int} {u : List Nat} (hown : wr.ownsRow w.heap.size 51 1 v k (u32s u)) (hN : Below w.heap.size w wr) (hown2 : w2.ownsRow w.heap.size 51 1 v2 (k + 1) (u32s u ++ [.int .u32 z]))
    (hgrow : (wr.alloc (.cells #[.int .u32 z] 51)).grownBy w2 v.ownBlock) (hz : (r : Int) = z) : w2.ownsRow w.heap.size 51 1 v2 (k + 1) (u32s (u ++ [r])) ∧ Below w.heap.size w w2 := by
  subst hz
  refine ⟨by rw [← u32s_snoc]; exact hown2, (hN.alloc hN.size _).grown hgrow (by simp; have := hN.size; omega) (fun g hg => (hown.lt g hg).1)⟩
end Go.Proofs.YtfdkdloldjfnjaaGreatDoor

/- DERIVED. The reference's trim, From, size. -/
namespace Go.Proofs.YtfdkdloldjfnjaaGreatDoor
open Go.RowKit
set_option maxRecDepth 100000

set_option maxHeartbeats 1000000 in
theorem c_eTrim (l : List Nat) (hl : Lb l) (v : Value) (ok : Nat → Prop) (w : World) (h : NatSl w ok v l) :
    Calls Tryz.prog 89 #[v] w fun e w' => ∃ r, e = .returned r ∧ NatSl w ok r (nat (val l)) ∧ w = w' := by
  obtain ⟨A, c, rfl, h2, h3, h4⟩ := id h
  have H := Lib.hid h
  have HL := Lib.hid hl
  have H4 := Lib.hid h4
  have H3 := Lib.hid h3
  unfold maxLen at h3
  clear h hl h4
  go_enter Tryz.func89, Tryz.ntmps89
  go_wp2
  go_loop [0] (fun n => ∃ k : Nat, k ≤ l.length ∧ n = .slice A k c ∧ Hid (∀ i, k ≤ i → i < l.length → l.getD i 0 = 0)) (fun n => (match n with | .slice _ k _ => k | _ => 0))
  case atStart => exact ⟨l.length, Nat.le_refl _, rfl, Lib.hid (fun i h1 h2 => by omega)⟩
  case round =>
    obtain ⟨k, hk, rfl, hz⟩ := hrel
    by_cases h0 : 0 < k
    · obtain ⟨b, o, c', e, -, -, -, hc⟩ := H.out.at_ (i := k - 1) (by omega)
      injection e with e1 _ e2
      subst e1 e2
      have hcell := hc (k - 1) (by omega)
      have hko : ((k : Int) - 1).toNat = k - 1 := by omega
      clear hc
      generalize hgx : l.getD (k - 1) 0 = x at hcell
      have HX := Lib.hid hgx
      clear hgx
      by_cases hx : x = 0
      · subst hx
        go_wp2
        go_round
        case rel => exact ⟨k - 1, by omega, (by simp [hko]), Lib.hid (fun i h1 h2 => by
          rcases Nat.lt_or_ge i k with h5 | h5
          · rw [show i = k - 1 by omega]; exact HX.out
          · exact hz.out i h5 h2)⟩
        case measure => simp; omega
      · have hne : ((x : Int) == 0) = false := by rw [beq_eq_false_iff_ne]; omega
        have hlk : (l.take k).length = k := by simp; omega
        have HLK := Lib.hid hlk
        clear hlk
        go_wp2
        go_ret
        refine ⟨_, rfl, ?_, rfl⟩
        rw [← trim_nat HL.out hk hz.out (fun _ => by rw [HX.out]; exact hx)]
        refine ⟨some ⟨b, o, none⟩, c, by rw [HLK.out]; rfl, by rw [HLK.out]; omega, H3.out, fun hl => ?_⟩
        obtain ⟨b', o', e, hb, hc⟩ := H4.out (by omega)
        exact ⟨b', o', e, hb, fun j x hj => hc j x (by rw [← hj, List.getElem?_take_of_lt]; have := (List.getElem?_eq_some_iff.1 hj).1; rw [HLK.out] at this; exact this)⟩
    · obtain rfl : k = 0 := by omega
      go_wp2
      go_ret
      refine ⟨_, rfl, ?_, rfl⟩
      rw [← trim_nat HL.out (Nat.zero_le _) hz.out (fun h => absurd h (by omega))]
      exact ⟨A, c, rfl, by simp, H3.out, fun h => absurd h (by simp)⟩
set_option maxHeartbeats 2000000 in
theorem c_eFrom (n : Nat) (hn : n < 18446744073709551616) (w : World) : Calls Tryz.prog 49 #[.int .u64 (n : Int)] w (NewNat n w) := by
  have e1 : ((n : Int) % 4294967296) = ((n % 4294967296 : Nat) : Int) := by omega
  have e2 : ((n : Int) / 4294967296) = ((n / 4294967296 : Nat) : Int) := by omega
  have h1 : n % 4294967296 < BB := by unfold BB; omega
  have h2 : n / 4294967296 < BB := by unfold BB; omega
  have E := Lib.hid (And.intro e1 e2)
  have HN := Lib.hid (nat_two n hn)
  clear e1 e2
  generalize n % 4294967296 = x at *
  generalize n / 4294967296 = y at *
  go_enter Tryz.func49, Tryz.ntmps49
  go_wp2_with (fail)
  rw [E.out.1, E.out.2]
  have hr : Row (w.alloc (.cells #[.int .u32 (x : Int), .int .u32 (y : Int)] 51)) w.heap.size [x, y] := ⟨_, heap_alloc_new w _, rfl⟩
  have HS := Lib.hid (row_whole (n := 2) hr rfl (by omega))
  refine (c_eTrim [x, y] (lb_cons.2 ⟨h1, lb_cons.2 ⟨h2, lb_nil⟩⟩) _ _ _ HS.out).mono ?_
  rintro e w1 ⟨r, rfl, hn, rfl⟩
  rw [HN.out] at hn
  have HB := Lib.hid ((Below.refl w.heap.size w).alloc (Nat.le_refl _) (.cells #[.int .u32 (x : Int), .int .u32 (y : Int)] 51))
  have hlt := hr.lt
  clear hr
  rw [← E.out.1, ← E.out.2] at *
  go_wp2_with (fail)
  go_ret
  exact ⟨_, rfl, hn.mono (fun i hi => by subst hi; exact ⟨Nat.le_refl _, hlt⟩), HB.out⟩
theorem c_eSize (n : Int) (h0 : -9223372036854775808 ≤ n) (h1 : n ≤ 9223372036854775807) (w : World) : Calls Tryz.prog 50 #[.int .i64 n] w fun e w' => e = .returned (.int .u64 (n.natAbs : Int)) ∧ w = w' := by
  by_cases hn : n < 0
  · go_enter Tryz.func50, Tryz.ntmps50
    go_wp2
    go_ret
    refine ⟨ret_nat ?_, rfl⟩
    first | omega | (simp only [IntKind.wrap_u64]; omega)
  · go_enter Tryz.func50, Tryz.ntmps50
    go_wp2
    go_ret
    refine ⟨ret_nat ?_, rfl⟩
    first | omega | (simp only [IntKind.wrap_u64]; omega)
end Go.Proofs.YtfdkdloldjfnjaaGreatDoor
