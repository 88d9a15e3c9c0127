/-
  DERIVED. Several texts in one.
-/
import Derived.Test.YtfdkdloldjfnjaaGreatDoorYUAm
set_option linter.unusedVariables false
set_option linter.unusedSimpArgs false

/- DERIVED. The reference's Sum. (Written by gen/genUE.py.) -/
namespace Go.Proofs.YtfdkdloldjfnjaaGreatDoor
open Go.RowKit
set_option maxRecDepth 100000

set_option maxHeartbeats 4000000 in
theorem c_eSum (a b : List Nat) (hal : a.length ≤ 100000) (hbl : b.length ≤ 100000) (va vb : Value) (w : World) (ha : Ls w va a) (hb : Ls w vb b) :
    Calls Tryz.prog 77 #[va, vb] w (NewNat (val a + val b) w) := by
  obtain ⟨A, ca, rfl⟩ := ha.1.shape
  obtain ⟨B, cb, rfl⟩ := hb.1.shape
  have HA := Lib.hid ha
  have HB := Lib.hid hb
  clear ha hb
  obtain ⟨i0, hi0, hz0, hz1, hz2⟩ := info_parts u32_info
  go_enter Tryz.func77, Tryz.ntmps77
  go_wp2_with (fail)
  go_loopw [5, 6, 7] (fun v c i wr => SumRel w a b v c i wr) (fun _ _ i _ => a.length + b.length - (intOf i).toNat)
  case atStart => exact ⟨0, 0, [], .inl (Nat.zero_le _), rfl, rfl, rfl, lb_nil, Nat.zero_le _, by simp [val], World.ownsRow_nil _ _ _ _, Below.refl _ _⟩
  case round =>
    obtain ⟨k, c, u, hk, rfl, rfl, hu, hlu, hc, hv, hown, hnx⟩ := hrel
    have HV := Lib.hid hv
    have HU := Lib.hid hlu
    have HN := Lib.hid hnx
    have hbs := hnx.size
    obtain ⟨t, ht⟩ : ∃ t, t = c + a.getD k 0 + b.getD k 0 := ⟨_, rfl⟩
    have HS := Lib.hid (sum_step hu hlu HA.out.2 HB.out.2 hc hv ht)
    clear hv hlu hnx
    have hxl := lb_get HA.out.2 k
    have hyl := lb_get HB.out.2 k
    unfold BB at hxl hyl
    by_cases hka : k < a.length
    · obtain ⟨b1, o1, c1, e1, hb1, q1⟩ := HA.out.cellAt HN.out hka
      injection e1 with e1 _ e2
      subst e1 e2
      by_cases hkb : k < b.length
      · obtain ⟨b2, o2, c2, e3, hb2, q2⟩ := HB.out.cellAt HN.out hkb
        injection e3 with e3 _ e4
        subst e3 e4
        generalize hx : a.getD k 0 = x at *
        generalize hy : b.getD k 0 = y at *
        have ht64 : t < 18446744073709551616 := by omega
        have e64 : ((t % 4294967296 : Nat) : Int) = ((c : Int) + (x : Int) + (y : Int)) % 4294967296 := by omega
        have e65 : ((t / 4294967296 : Nat) : Int) = ((c : Int) + (x : Int) + (y : Int)) / 4294967296 := by omega
        have hmx : (k : Int) < max ((a.length : Nat) : Int) ((b.length : Nat) : Int) := by simp only [Int.max_def]; split <;> omega
        have E64 := Lib.hid (And.intro e64 e65)
        have HT := Lib.hid ht
        have hkl : k ≤ 100000 := by omega
        clear e64 e65 ht
        go_wp2_with (at_builtin; refine wpList_append_own _ rfl _ _ 23 rfl w.heap.size 51 i0 (.int .u32 0) 1 4 Tryz.underlying23 hi0 hz0 hz1 hz2 rfl (by omega) _ _ _ rfl (hown.alloc _) ⟨wr.heap.size, 0, none⟩ 1 1 [.int .u32 (((c : Int) + x + y) % 4294967296)] rfl rfl (fun j u hj => one_cell rfl j u hj) (fun u hu => one_one u hu) (by unfold maxLen; omega) (by omega) (by simp; omega) ?_)
        intro v2 w2 hown2 hgrow _
        have R := own_snoc hown HN.out hown2 hgrow E64.out.1
        clear hown hown2 hgrow hmx
        go_wp2
        go_roundw
        case rel => exact ⟨k + 1, t / BB, u ++ [t % BB], by omega, (by rw [← E64.out.2]), by go_num, HS.out.2.1, HS.out.2.2.1, HS.out.2.2.2.1, HS.out.2.2.2.2, R.1, R.2⟩
        case measure => simp [intOf]; omega
      · rw [getD_over (l := b) (by omega)] at ht
        generalize hx : a.getD k 0 = x at *
        simp only [Nat.add_zero] at ht
        have ht64 : t < 18446744073709551616 := by omega
        have e64 : ((t % 4294967296 : Nat) : Int) = ((c : Int) + (x : Int)) % 4294967296 := by omega
        have e65 : ((t / 4294967296 : Nat) : Int) = ((c : Int) + (x : Int)) / 4294967296 := by omega
        have hmx : (k : Int) < max ((a.length : Nat) : Int) ((b.length : Nat) : Int) := by simp only [Int.max_def]; split <;> omega
        have E64 := Lib.hid (And.intro e64 e65)
        have HT := Lib.hid ht
        have hkl : k ≤ 100000 := by omega
        clear e64 e65 ht
        go_wp2_with (at_builtin; refine wpList_append_own _ rfl _ _ 23 rfl w.heap.size 51 i0 (.int .u32 0) 1 4 Tryz.underlying23 hi0 hz0 hz1 hz2 rfl (by omega) _ _ _ rfl (hown.alloc _) ⟨wr.heap.size, 0, none⟩ 1 1 [.int .u32 (((c : Int) + x) % 4294967296)] rfl rfl (fun j u hj => one_cell rfl j u hj) (fun u hu => one_one u hu) (by unfold maxLen; omega) (by omega) (by simp; omega) ?_)
        intro v2 w2 hown2 hgrow _
        have R := own_snoc hown HN.out hown2 hgrow E64.out.1
        clear hown hown2 hgrow hmx
        go_wp2
        go_roundw
        case rel => exact ⟨k + 1, t / BB, u ++ [t % BB], by omega, (by rw [← E64.out.2]), by go_num, HS.out.2.1, HS.out.2.2.1, HS.out.2.2.2.1, HS.out.2.2.2.2, R.1, R.2⟩
        case measure => simp [intOf]; omega
    · rw [getD_over (by omega)] at ht
      by_cases hkb : k < b.length
      · obtain ⟨b2, o2, c2, e3, hb2, q2⟩ := HB.out.cellAt HN.out hkb
        injection e3 with e3 _ e4
        subst e3 e4
        generalize hy : b.getD k 0 = y at *
        simp only [Nat.add_zero] at ht
        have ht64 : t < 18446744073709551616 := by omega
        have e64 : ((t % 4294967296 : Nat) : Int) = ((c : Int) + (y : Int)) % 4294967296 := by omega
        have e65 : ((t / 4294967296 : Nat) : Int) = ((c : Int) + (y : Int)) / 4294967296 := by omega
        have hmx : (k : Int) < max ((a.length : Nat) : Int) ((b.length : Nat) : Int) := by simp only [Int.max_def]; split <;> omega
        have E64 := Lib.hid (And.intro e64 e65)
        have HT := Lib.hid ht
        have hkl : k ≤ 100000 := by omega
        clear e64 e65 ht
        go_wp2_with (at_builtin; refine wpList_append_own _ rfl _ _ 23 rfl w.heap.size 51 i0 (.int .u32 0) 1 4 Tryz.underlying23 hi0 hz0 hz1 hz2 rfl (by omega) _ _ _ rfl (hown.alloc _) ⟨wr.heap.size, 0, none⟩ 1 1 [.int .u32 (((c : Int) + y) % 4294967296)] rfl rfl (fun j u hj => one_cell rfl j u hj) (fun u hu => one_one u hu) (by unfold maxLen; omega) (by omega) (by simp; omega) ?_)
        intro v2 w2 hown2 hgrow _
        have R := own_snoc hown HN.out hown2 hgrow E64.out.1
        clear hown hown2 hgrow hmx
        go_wp2
        go_roundw
        case rel => exact ⟨k + 1, t / BB, u ++ [t % BB], by omega, (by rw [← E64.out.2]), by go_num, HS.out.2.1, HS.out.2.2.1, HS.out.2.2.2.1, HS.out.2.2.2.2, R.1, R.2⟩
        case measure => simp [intOf]; omega
      · have hmx : ¬ (k : Int) < max ((a.length : Nat) : Int) ((b.length : Nat) : Int) := by simp only [Int.max_def]; split <;> omega
        have hkl : k ≤ 100000 := by omega
        clear ht HS
        go_wp2_with (at_builtin; refine wpList_append_own _ rfl _ _ 23 rfl w.heap.size 51 i0 (.int .u32 0) 1 4 Tryz.underlying23 hi0 hz0 hz1 hz2 rfl (by omega) _ _ _ rfl (hown.alloc _) ⟨wr.heap.size, 0, none⟩ 1 1 [.int .u32 (c : Int)] rfl rfl (fun j u hj => one_cell rfl j u hj) (fun u hu => one_one u hu) (by unfold maxLen; omega) (by omega) (by simp; omega) ?_)
        intro v2 w2 hown2 hgrow _
        have R := own_snoc (r := c) hown HN.out hown2 hgrow rfl
        clear hown hown2 hgrow hmx
        have hval : val (u ++ [c]) = val a + val b := by
          have hv := HV.out
          rw [List.take_of_length_le (by omega), List.take_of_length_le (by omega)] at hv
          rw [val_append, val_one, hu]
          exact hv
        have hlb : Lb (u ++ [c]) := lb_append.2 ⟨HU.out, lb_cons.2 ⟨by unfold BB; omega, lb_nil⟩⟩
        have HTR := Lib.hid (c_eTrim _ hlb v2 _ w2 (own_natSl R.1 (by simp [hu])))
        have HR := Lib.hid R.2
        have HVL := Lib.hid hval
        clear R hval hlb
        go_wp2_with (fail)
        go_at_call 89
        refine HTR.out.mono ?_
        rintro e w3 ⟨r, rfl, hn, rfl⟩
        rw [HVL.out] at hn
        have HNN := Lib.hid hn
        clear hn
        go_wp2_with (fail)
        go_ret
        exact ⟨_, rfl, HNN.out, HR.out⟩
end Go.Proofs.YtfdkdloldjfnjaaGreatDoor

/- DERIVED. The reference's Diff. (Written by gen/genUH.py.) -/
namespace Go.Proofs.YtfdkdloldjfnjaaGreatDoor
open Go.RowKit
set_option maxRecDepth 100000

theorem diff_step {a b u : List Nat} {k c c2 t : Nat} (hu : u.length = k) (hlu : Lb u) (h : val u + val (b.take k) = val (a.take k) + BB ^ k * c) (ht : a.getD k 0 + BB * c2 = t + (c + b.getD k 0)) (htl : t < BB) :
    (u ++ [t]).length = k + 1 ∧ Lb (u ++ [t]) ∧ val (u ++ [t]) + val (b.take (k + 1)) = val (a.take (k + 1)) + BB ^ (k + 1) * c2 := by
  refine ⟨by simp [hu], lb_append.2 ⟨hlu, lb_cons.2 ⟨htl, lb_nil⟩⟩, ?_⟩
  rw [val_append, hu, val_take_succ, val_take_succ, val_one, Nat.pow_succ]
  generalize a.getD k 0 = x at *
  generalize b.getD k 0 = y at *
  generalize BB ^ k = p at *
  generalize val u = U at *
  generalize val (a.take k) = A at *
  generalize val (b.take k) = B at *
  generalize BB = z at *
  have e1 : p * x + p * z * c2 = p * t + p * c + p * y := by
    rw [Nat.mul_assoc, ← Nat.mul_add, ht, Nat.mul_add, Nat.mul_add, Nat.add_assoc]
  omega
def DiffRel (w : World) (a b : List Nat) (v cv iv : Value) (wr : World) : Prop :=
  ∃ (k c : Nat) (u : List Nat), k ≤ a.length ∧ cv = .int .u64 (c : Int) ∧ iv = .int .i64 (k : Int) ∧ u.length = k ∧ Lb u ∧ c ≤ 1 ∧ val u + val (b.take k) = val (a.take k) + BB ^ k * c ∧ wr.ownsRow w.heap.size 51 1 v k (u32s u) ∧ Below w.heap.size w wr
set_option maxHeartbeats 4000000 in
theorem c_eDiff (a b : List Nat) (hal : a.length ≤ 100000) (hbl : b.length ≤ a.length) (hle : val b ≤ val a) (va vb : Value) (w : World) (ha : Ls w va a) (hb : Ls w vb b) :
    Calls Tryz.prog 103 #[va, vb] w (NewNat (val a - val b) w) := by
  obtain ⟨A, ca, rfl⟩ := ha.1.shape
  obtain ⟨B, cb, rfl⟩ := hb.1.shape
  have HA := Lib.hid ha
  have HB := Lib.hid hb
  have HLE := Lib.hid hle
  clear ha hb hle
  obtain ⟨i0, hi0, hz0, hz1, hz2⟩ := info_parts u32_info
  go_enter Tryz.func103, Tryz.ntmps103
  go_wp2_with (fail)
  go_loopw [5, 6, 7] (fun v c i wr => DiffRel w a b v c i wr) (fun _ _ i _ => a.length - (intOf i).toNat)
  case atStart => exact ⟨0, 0, [], Nat.zero_le _, rfl, rfl, rfl, lb_nil, Nat.zero_le _, by simp [val], World.ownsRow_nil _ _ _ _, Below.refl _ _⟩
  case round =>
    obtain ⟨k, c, u, hk, rfl, rfl, hu, hlu, hc, hv, hown, hnx⟩ := hrel
    have HV := Lib.hid hv
    have HU := Lib.hid hlu
    have HN := Lib.hid hnx
    have hbs := hnx.size
    have HS := Lib.hid (fun (t c2 : Nat) (h1 : a.getD k 0 + BB * c2 = t + (c + b.getD k 0)) (h2 : t < BB) => diff_step hu hlu hv h1 h2)
    clear hv hlu hnx
    have hxl := lb_get HA.out.2 k
    have hyl := lb_get HB.out.2 k
    unfold BB at hxl hyl
    by_cases hka : k < a.length
    · obtain ⟨b1, o1, c1, e1, hb1, q1⟩ := HA.out.cellAt HN.out hka
      injection e1 with e1 _ e2
      subst e1 e2
      generalize hx : a.getD k 0 = x at *
      by_cases hkb : k < b.length
      · obtain ⟨b2, o2, c2, e3, hb2, q2⟩ := HB.out.cellAt HN.out hkb
        injection e3 with e3 _ e4
        subst e3 e4
        generalize hy : b.getD k 0 = y at *
        by_cases hlt : x < c + y
        · have hlt2 : (x : Int) < (c : Int) + (y : Int) := by omega
          have hT : ∃ t, t = x + 4294967296 - (c + y) := ⟨_, rfl⟩
          obtain ⟨t, ht⟩ := hT
          have htl : t < 4294967296 := by omega
          have e64 : ((t : Nat) : Int) = (x : Int) + 4294967296 - ((c : Int) + (y : Int)) := by omega
          have R1 := HS.out t 1 (by unfold BB; omega) (by unfold BB; omega)
          have HR1 := Lib.hid R1
          have E64 := Lib.hid e64
          have hkl : k ≤ 100000 := by omega
          clear e64 R1 HS ht htl
          go_wp2_with (at_builtin; refine wpList_append_own _ rfl _ _ 23 rfl w.heap.size 51 i0 (.int .u32 0) 1 4 Tryz.underlying23 hi0 hz0 hz1 hz2 rfl (by omega) _ _ _ rfl (hown.alloc _) ⟨wr.heap.size, 0, none⟩ 1 1 [.int .u32 ((x : Int) + 4294967296 - ((c : Int) + (y : Int)))] rfl rfl (fun j u hj => one_cell rfl j u hj) (fun u hu => one_one u hu) (by unfold maxLen; omega) (by omega) (by simp; omega) ?_)
          intro v2 w2 hown2 hgrow _
          have R := own_snoc hown HN.out hown2 hgrow E64.out
          clear hown hown2 hgrow
          go_wp2
          go_roundw
          case rel => exact ⟨k + 1, 1, u ++ [t], by omega, rfl, by go_num, HR1.out.1, HR1.out.2.1, by omega, HR1.out.2.2, R.1, R.2⟩
          case measure => simp [intOf]; omega
        · have hlt2 : ¬ (x : Int) < (c : Int) + (y : Int) := by omega
          have hT : ∃ t, t = x - (c + y) := ⟨_, rfl⟩
          obtain ⟨t, ht⟩ := hT
          have htl : t < 4294967296 := by omega
          have e64 : ((t : Nat) : Int) = (x : Int) - ((c : Int) + (y : Int)) := by omega
          have R1 := HS.out t 0 (by unfold BB; omega) (by unfold BB; omega)
          have HR1 := Lib.hid R1
          have E64 := Lib.hid e64
          have hkl : k ≤ 100000 := by omega
          clear e64 R1 HS ht htl
          go_wp2_with (at_builtin; refine wpList_append_own _ rfl _ _ 23 rfl w.heap.size 51 i0 (.int .u32 0) 1 4 Tryz.underlying23 hi0 hz0 hz1 hz2 rfl (by omega) _ _ _ rfl (hown.alloc _) ⟨wr.heap.size, 0, none⟩ 1 1 [.int .u32 ((x : Int) - ((c : Int) + (y : Int)))] rfl rfl (fun j u hj => one_cell rfl j u hj) (fun u hu => one_one u hu) (by unfold maxLen; omega) (by omega) (by simp; omega) ?_)
          intro v2 w2 hown2 hgrow _
          have R := own_snoc hown HN.out hown2 hgrow E64.out
          clear hown hown2 hgrow
          go_wp2
          go_roundw
          case rel => exact ⟨k + 1, 0, u ++ [t], by omega, rfl, by go_num, HR1.out.1, HR1.out.2.1, by omega, HR1.out.2.2, R.1, R.2⟩
          case measure => simp [intOf]; omega
      · rw [getD_over (l := b) (by omega)] at HS
        simp only [Nat.add_zero] at HS
        by_cases hlt : x < c
        · have hlt2 : (x : Int) < (c : Int) := by omega
          have hT : ∃ t, t = x + 4294967296 - c := ⟨_, rfl⟩
          obtain ⟨t, ht⟩ := hT
          have htl : t < 4294967296 := by omega
          have e64 : ((t : Nat) : Int) = (x : Int) + 4294967296 - (c : Int) := by omega
          have R1 := HS.out t 1 (by unfold BB; omega) (by unfold BB; omega)
          have HR1 := Lib.hid R1
          have E64 := Lib.hid e64
          have hkl : k ≤ 100000 := by omega
          clear e64 R1 HS ht htl
          go_wp2_with (at_builtin; refine wpList_append_own _ rfl _ _ 23 rfl w.heap.size 51 i0 (.int .u32 0) 1 4 Tryz.underlying23 hi0 hz0 hz1 hz2 rfl (by omega) _ _ _ rfl (hown.alloc _) ⟨wr.heap.size, 0, none⟩ 1 1 [.int .u32 ((x : Int) + 4294967296 - (c : Int))] rfl rfl (fun j u hj => one_cell rfl j u hj) (fun u hu => one_one u hu) (by unfold maxLen; omega) (by omega) (by simp; omega) ?_)
          intro v2 w2 hown2 hgrow _
          have R := own_snoc hown HN.out hown2 hgrow E64.out
          clear hown hown2 hgrow
          go_wp2
          go_roundw
          case rel => exact ⟨k + 1, 1, u ++ [t], by omega, rfl, by go_num, HR1.out.1, HR1.out.2.1, by omega, HR1.out.2.2, R.1, R.2⟩
          case measure => simp [intOf]; omega
        · have hlt2 : ¬ (x : Int) < (c : Int) := by omega
          have hT : ∃ t, t = x - c := ⟨_, rfl⟩
          obtain ⟨t, ht⟩ := hT
          have htl : t < 4294967296 := by omega
          have e64 : ((t : Nat) : Int) = (x : Int) - (c : Int) := by omega
          have R1 := HS.out t 0 (by unfold BB; omega) (by unfold BB; omega)
          have HR1 := Lib.hid R1
          have E64 := Lib.hid e64
          have hkl : k ≤ 100000 := by omega
          clear e64 R1 HS ht htl
          go_wp2_with (at_builtin; refine wpList_append_own _ rfl _ _ 23 rfl w.heap.size 51 i0 (.int .u32 0) 1 4 Tryz.underlying23 hi0 hz0 hz1 hz2 rfl (by omega) _ _ _ rfl (hown.alloc _) ⟨wr.heap.size, 0, none⟩ 1 1 [.int .u32 ((x : Int) - (c : Int))] rfl rfl (fun j u hj => one_cell rfl j u hj) (fun u hu => one_one u hu) (by unfold maxLen; omega) (by omega) (by simp; omega) ?_)
          intro v2 w2 hown2 hgrow _
          have R := own_snoc hown HN.out hown2 hgrow E64.out
          clear hown hown2 hgrow
          go_wp2
          go_roundw
          case rel => exact ⟨k + 1, 0, u ++ [t], by omega, rfl, by go_num, HR1.out.1, HR1.out.2.1, by omega, HR1.out.2.2, R.1, R.2⟩
          case measure => simp [intOf]; omega
    · have hkl : k ≤ 100000 := by omega
      have hkn : ¬ (k : Int) < (a.length : Nat) := by omega
      clear HS
      have hval : val u = val a - val b := by
        have hv := HV.out
        have hle := HLE.out
        rw [List.take_of_length_le (by omega), List.take_of_length_le (by omega)] at hv
        have hul := val_lt HU.out
        rw [hu] at hul
        rcases Nat.lt_or_ge 0 c with h | h
        · obtain rfl : c = 1 := by omega
          omega
        · obtain rfl : c = 0 := by omega
          omega
      have HTR := Lib.hid (c_eTrim _ HU.out _ _ wr (own_natSl hown hu))
      have HVL := Lib.hid hval
      clear hval hown
      go_wp2_with (fail)
      go_at_call 89
      refine HTR.out.mono ?_
      rintro e w3 ⟨r, rfl, hn, rfl⟩
      rw [HVL.out] at hn
      have HNN := Lib.hid hn
      clear hn
      go_wp2_with (fail)
      go_ret
      exact ⟨_, rfl, HNN.out, HN.out⟩
end Go.Proofs.YtfdkdloldjfnjaaGreatDoor
