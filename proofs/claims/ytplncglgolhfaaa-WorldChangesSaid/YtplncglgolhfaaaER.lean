/-
  DERIVED. Same of the specification (written by gen/world_ER.py).
-/
import Derived.Test.YtplncglgolhfaaaEI
namespace Go.Proofs.Ytplncglgolhfaaa
open Go.RowKit
set_option maxRecDepth 100000
set_option linter.unusedVariables false
set_option linter.unusedSimpArgs false

set_option maxHeartbeats 16000000 in
theorem c_wrSame (p q : WP) (d e : WorldD) (r : Bool) (hr : sameB d e = r) (w : World) (hd : WoAt w p d) (he : WoAt w q e) :
    Calls Try.prog 28 #[.agg (woA p d), .agg (woA q e)] w fun e w' => e = .returned (.bool r) ∧ Below w.heap.size w w' := by
  unfold woA
  obtain ⟨W1, h1⟩ : ∃ W, W = w.alloc (.cells (woA p d) 36) := ⟨_, rfl⟩
  obtain ⟨W, h2⟩ : ∃ W, W = W1.alloc (.cells (woA q e) 36) := ⟨_, rfl⟩
  obtain ⟨B0, b1, b2, -⟩ := two_boxes h1 h2
  have HB := Lib.hid B0
  have HF := Lib.hid (fun (X : World) (hX : Below W.heap.size W X) => (⟨cell_of (box_on b1 hX (Nat.le_refl _)) rfl, cell_of (box_on b1 hX (Nat.le_refl _)) rfl, cell_of (box_on b2 hX (Nat.le_refl _)) rfl, cell_of (box_on b2 hX (Nat.le_refl _)) rfl⟩ : X.cell? ⟨w.heap.size, 0, none⟩ = some (.slice p.a1 d.hosts.length p.c1) ∧ X.cell? ⟨w.heap.size, 1, none⟩ = some (.slice p.a2 d.reps.length p.c2) ∧ X.cell? ⟨w.heap.size + 1, 0, none⟩ = some (.slice q.a1 e.hosts.length q.c1) ∧ X.cell? ⟨w.heap.size + 1, 1, none⟩ = some (.slice q.a2 e.reps.length q.c2)))
  have HD := Lib.hid (hd.on B0 (Nat.le_refl _))
  have HE := Lib.hid (he.on B0 (Nat.le_refl _))
  have HR := Lib.hid (show (decide (d.hosts = e.hosts) && decide (d.reps = e.reps)) = r from hr)
  have hle := B0.size
  have n1 := hd.hosts.1; have n2 := hd.hosts.2.1; have n3 := hd.reps.1; have n4 := hd.reps.2.1
  have n5 := he.hosts.1; have n6 := he.hosts.2.1; have n7 := he.reps.1; have n8 := he.reps.2.1
  unfold maxLen at n2 n4 n6 n8
  obtain ⟨x0, x1, x2, x3⟩ := HF.out W (Below.refl _ _)
  clear hr hd he B0 b1 b2
  unfold woA at h1 h2
  rw [h2, h1] at x0 x1 x2 x3
  have K0 := Lib.hid (Below.refl W.heap.size W)
  generalize hA : w.heap.size = A at *
  by_cases hl1 : d.hosts.length = e.hosts.length
  rotate_left
  · have hne : (((d.hosts.length : Nat) : Int) != ((e.hosts.length : Nat) : Int)) = true := by rw [bne_iff_ne]; omega
    obtain rfl : false = r := by rw [← HR.out, show decide (d.hosts = e.hosts) = false from decide_eq_false (fun h => hl1 (by rw [h]))]; rfl
    clear hl1
    go_enter Try.func28, Try.ntmps28
    go_wp2_with (fail)
    rw [← h1, ← h2]
    go_ret
    exact ⟨rfl, HB.out⟩
  have hne1 : (((d.hosts.length : Nat) : Int) != ((e.hosts.length : Nat) : Int)) = false := by rw [bne_eq_false_iff_eq]; omega
  have HL1 := Lib.hid hl1
  clear hl1
  by_cases hl2 : d.reps.length = e.reps.length
  rotate_left
  · have hne : (((d.reps.length : Nat) : Int) != ((e.reps.length : Nat) : Int)) = true := by rw [bne_iff_ne]; omega
    obtain rfl : false = r := by rw [← HR.out, show decide (d.reps = e.reps) = false from decide_eq_false (fun h => hl2 (by rw [h])), Bool.and_false]
    clear hl2
    go_enter Try.func28, Try.ntmps28
    go_wp2_with (fail)
    rw [← h1, ← h2]
    go_ret
    exact ⟨rfl, HB.out⟩
  have hne2 : (((d.reps.length : Nat) : Int) != ((e.reps.length : Nat) : Int)) = false := by rw [bne_eq_false_iff_eq]; omega
  have HL2 := Lib.hid hl2
  clear hl2
  go_enter Try.func28, Try.ntmps28
  go_wp2_with (fail)
  rw [← h1, ← h2]
  clear h1 h2 x0 x1 x2 x3
  go_loopw [5] (fun i wr => ∃ k : Nat, k ≤ d.hosts.length ∧ i = .int .i64 (k : Int) ∧ Hid (d.hosts.take k = e.hosts.take k) ∧ Hid (Below W.heap.size W wr)) (fun i wr => d.hosts.length - (intOf i).toNat)
  case atStart => exact ⟨0, Nat.zero_le _, rfl, Lib.hid rfl, K0⟩
  case round =>
    obtain ⟨k, hk, rfl, htk, hB⟩ := hrel
    have hki : ((k : Nat) : Int).toNat = k := by omega
    obtain ⟨x0, x1, x2, x3⟩ := HF.out wr hB.out
    by_cases hlt : k < d.hosts.length
    · obtain ⟨x, hx⟩ : ∃ x, d.hosts[k]? = some x := ⟨_, List.getElem?_eq_getElem hlt⟩
      obtain ⟨y, hy⟩ : ∃ y, e.hosts[k]? = some y := ⟨_, List.getElem?_eq_getElem (by have := HL1.out; omega)⟩
      have HVK := (HD.out.on hB.out (Nat.le_refl _)).hosts
      have HUK := (HE.out.on hB.out (Nat.le_refl _)).hosts
      obtain ⟨b1, o1, e1, -, -⟩ := HVK.at_ hx
      obtain ⟨b2, o2, e2, -, -⟩ := HUK.at_ hy
      rw [e1] at HVK x0
      rw [e2] at HUK x2
      obtain ⟨p1, p2⟩ := hst_at HVK hx
      obtain ⟨q1, q2⟩ := hst_at HUK hy
      have HX := Lib.hid hx
      have HY := Lib.hid hy
      have hk1 : (k : Int) < ((d.hosts.length : Nat) : Int) := by omega
      have hk2 : (k : Int) < ((e.hosts.length : Nat) : Int) := by have := HL1.out; omega
      clear hx hy HVK HUK e1 e2
      have g1 := guardHo
      have g2 := neqHo
      rcases hxy : (((x.phase : Int) == (y.phase : Int)) && (x.fw == y.fw)) with _ | _
      · have hrr : r = false := by
          rw [← HR.out]
          have : decide (d.hosts = e.hosts) = false := by
            refine decide_eq_false fun h => ?_
            have h1 := HX.out
            have h2 := HY.out
            rw [h, h2] at h1
            injection h1 with h1
            subst h1
            rw [hst_beq] at hxy
            simp at hxy
          rw [this]; simp
        subst hrr
        go_wp2_with (fail)
        go_quiet (fail)
        go_wp2_with (fail)
        go_ret
        exact ⟨rfl, below_drewN (below_join HB.out hB.out hle)⟩
      · have HXY := Lib.hid (show x = y by rw [hst_beq] at hxy; exact of_decide_eq_true hxy)
        go_wp2_with (fail)
        go_quiet (fail)
        go_wp2_with (fail)
        go_roundw
        case rel => exact ⟨k + 1, by omega, by go_num, Lib.hid (take_snoc htk.out HX.out (by rw [HY.out, HXY.out])), Lib.hid (below_drewN hB.out)⟩
        case measure => simp only [intOf]; omega
    · obtain rfl : k = d.hosts.length := by omega
      have HQ := Lib.hid (show d.hosts = e.hosts by
        have := htk.out
        rw [List.take_of_length_le (Nat.le_refl _), HL1.out, List.take_of_length_le (Nat.le_refl _)] at this
        exact this)
      go_wp2_with (fail)
      have HQ1 := HQ
      clear HQ x0 x1 x2 x3
      go_loopw [6] (fun i wr => ∃ k : Nat, k ≤ d.reps.length ∧ i = .int .i64 (k : Int) ∧ Hid (d.reps.take k = e.reps.take k) ∧ Hid (Below W.heap.size W wr)) (fun i wr => d.reps.length - (intOf i).toNat)
      case atStart => exact ⟨0, Nat.zero_le _, rfl, Lib.hid rfl, hB⟩
      case round =>
        obtain ⟨k, hk, rfl, htk, hB⟩ := hrel
        have hki : ((k : Nat) : Int).toNat = k := by omega
        obtain ⟨x0, x1, x2, x3⟩ := HF.out wr hB.out
        by_cases hlt : k < d.reps.length
        · obtain ⟨x, hx⟩ : ∃ x, d.reps[k]? = some x := ⟨_, List.getElem?_eq_getElem hlt⟩
          obtain ⟨y, hy⟩ : ∃ y, e.reps[k]? = some y := ⟨_, List.getElem?_eq_getElem (by have := HL2.out; omega)⟩
          have HVK := (HD.out.on hB.out (Nat.le_refl _)).reps
          have HUK := (HE.out.on hB.out (Nat.le_refl _)).reps
          obtain ⟨b1, o1, e1, -, -⟩ := HVK.at_ hx
          obtain ⟨b2, o2, e2, -, -⟩ := HUK.at_ hy
          rw [e1] at HVK x1
          rw [e2] at HUK x3
          obtain ⟨p1, p2⟩ := rep_at HVK hx
          obtain ⟨q1, q2⟩ := rep_at HUK hy
          have HX := Lib.hid hx
          have HY := Lib.hid hy
          have hk1 : (k : Int) < ((d.reps.length : Nat) : Int) := by omega
          have hk2 : (k : Int) < ((e.reps.length : Nat) : Int) := by have := HL2.out; omega
          clear hx hy HVK HUK e1 e2
          have g1 := guardRp
          have g2 := neqRp
          rcases hxy : ((x.svc == y.svc) && (x.host == y.host)) with _ | _
          · have hrr : r = false := by
              rw [← HR.out]
              have : decide (d.reps = e.reps) = false := by
                refine decide_eq_false fun h => ?_
                have h1 := HX.out
                have h2 := HY.out
                rw [h, h2] at h1
                injection h1 with h1
                subst h1
                rw [rep_beq] at hxy
                simp at hxy
              rw [this]; simp
            subst hrr
            go_wp2_with (fail)
            go_quiet (fail)
            go_wp2_with (fail)
            go_ret
            exact ⟨rfl, below_drewN (below_join HB.out hB.out hle)⟩
          · have HXY := Lib.hid (show x = y by rw [rep_beq] at hxy; exact of_decide_eq_true hxy)
            go_wp2_with (fail)
            go_quiet (fail)
            go_wp2_with (fail)
            go_roundw
            case rel => exact ⟨k + 1, by omega, by go_num, Lib.hid (take_snoc htk.out HX.out (by rw [HY.out, HXY.out])), Lib.hid (below_drewN hB.out)⟩
            case measure => simp only [intOf]; omega
        · obtain rfl : k = d.reps.length := by omega
          have HQ := Lib.hid (show d.reps = e.reps by
            have := htk.out
            rw [List.take_of_length_le (Nat.le_refl _), HL2.out, List.take_of_length_le (Nat.le_refl _)] at this
            exact this)
          go_wp2_with (fail)
          obtain rfl : true = r := by rw [← HR.out, decide_eq_true HQ1.out, decide_eq_true HQ.out]; rfl
          go_ret
          exact ⟨rfl, below_join HB.out hB.out hle⟩
end Go.Proofs.Ytplncglgolhfaaa
