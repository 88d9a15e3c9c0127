/-
  DERIVED. Several texts in one.
-/
import Derived.Test.YtbbadnlaelgmlaaGreatPYB5
import Derived.RegionTactic
import Derived.Deep.RegionHeld3
import Derived.Test.YtbbadnlaelgmlaaGreatPYV61
import Derived.ProofKit
import Derived.Test.YtbbadnlaelgmlaaGreatPYB1
import Derived.Test.YtbbadnlaelgmlaaGreatPYB3
import Derived.Deep.WholeRow
set_option linter.unusedVariables false
set_option linter.unusedSimpArgs false

namespace Go.Proofs.YtbbadnlaelgmlaaGreat
open Go.RowKit
set_option maxRecDepth 100000
set_option linter.unusedVariables false
set_option linter.unusedSimpArgs false

/-- A load: 0 if the world is not valid. -/
def pwV (z : Sn) (r : Bool) (b : Nat → Bool) : Int := if r = true then loadN z.s z.ss z.d b else 0
/-- The sum so far. -/
def soFar (z : Sn) (b : Nat → Bool) (k : Nat) : Int := sumN (fun h => if b h = true then watN z.s z.ss z.d h else 0) k
theorem soFar_bd {z : Sn} (ok : z.Ok) (b : Nat → Bool) {k : Nat} (hk : k ≤ z.s.hosts.length) : 0 ≤ soFar z b k ∧ soFar z b k ≤ 400000000 := part_bd ok b hk
theorem soFar_no {z : Sn} {b : Nat → Bool} {k : Nat} (h : b k = false) : soFar z b (k + 1) = soFar z b k := by
  unfold soFar; rw [sumN, h]; simp
theorem soFar_off {z : Sn} {b : Nat → Bool} {k : Nat} {y : Hst} (hy : z.d.hosts[k]? = some y) (h : y.phase = 4) : soFar z b (k + 1) = soFar z b k := by
  unfold soFar; rw [sumN]
  have : watN z.s z.ss z.d k = 0 := by unfold watN; rw [phAt_eq hy, if_pos h]
  rw [this]; simp
theorem soFar_yes {z : Sn} {b : Nat → Bool} {k : Nat} {x : Hs} {y : Hst} (hx : z.s.hosts[k]? = some x) (hy : z.d.hosts[k]? = some y) (h : b k = true) (h4 : y.phase ≠ 4) : soFar z b (k + 1) = soFar z b k + (x.idle + x.per * usedD z.ss z.d.reps (k : Int)) := by
  unfold soFar; rw [sumN, if_pos h]
  congr 1
  unfold watN; rw [phAt_eq hy, if_neg h4, hsAt_eq hx]
set_option maxHeartbeats 16000000 in
theorem c_loadHost (z : Sn) (r0 : Bool) (hr0 : r0 = true ↔ z.Ok) (g : Nat) (k : Int) (w : World) (hz : SnAt w z) (hg : w.cell? ⟨g, 0, none⟩ = some (.int .i64 k)) (hgb : g < w.heap.size) (v : Int) (hv : pwV z r0 (isHost k) = v) :
    Calls Tryz.prog 135 #[.agg #[.slice z.p.a1 z.s.feeds.length z.p.c1, .slice z.p.a2 z.s.brks.length z.p.c2, .slice z.p.a3 z.s.loops.length z.p.c3, .slice z.p.a4 z.s.racks.length z.p.c4, .int .i64 z.s.sw, .slice z.p.a5 z.s.links.length z.p.c5, .slice z.p.a6 z.s.hosts.length z.p.c6], .agg #[.slice z.A z.xs.length z.c], .agg #[.slice z.q.a1 z.d.hosts.length z.q.c1, .slice z.q.a2 z.d.reps.length z.q.c2], .func (.func 160) #[] #[.pointer (some ⟨g, 0, none⟩)]] w fun e w' => e = .returned (.int .i64 v) ∧ Below w.heap.size w w' := by
  have HCL := Lib.hid (fun (X : World) (hX : Below w.heap.size w X) (ok : z.Ok) (i : Nat) (hi : i < z.s.hosts.length) (r : Bool) (hr : (isHost k) i = r) => (c_isHost g k i X ((hX.cell (p := ⟨g, 0, none⟩) hgb).trans hg) r hr : Calls Tryz.prog 160 #[.int .i64 (i : Int), .pointer (some ⟨g, 0, none⟩)] X fun e w' => e = .returned (.bool r) ∧ Below X.heap.size X w'))
  have HV := Lib.hid hv
  have HR0 := Lib.hid hr0
  obtain ⟨pd, hpd⟩ : ∃ f, f = isHost k := ⟨_, rfl⟩
  rw [← hpd] at HCL HV
  clear hr0 hv hg hgb hpd
  obtain ⟨W1, h1⟩ : ∃ W, W = w.alloc (.cells #[.slice z.p.a1 z.s.feeds.length z.p.c1, .slice z.p.a2 z.s.brks.length z.p.c2, .slice z.p.a3 z.s.loops.length z.p.c3, .slice z.p.a4 z.s.racks.length z.p.c4, .int .i64 z.s.sw, .slice z.p.a5 z.s.links.length z.p.c5, .slice z.p.a6 z.s.hosts.length z.p.c6] 29) := ⟨_, rfl⟩
  obtain ⟨W2, h2⟩ : ∃ W, W = W1.alloc (.cells #[.slice z.A z.xs.length z.c] 32) := ⟨_, rfl⟩
  obtain ⟨W, h3⟩ : ∃ W, W = W2.alloc (.cells #[.slice z.q.a1 z.d.hosts.length z.q.c1, .slice z.q.a2 z.d.reps.length z.q.c2] 36) := ⟨_, rfl⟩
  obtain ⟨B0, X1⟩ := sn_boxes h1 h2 h3
  have z3 : W.heap.size = w.heap.size + 1 + 1 + 1 := sn_size h1 h2 h3
  have HB := Lib.hid B0
  have Z0 := hz.on B0 (Nat.le_refl _)
  have HZ := Lib.hid (fun (X : World) (hX : Below W.heap.size W X) => Z0.on hX (Nat.le_refl _))
  have HF := Lib.hid (fun (X : World) (hX : Below W.heap.size W X) => ((X1.on hX (Nat.le_refl _)).cells : X.cell? ⟨w.heap.size, 0, none⟩ = some (.slice z.p.a1 z.s.feeds.length z.p.c1) ∧ X.cell? ⟨w.heap.size, 1, none⟩ = some (.slice z.p.a2 z.s.brks.length z.p.c2) ∧ X.cell? ⟨w.heap.size, 2, none⟩ = some (.slice z.p.a3 z.s.loops.length z.p.c3) ∧ X.cell? ⟨w.heap.size, 3, none⟩ = some (.slice z.p.a4 z.s.racks.length z.p.c4) ∧ X.cell? ⟨w.heap.size, 4, none⟩ = some (.int .i64 z.s.sw) ∧ X.cell? ⟨w.heap.size, 5, none⟩ = some (.slice z.p.a5 z.s.links.length z.p.c5) ∧ X.cell? ⟨w.heap.size, 6, none⟩ = some (.slice z.p.a6 z.s.hosts.length z.p.c6) ∧ X.cell? ⟨w.heap.size + 1, 0, none⟩ = some (.slice z.A z.xs.length z.c) ∧ X.cell? ⟨w.heap.size + 1 + 1, 0, none⟩ = some (.slice z.q.a1 z.d.hosts.length z.q.c1) ∧ X.cell? ⟨w.heap.size + 1 + 1, 1, none⟩ = some (.slice z.q.a2 z.d.reps.length z.q.c2)))
  have HX := Lib.hid (fun (X : World) (hX : Below W.heap.size W X) => X1.on hX (Nat.le_refl _))
  have HKW := Lib.hid (Below.refl W.heap.size W)
  have hle := HB.out.size
  obtain ⟨n1, n2, n3, n4, n5, n6, n7, n8⟩ := hz.bounds
  have HVV := Lib.hid (fun (X : World) (hX : SnAt X z) => c_vTo z r0 HR0.out X hX)
  clear hz B0 X1 z3 Z0
  generalize hA6 : z.p.a6 = A6 at *
  have HA6 := Lib.hid hA6
  clear hA6
  obtain ⟨f0, f1, f2, f3, f4, f5, f6, g0, g1, g2⟩ := HF.out W HKW.out
  rw [h3, h2, h1] at f0 f1 f2 f3 f4 f5 f6 g0 g1 g2
  generalize hBB : w.heap.size = B at *
  go_enter Tryz.func135, Tryz.ntmps135
  go_wp2_with (fail)
  rw [← h1, ← h2, ← h3]
  clear h1 h2 h3 f0 f1 f2 f3 f4 f5 f6 g0 g1 g2
  go_at_call 27
  refine (HVV.out W (HZ.out W HKW.out)).mono ?_
  rintro e v1 ⟨rfl, bb⟩
  have HKv1 := Lib.hid (below_join HKW.out bb HKW.out.size)
  clear bb
  cases r0
  · have HVE := Lib.hid (show (0 : Int) = v from HV.out)
    go_wp2_with (fail)
    go_ret
    exact ⟨(show Ending.returned (.int .i64 0) = .returned (.int .i64 v) by rw [HVE.out]), below_join HB.out HKv1.out hle⟩
  have ok := HR0.out.1 rfl
  have HOK := Lib.hid ok
  have HVE := Lib.hid (show soFar z pd z.s.hosts.length = v from HV.out)
  have HDL := Lib.hid (show z.d.hosts.length = z.s.hosts.length from ok.2.2.1)
  have hd16 := (siteOk_iff.1 ok.1).nhosts.2
  clear ok
  obtain ⟨f0, f1, f2, f3, f4, f5, f6, g0, g1, g2⟩ := HF.out v1 HKv1.out
  go_wp2_with (fail)
  clear f0 f1 f2 f3 f4 f5 f6 g0 g1 g2
  go_loopw [9, 20] (fun sm i wr => ∃ k : Nat, k ≤ z.s.hosts.length ∧ sm = .int .i64 (soFar z pd k) ∧ i = .int .i64 (k : Int) ∧ Hid (Below W.heap.size W wr)) (fun _ i _ => z.s.hosts.length - (intOf i).toNat)
  case atStart => exact ⟨0, Nat.zero_le _, rfl, rfl, HKv1⟩
  case round =>
    obtain ⟨k, hk, rfl, rfl, hK⟩ := hrel
    have hki : ((k : Nat) : Int).toNat = k := by omega
    obtain ⟨S, hS⟩ : ∃ S, soFar z pd k = S := ⟨_, rfl⟩
    have HS := Lib.hid hS
    have bS := soFar_bd HOK.out pd hk
    rw [hS] at bS
    rw [hS]
    clear hS
    by_cases hlt : k < z.s.hosts.length
    · obtain ⟨x, y, hx, hy, -, bi, bp⟩ := host_ok HOK.out hlt
      have HXX := Lib.hid hx
      have HYY := Lib.hid hy
      obtain ⟨pb, po, e6, hpb, x0, x1, x2, x3⟩ := hs_at (HZ.out wr hK.out) hx
      rw [HA6.out] at e6
      subst e6
      obtain ⟨f0, f1, f2, f3, f4, f5, f6, g0, g1, g2⟩ := HF.out wr hK.out
      have hki2 : (k : Int) < (z.s.hosts.length : Int) := by omega
      have hki3 : (k : Int) < (z.d.hosts.length : Int) := by have := HDL.out; omega
      obtain ⟨V, hV⟩ : ∃ X, X = wr.alloc (.cells #[.int .i64 x.rack, .int .i64 x.cores, .int .i64 x.idle, .int .i64 x.per] 89) := ⟨_, rfl⟩
      have bV : Below wr.heap.size wr V := by rw [hV]; exact (Below.refl _ _).alloc (Nat.le_refl _) _
      have BV : V.heap[wr.heap.size]? = some (.cells #[.int .i64 x.rack, .int .i64 x.cores, .int .i64 x.idle, .int .i64 x.per] 89 (0, 0)) := by rw [hV]; exact box_new _ _ _
      have HKV := Lib.hid (below_join hK.out bV hK.out.size)
      have HBV := Lib.hid (fun (X : World) (hX : Below V.heap.size V X) => (⟨cell_of (box_on BV hX (Nat.le_refl _)) rfl, cell_of (box_on BV hX (Nat.le_refl _)) rfl, cell_of (box_on BV hX (Nat.le_refl _)) rfl, cell_of (box_on BV hX (Nat.le_refl _)) rfl⟩ : X.cell? ⟨wr.heap.size, 0, none⟩ = some (.int .i64 x.rack) ∧ X.cell? ⟨wr.heap.size, 1, none⟩ = some (.int .i64 x.cores) ∧ X.cell? ⟨wr.heap.size, 2, none⟩ = some (.int .i64 x.idle) ∧ X.cell? ⟨wr.heap.size, 3, none⟩ = some (.int .i64 x.per)))
      have HKVV := Lib.hid (Below.refl V.heap.size V)
      clear hx hy bV BV
      rcases hp : pd k with _ | _
      · have HP := Lib.hid hp
        have HSN := Lib.hid (soFar_no hp (z := z))
        clear hp
        go_wp2_with (fail)
        rw [← hV]
        clear hV x0 x1 x2 x3 f0 f1 f2 f3 f4 f5 f6 g0 g1 g2
        go_at_call 160
        refine (HCL.out V (below_join HB.out HKV.out hle) HOK.out k hlt false HP.out).mono ?_
        rintro e v2 ⟨rfl, bb⟩
        have HK2 := Lib.hid (below_join HKV.out bb HKV.out.size)
        clear bb
        go_wp2_with (fail)
        go_roundw
        case rel => exact ⟨k + 1, by omega, by rw [HSN.out, HS.out], by go_num, HK2⟩
        case measure => simp only [intOf]; omega
      · have HP := Lib.hid hp
        clear hp
        rcases h4 : ((y.phase : Int) == 4) with _ | _
        · obtain ⟨u, hu⟩ : ∃ u, usedD z.ss z.d.reps (k : Int) = u := ⟨_, rfl⟩
          have HU := Lib.hid hu
          have bu := used_bd HOK.out (k : Int)
          rw [show usedD (Sn.ss z) z.d.reps (k : Int) = u from hu] at bu
          obtain ⟨pr, hpr⟩ : ∃ t, x.per * u = t := ⟨_, rfl⟩
          have HPR := Lib.hid hpr
          have bpr : 0 ≤ pr ∧ pr ≤ 24000000 := by
            rw [← hpr]
            have p1 := Int.mul_nonneg bp.1 bu.1
            have p2 : x.per * u ≤ 1000 * u := Int.mul_le_mul_of_nonneg_right bp.2 bu.1
            omega
          have HSY := Lib.hid (show soFar z pd (k + 1) = S + (x.idle + pr) by
            rw [soFar_yes HXX.out HYY.out HP.out (by intro h; rw [h] at h4; simp at h4), HS.out, HU.out, HPR.out])
          have hne : ((y.phase : Int) != 4) = true := by unfold bne; rw [h4]; rfl
          clear hu hpr
          go_wp2_with (fail)
          rw [← hV]
          clear hV x0 x1 x2 x3 f0 f1 f2 f3 f4 f5 f6 g0 g1 g2
          go_at_call 160
          refine (HCL.out V (below_join HB.out HKV.out hle) HOK.out k hlt true HP.out).mono ?_
          rintro e v2 ⟨rfl, bb⟩
          have HKK2 := Lib.hid (below_join HKVV.out bb (Nat.le_refl _))
          have HK2 := Lib.hid (below_join HKV.out bb HKV.out.size)
          obtain ⟨f0, f1, f2, f3, f4, f5, f6, g0, g1, g2⟩ := HF.out v2 HK2.out
          obtain ⟨qb, qo, e1, hqb, y0⟩ := ho_at (HZ.out v2 HK2.out) HYY.out
          rw [e1] at g1
          clear bb e1
          go_wp2_with (fail)
          obtain ⟨j0, j1, j2, j3⟩ := HBV.out v2 HKK2.out
          obtain ⟨f0, f1, f2, f3, f4, f5, f6, g0, g1, g2⟩ := HF.out v2 HK2.out
          go_region_held3 (fun X => (X.cell? ⟨B, 0, none⟩ = some (.slice z.p.a1 z.s.feeds.length z.p.c1) ∧ X.cell? ⟨B, 1, none⟩ = some (.slice z.p.a2 z.s.brks.length z.p.c2) ∧ X.cell? ⟨B, 2, none⟩ = some (.slice z.p.a3 z.s.loops.length z.p.c3) ∧ X.cell? ⟨B, 3, none⟩ = some (.slice z.p.a4 z.s.racks.length z.p.c4) ∧ X.cell? ⟨B, 4, none⟩ = some (.int .i64 z.s.sw) ∧ X.cell? ⟨B, 5, none⟩ = some (.slice z.p.a5 z.s.links.length z.p.c5) ∧ X.cell? ⟨B, 6, none⟩ = some (.slice (some ⟨pb, po, none⟩) z.s.hosts.length z.p.c6) ∧ X.cell? ⟨B + 1, 0, none⟩ = some (.slice z.A z.xs.length z.c) ∧ X.cell? ⟨B + 1 + 1, 0, none⟩ = some (.slice z.q.a1 z.d.hosts.length z.q.c1) ∧ X.cell? ⟨B + 1 + 1, 1, none⟩ = some (.slice z.q.a2 z.d.reps.length z.q.c2)) ∧ X.cell? ⟨wr.heap.size, 2, none⟩ = some (.int .i64 x.idle) ∧ X.cell? ⟨wr.heap.size, 3, none⟩ = some (.int .i64 x.per))
            (first | exact ⟨HF.out v3 HK3.out, (HBV.out v3 HKK3.out).2.2⟩ | exact ⟨HF.out v2 HK2.out, (HBV.out v2 HKK2.out).2.2⟩ | fail)
            (first
              | (go_at_call 93; (with_reducible refine (c_usedTo z (k : Int) u HU.out v2.drew (HZ.out v2.drew HK2.out.drew)).mono ?_); rintro e v3 ⟨rfl, bb0⟩; have bb := below_join (Below.refl v2.heap.size v2).drew bb0 (Nat.le_refl _); have HK3 := Lib.hid (below_join HK2.out bb HK2.out.size); have HKK3 := Lib.hid (below_join HKK2.out bb HKK2.out.size); clear bb bb0)
              | fail)
          go_wp2_with (fail)
          go_roundw
          case rel => exact ⟨k + 1, by omega, by rw [HSY.out, HPR.out, wrap_in (x := pr) (by omega) (by omega), wrap_in (x := x.idle + pr) (by omega) (by omega), wrap_in (by omega) (by omega)], by go_num, HK3⟩
          case measure => simp only [intOf]; omega
        · have HSN := Lib.hid (soFar_off (z := z) (b := pd) HYY.out (by have := eq_of_beq h4; omega))
          have hne : ((y.phase : Int) != 4) = false := by unfold bne; rw [h4]; rfl
          go_wp2_with (fail)
          rw [← hV]
          clear hV x0 x1 x2 x3 f0 f1 f2 f3 f4 f5 f6 g0 g1 g2
          go_at_call 160
          refine (HCL.out V (below_join HB.out HKV.out hle) HOK.out k hlt true HP.out).mono ?_
          rintro e v2 ⟨rfl, bb⟩
          have HK2 := Lib.hid (below_join HKV.out bb HKV.out.size)
          obtain ⟨f0, f1, f2, f3, f4, f5, f6, g0, g1, g2⟩ := HF.out v2 HK2.out
          obtain ⟨qb, qo, e1, hqb, y0⟩ := ho_at (HZ.out v2 HK2.out) HYY.out
          rw [e1] at g1
          clear bb e1
          go_wp2_with (fail)
          go_roundw
          case rel => exact ⟨k + 1, by omega, by rw [HSN.out, HS.out], by go_num, HK2⟩
          case measure => simp only [intOf]; omega
    · obtain rfl : k = z.s.hosts.length := by omega
      have HVS := Lib.hid (show S = v by rw [← HVE.out, HS.out])
      go_wp2_with (fail)
      go_ret
      exact ⟨(show Ending.returned (.int .i64 S) = .returned (.int .i64 v) by rw [HVS.out]), below_join HB.out hK.out hle⟩
set_option maxHeartbeats 16000000 in
theorem c_loadBrk (z : Sn) (r0 : Bool) (hr0 : r0 = true ↔ z.Ok) (b g : Nat) (k : Int) (w : World) (hz : SnAt w z) (hb : w.heap[b]? = some (.cells #[.slice z.p.a1 z.s.feeds.length z.p.c1, .slice z.p.a2 z.s.brks.length z.p.c2, .slice z.p.a3 z.s.loops.length z.p.c3, .slice z.p.a4 z.s.racks.length z.p.c4, .int .i64 z.s.sw, .slice z.p.a5 z.s.links.length z.p.c5, .slice z.p.a6 z.s.hosts.length z.p.c6] 29 (0, 0))) (hg : w.cell? ⟨g, 0, none⟩ = some (.int .i64 k)) (hgb : g < w.heap.size) (v : Int) (hv : pwV z r0 (isBrk z.s k) = v) :
    Calls Tryz.prog 135 #[.agg #[.slice z.p.a1 z.s.feeds.length z.p.c1, .slice z.p.a2 z.s.brks.length z.p.c2, .slice z.p.a3 z.s.loops.length z.p.c3, .slice z.p.a4 z.s.racks.length z.p.c4, .int .i64 z.s.sw, .slice z.p.a5 z.s.links.length z.p.c5, .slice z.p.a6 z.s.hosts.length z.p.c6], .agg #[.slice z.A z.xs.length z.c], .agg #[.slice z.q.a1 z.d.hosts.length z.q.c1, .slice z.q.a2 z.d.reps.length z.q.c2], .func (.func 136) #[] #[.pointer (some ⟨b, 0, none⟩), .pointer (some ⟨g, 0, none⟩)]] w fun e w' => e = .returned (.int .i64 v) ∧ Below w.heap.size w w' := by
  have HCL := Lib.hid (fun (X : World) (hX : Below w.heap.size w X) (ok : z.Ok) (i : Nat) (hi : i < z.s.hosts.length) (r : Bool) (hr : (isBrk z.s k) i = r) => (c_isBrk z ok b g k i X (hz.on hX (Nat.le_refl _)) (box_on hb hX (Nat.le_refl _)) ((hX.cell (p := ⟨g, 0, none⟩) hgb).trans hg) (Nat.lt_of_lt_of_le hgb hX.size) hi r hr : Calls Tryz.prog 136 #[.int .i64 (i : Int), .pointer (some ⟨b, 0, none⟩), .pointer (some ⟨g, 0, none⟩)] X fun e w' => e = .returned (.bool r) ∧ Below X.heap.size X w'))
  have HV := Lib.hid hv
  have HR0 := Lib.hid hr0
  obtain ⟨pd, hpd⟩ : ∃ f, f = isBrk z.s k := ⟨_, rfl⟩
  rw [← hpd] at HCL HV
  clear hr0 hv hb hg hgb hpd
  obtain ⟨W1, h1⟩ : ∃ W, W = w.alloc (.cells #[.slice z.p.a1 z.s.feeds.length z.p.c1, .slice z.p.a2 z.s.brks.length z.p.c2, .slice z.p.a3 z.s.loops.length z.p.c3, .slice z.p.a4 z.s.racks.length z.p.c4, .int .i64 z.s.sw, .slice z.p.a5 z.s.links.length z.p.c5, .slice z.p.a6 z.s.hosts.length z.p.c6] 29) := ⟨_, rfl⟩
  obtain ⟨W2, h2⟩ : ∃ W, W = W1.alloc (.cells #[.slice z.A z.xs.length z.c] 32) := ⟨_, rfl⟩
  obtain ⟨W, h3⟩ : ∃ W, W = W2.alloc (.cells #[.slice z.q.a1 z.d.hosts.length z.q.c1, .slice z.q.a2 z.d.reps.length z.q.c2] 36) := ⟨_, rfl⟩
  obtain ⟨B0, X1⟩ := sn_boxes h1 h2 h3
  have z3 : W.heap.size = w.heap.size + 1 + 1 + 1 := sn_size h1 h2 h3
  have HB := Lib.hid B0
  have Z0 := hz.on B0 (Nat.le_refl _)
  have HZ := Lib.hid (fun (X : World) (hX : Below W.heap.size W X) => Z0.on hX (Nat.le_refl _))
  have HF := Lib.hid (fun (X : World) (hX : Below W.heap.size W X) => ((X1.on hX (Nat.le_refl _)).cells : X.cell? ⟨w.heap.size, 0, none⟩ = some (.slice z.p.a1 z.s.feeds.length z.p.c1) ∧ X.cell? ⟨w.heap.size, 1, none⟩ = some (.slice z.p.a2 z.s.brks.length z.p.c2) ∧ X.cell? ⟨w.heap.size, 2, none⟩ = some (.slice z.p.a3 z.s.loops.length z.p.c3) ∧ X.cell? ⟨w.heap.size, 3, none⟩ = some (.slice z.p.a4 z.s.racks.length z.p.c4) ∧ X.cell? ⟨w.heap.size, 4, none⟩ = some (.int .i64 z.s.sw) ∧ X.cell? ⟨w.heap.size, 5, none⟩ = some (.slice z.p.a5 z.s.links.length z.p.c5) ∧ X.cell? ⟨w.heap.size, 6, none⟩ = some (.slice z.p.a6 z.s.hosts.length z.p.c6) ∧ X.cell? ⟨w.heap.size + 1, 0, none⟩ = some (.slice z.A z.xs.length z.c) ∧ X.cell? ⟨w.heap.size + 1 + 1, 0, none⟩ = some (.slice z.q.a1 z.d.hosts.length z.q.c1) ∧ X.cell? ⟨w.heap.size + 1 + 1, 1, none⟩ = some (.slice z.q.a2 z.d.reps.length z.q.c2)))
  have HX := Lib.hid (fun (X : World) (hX : Below W.heap.size W X) => X1.on hX (Nat.le_refl _))
  have HKW := Lib.hid (Below.refl W.heap.size W)
  have hle := HB.out.size
  obtain ⟨n1, n2, n3, n4, n5, n6, n7, n8⟩ := hz.bounds
  have HVV := Lib.hid (fun (X : World) (hX : SnAt X z) => c_vTo z r0 HR0.out X hX)
  clear hz B0 X1 z3 Z0
  generalize hA6 : z.p.a6 = A6 at *
  have HA6 := Lib.hid hA6
  clear hA6
  obtain ⟨f0, f1, f2, f3, f4, f5, f6, g0, g1, g2⟩ := HF.out W HKW.out
  rw [h3, h2, h1] at f0 f1 f2 f3 f4 f5 f6 g0 g1 g2
  generalize hBB : w.heap.size = B at *
  go_enter Tryz.func135, Tryz.ntmps135
  go_wp2_with (fail)
  rw [← h1, ← h2, ← h3]
  clear h1 h2 h3 f0 f1 f2 f3 f4 f5 f6 g0 g1 g2
  go_at_call 27
  refine (HVV.out W (HZ.out W HKW.out)).mono ?_
  rintro e v1 ⟨rfl, bb⟩
  have HKv1 := Lib.hid (below_join HKW.out bb HKW.out.size)
  clear bb
  cases r0
  · have HVE := Lib.hid (show (0 : Int) = v from HV.out)
    go_wp2_with (fail)
    go_ret
    exact ⟨(show Ending.returned (.int .i64 0) = .returned (.int .i64 v) by rw [HVE.out]), below_join HB.out HKv1.out hle⟩
  have ok := HR0.out.1 rfl
  have HOK := Lib.hid ok
  have HVE := Lib.hid (show soFar z pd z.s.hosts.length = v from HV.out)
  have HDL := Lib.hid (show z.d.hosts.length = z.s.hosts.length from ok.2.2.1)
  have hd16 := (siteOk_iff.1 ok.1).nhosts.2
  clear ok
  obtain ⟨f0, f1, f2, f3, f4, f5, f6, g0, g1, g2⟩ := HF.out v1 HKv1.out
  go_wp2_with (fail)
  clear f0 f1 f2 f3 f4 f5 f6 g0 g1 g2
  go_loopw [9, 20] (fun sm i wr => ∃ k : Nat, k ≤ z.s.hosts.length ∧ sm = .int .i64 (soFar z pd k) ∧ i = .int .i64 (k : Int) ∧ Hid (Below W.heap.size W wr)) (fun _ i _ => z.s.hosts.length - (intOf i).toNat)
  case atStart => exact ⟨0, Nat.zero_le _, rfl, rfl, HKv1⟩
  case round =>
    obtain ⟨k, hk, rfl, rfl, hK⟩ := hrel
    have hki : ((k : Nat) : Int).toNat = k := by omega
    obtain ⟨S, hS⟩ : ∃ S, soFar z pd k = S := ⟨_, rfl⟩
    have HS := Lib.hid hS
    have bS := soFar_bd HOK.out pd hk
    rw [hS] at bS
    rw [hS]
    clear hS
    by_cases hlt : k < z.s.hosts.length
    · obtain ⟨x, y, hx, hy, -, bi, bp⟩ := host_ok HOK.out hlt
      have HXX := Lib.hid hx
      have HYY := Lib.hid hy
      obtain ⟨pb, po, e6, hpb, x0, x1, x2, x3⟩ := hs_at (HZ.out wr hK.out) hx
      rw [HA6.out] at e6
      subst e6
      obtain ⟨f0, f1, f2, f3, f4, f5, f6, g0, g1, g2⟩ := HF.out wr hK.out
      have hki2 : (k : Int) < (z.s.hosts.length : Int) := by omega
      have hki3 : (k : Int) < (z.d.hosts.length : Int) := by have := HDL.out; omega
      obtain ⟨V, hV⟩ : ∃ X, X = wr.alloc (.cells #[.int .i64 x.rack, .int .i64 x.cores, .int .i64 x.idle, .int .i64 x.per] 89) := ⟨_, rfl⟩
      have bV : Below wr.heap.size wr V := by rw [hV]; exact (Below.refl _ _).alloc (Nat.le_refl _) _
      have BV : V.heap[wr.heap.size]? = some (.cells #[.int .i64 x.rack, .int .i64 x.cores, .int .i64 x.idle, .int .i64 x.per] 89 (0, 0)) := by rw [hV]; exact box_new _ _ _
      have HKV := Lib.hid (below_join hK.out bV hK.out.size)
      have HBV := Lib.hid (fun (X : World) (hX : Below V.heap.size V X) => (⟨cell_of (box_on BV hX (Nat.le_refl _)) rfl, cell_of (box_on BV hX (Nat.le_refl _)) rfl, cell_of (box_on BV hX (Nat.le_refl _)) rfl, cell_of (box_on BV hX (Nat.le_refl _)) rfl⟩ : X.cell? ⟨wr.heap.size, 0, none⟩ = some (.int .i64 x.rack) ∧ X.cell? ⟨wr.heap.size, 1, none⟩ = some (.int .i64 x.cores) ∧ X.cell? ⟨wr.heap.size, 2, none⟩ = some (.int .i64 x.idle) ∧ X.cell? ⟨wr.heap.size, 3, none⟩ = some (.int .i64 x.per)))
      have HKVV := Lib.hid (Below.refl V.heap.size V)
      clear hx hy bV BV
      rcases hp : pd k with _ | _
      · have HP := Lib.hid hp
        have HSN := Lib.hid (soFar_no hp (z := z))
        clear hp
        go_wp2_with (fail)
        rw [← hV]
        clear hV x0 x1 x2 x3 f0 f1 f2 f3 f4 f5 f6 g0 g1 g2
        go_at_call 136
        refine (HCL.out V (below_join HB.out HKV.out hle) HOK.out k hlt false HP.out).mono ?_
        rintro e v2 ⟨rfl, bb⟩
        have HK2 := Lib.hid (below_join HKV.out bb HKV.out.size)
        clear bb
        go_wp2_with (fail)
        go_roundw
        case rel => exact ⟨k + 1, by omega, by rw [HSN.out, HS.out], by go_num, HK2⟩
        case measure => simp only [intOf]; omega
      · have HP := Lib.hid hp
        clear hp
        rcases h4 : ((y.phase : Int) == 4) with _ | _
        · obtain ⟨u, hu⟩ : ∃ u, usedD z.ss z.d.reps (k : Int) = u := ⟨_, rfl⟩
          have HU := Lib.hid hu
          have bu := used_bd HOK.out (k : Int)
          rw [show usedD (Sn.ss z) z.d.reps (k : Int) = u from hu] at bu
          obtain ⟨pr, hpr⟩ : ∃ t, x.per * u = t := ⟨_, rfl⟩
          have HPR := Lib.hid hpr
          have bpr : 0 ≤ pr ∧ pr ≤ 24000000 := by
            rw [← hpr]
            have p1 := Int.mul_nonneg bp.1 bu.1
            have p2 : x.per * u ≤ 1000 * u := Int.mul_le_mul_of_nonneg_right bp.2 bu.1
            omega
          have HSY := Lib.hid (show soFar z pd (k + 1) = S + (x.idle + pr) by
            rw [soFar_yes HXX.out HYY.out HP.out (by intro h; rw [h] at h4; simp at h4), HS.out, HU.out, HPR.out])
          have hne : ((y.phase : Int) != 4) = true := by unfold bne; rw [h4]; rfl
          clear hu hpr
          go_wp2_with (fail)
          rw [← hV]
          clear hV x0 x1 x2 x3 f0 f1 f2 f3 f4 f5 f6 g0 g1 g2
          go_at_call 136
          refine (HCL.out V (below_join HB.out HKV.out hle) HOK.out k hlt true HP.out).mono ?_
          rintro e v2 ⟨rfl, bb⟩
          have HKK2 := Lib.hid (below_join HKVV.out bb (Nat.le_refl _))
          have HK2 := Lib.hid (below_join HKV.out bb HKV.out.size)
          obtain ⟨f0, f1, f2, f3, f4, f5, f6, g0, g1, g2⟩ := HF.out v2 HK2.out
          obtain ⟨qb, qo, e1, hqb, y0⟩ := ho_at (HZ.out v2 HK2.out) HYY.out
          rw [e1] at g1
          clear bb e1
          go_wp2_with (fail)
          obtain ⟨j0, j1, j2, j3⟩ := HBV.out v2 HKK2.out
          obtain ⟨f0, f1, f2, f3, f4, f5, f6, g0, g1, g2⟩ := HF.out v2 HK2.out
          go_region_held3 (fun X => (X.cell? ⟨B, 0, none⟩ = some (.slice z.p.a1 z.s.feeds.length z.p.c1) ∧ X.cell? ⟨B, 1, none⟩ = some (.slice z.p.a2 z.s.brks.length z.p.c2) ∧ X.cell? ⟨B, 2, none⟩ = some (.slice z.p.a3 z.s.loops.length z.p.c3) ∧ X.cell? ⟨B, 3, none⟩ = some (.slice z.p.a4 z.s.racks.length z.p.c4) ∧ X.cell? ⟨B, 4, none⟩ = some (.int .i64 z.s.sw) ∧ X.cell? ⟨B, 5, none⟩ = some (.slice z.p.a5 z.s.links.length z.p.c5) ∧ X.cell? ⟨B, 6, none⟩ = some (.slice (some ⟨pb, po, none⟩) z.s.hosts.length z.p.c6) ∧ X.cell? ⟨B + 1, 0, none⟩ = some (.slice z.A z.xs.length z.c) ∧ X.cell? ⟨B + 1 + 1, 0, none⟩ = some (.slice z.q.a1 z.d.hosts.length z.q.c1) ∧ X.cell? ⟨B + 1 + 1, 1, none⟩ = some (.slice z.q.a2 z.d.reps.length z.q.c2)) ∧ X.cell? ⟨wr.heap.size, 2, none⟩ = some (.int .i64 x.idle) ∧ X.cell? ⟨wr.heap.size, 3, none⟩ = some (.int .i64 x.per))
            (first | exact ⟨HF.out v3 HK3.out, (HBV.out v3 HKK3.out).2.2⟩ | exact ⟨HF.out v2 HK2.out, (HBV.out v2 HKK2.out).2.2⟩ | fail)
            (first
              | (go_at_call 93; (with_reducible refine (c_usedTo z (k : Int) u HU.out v2.drew (HZ.out v2.drew HK2.out.drew)).mono ?_); rintro e v3 ⟨rfl, bb0⟩; have bb := below_join (Below.refl v2.heap.size v2).drew bb0 (Nat.le_refl _); have HK3 := Lib.hid (below_join HK2.out bb HK2.out.size); have HKK3 := Lib.hid (below_join HKK2.out bb HKK2.out.size); clear bb bb0)
              | fail)
          go_wp2_with (fail)
          go_roundw
          case rel => exact ⟨k + 1, by omega, by rw [HSY.out, HPR.out, wrap_in (x := pr) (by omega) (by omega), wrap_in (x := x.idle + pr) (by omega) (by omega), wrap_in (by omega) (by omega)], by go_num, HK3⟩
          case measure => simp only [intOf]; omega
        · have HSN := Lib.hid (soFar_off (z := z) (b := pd) HYY.out (by have := eq_of_beq h4; omega))
          have hne : ((y.phase : Int) != 4) = false := by unfold bne; rw [h4]; rfl
          go_wp2_with (fail)
          rw [← hV]
          clear hV x0 x1 x2 x3 f0 f1 f2 f3 f4 f5 f6 g0 g1 g2
          go_at_call 136
          refine (HCL.out V (below_join HB.out HKV.out hle) HOK.out k hlt true HP.out).mono ?_
          rintro e v2 ⟨rfl, bb⟩
          have HK2 := Lib.hid (below_join HKV.out bb HKV.out.size)
          obtain ⟨f0, f1, f2, f3, f4, f5, f6, g0, g1, g2⟩ := HF.out v2 HK2.out
          obtain ⟨qb, qo, e1, hqb, y0⟩ := ho_at (HZ.out v2 HK2.out) HYY.out
          rw [e1] at g1
          clear bb e1
          go_wp2_with (fail)
          go_roundw
          case rel => exact ⟨k + 1, by omega, by rw [HSN.out, HS.out], by go_num, HK2⟩
          case measure => simp only [intOf]; omega
    · obtain rfl : k = z.s.hosts.length := by omega
      have HVS := Lib.hid (show S = v by rw [← HVE.out, HS.out])
      go_wp2_with (fail)
      go_ret
      exact ⟨(show Ending.returned (.int .i64 S) = .returned (.int .i64 v) by rw [HVS.out]), below_join HB.out hK.out hle⟩
set_option maxHeartbeats 16000000 in
theorem c_loadFeed (z : Sn) (r0 : Bool) (hr0 : r0 = true ↔ z.Ok) (b g : Nat) (k : Int) (w : World) (hz : SnAt w z) (hb : w.heap[b]? = some (.cells #[.slice z.p.a1 z.s.feeds.length z.p.c1, .slice z.p.a2 z.s.brks.length z.p.c2, .slice z.p.a3 z.s.loops.length z.p.c3, .slice z.p.a4 z.s.racks.length z.p.c4, .int .i64 z.s.sw, .slice z.p.a5 z.s.links.length z.p.c5, .slice z.p.a6 z.s.hosts.length z.p.c6] 29 (0, 0))) (hg : w.cell? ⟨g, 0, none⟩ = some (.int .i64 k)) (hgb : g < w.heap.size) (v : Int) (hv : pwV z r0 (isFeed z.s k) = v) :
    Calls Tryz.prog 135 #[.agg #[.slice z.p.a1 z.s.feeds.length z.p.c1, .slice z.p.a2 z.s.brks.length z.p.c2, .slice z.p.a3 z.s.loops.length z.p.c3, .slice z.p.a4 z.s.racks.length z.p.c4, .int .i64 z.s.sw, .slice z.p.a5 z.s.links.length z.p.c5, .slice z.p.a6 z.s.hosts.length z.p.c6], .agg #[.slice z.A z.xs.length z.c], .agg #[.slice z.q.a1 z.d.hosts.length z.q.c1, .slice z.q.a2 z.d.reps.length z.q.c2], .func (.func 138) #[] #[.pointer (some ⟨b, 0, none⟩), .pointer (some ⟨g, 0, none⟩)]] w fun e w' => e = .returned (.int .i64 v) ∧ Below w.heap.size w w' := by
  have HCL := Lib.hid (fun (X : World) (hX : Below w.heap.size w X) (ok : z.Ok) (i : Nat) (hi : i < z.s.hosts.length) (r : Bool) (hr : (isFeed z.s k) i = r) => (c_isFeed z ok b g k i X (hz.on hX (Nat.le_refl _)) (box_on hb hX (Nat.le_refl _)) ((hX.cell (p := ⟨g, 0, none⟩) hgb).trans hg) (Nat.lt_of_lt_of_le hgb hX.size) hi r hr : Calls Tryz.prog 138 #[.int .i64 (i : Int), .pointer (some ⟨b, 0, none⟩), .pointer (some ⟨g, 0, none⟩)] X fun e w' => e = .returned (.bool r) ∧ Below X.heap.size X w'))
  have HV := Lib.hid hv
  have HR0 := Lib.hid hr0
  obtain ⟨pd, hpd⟩ : ∃ f, f = isFeed z.s k := ⟨_, rfl⟩
  rw [← hpd] at HCL HV
  clear hr0 hv hb hg hgb hpd
  obtain ⟨W1, h1⟩ : ∃ W, W = w.alloc (.cells #[.slice z.p.a1 z.s.feeds.length z.p.c1, .slice z.p.a2 z.s.brks.length z.p.c2, .slice z.p.a3 z.s.loops.length z.p.c3, .slice z.p.a4 z.s.racks.length z.p.c4, .int .i64 z.s.sw, .slice z.p.a5 z.s.links.length z.p.c5, .slice z.p.a6 z.s.hosts.length z.p.c6] 29) := ⟨_, rfl⟩
  obtain ⟨W2, h2⟩ : ∃ W, W = W1.alloc (.cells #[.slice z.A z.xs.length z.c] 32) := ⟨_, rfl⟩
  obtain ⟨W, h3⟩ : ∃ W, W = W2.alloc (.cells #[.slice z.q.a1 z.d.hosts.length z.q.c1, .slice z.q.a2 z.d.reps.length z.q.c2] 36) := ⟨_, rfl⟩
  obtain ⟨B0, X1⟩ := sn_boxes h1 h2 h3
  have z3 : W.heap.size = w.heap.size + 1 + 1 + 1 := sn_size h1 h2 h3
  have HB := Lib.hid B0
  have Z0 := hz.on B0 (Nat.le_refl _)
  have HZ := Lib.hid (fun (X : World) (hX : Below W.heap.size W X) => Z0.on hX (Nat.le_refl _))
  have HF := Lib.hid (fun (X : World) (hX : Below W.heap.size W X) => ((X1.on hX (Nat.le_refl _)).cells : X.cell? ⟨w.heap.size, 0, none⟩ = some (.slice z.p.a1 z.s.feeds.length z.p.c1) ∧ X.cell? ⟨w.heap.size, 1, none⟩ = some (.slice z.p.a2 z.s.brks.length z.p.c2) ∧ X.cell? ⟨w.heap.size, 2, none⟩ = some (.slice z.p.a3 z.s.loops.length z.p.c3) ∧ X.cell? ⟨w.heap.size, 3, none⟩ = some (.slice z.p.a4 z.s.racks.length z.p.c4) ∧ X.cell? ⟨w.heap.size, 4, none⟩ = some (.int .i64 z.s.sw) ∧ X.cell? ⟨w.heap.size, 5, none⟩ = some (.slice z.p.a5 z.s.links.length z.p.c5) ∧ X.cell? ⟨w.heap.size, 6, none⟩ = some (.slice z.p.a6 z.s.hosts.length z.p.c6) ∧ X.cell? ⟨w.heap.size + 1, 0, none⟩ = some (.slice z.A z.xs.length z.c) ∧ X.cell? ⟨w.heap.size + 1 + 1, 0, none⟩ = some (.slice z.q.a1 z.d.hosts.length z.q.c1) ∧ X.cell? ⟨w.heap.size + 1 + 1, 1, none⟩ = some (.slice z.q.a2 z.d.reps.length z.q.c2)))
  have HX := Lib.hid (fun (X : World) (hX : Below W.heap.size W X) => X1.on hX (Nat.le_refl _))
  have HKW := Lib.hid (Below.refl W.heap.size W)
  have hle := HB.out.size
  obtain ⟨n1, n2, n3, n4, n5, n6, n7, n8⟩ := hz.bounds
  have HVV := Lib.hid (fun (X : World) (hX : SnAt X z) => c_vTo z r0 HR0.out X hX)
  clear hz B0 X1 z3 Z0
  generalize hA6 : z.p.a6 = A6 at *
  have HA6 := Lib.hid hA6
  clear hA6
  obtain ⟨f0, f1, f2, f3, f4, f5, f6, g0, g1, g2⟩ := HF.out W HKW.out
  rw [h3, h2, h1] at f0 f1 f2 f3 f4 f5 f6 g0 g1 g2
  generalize hBB : w.heap.size = B at *
  go_enter Tryz.func135, Tryz.ntmps135
  go_wp2_with (fail)
  rw [← h1, ← h2, ← h3]
  clear h1 h2 h3 f0 f1 f2 f3 f4 f5 f6 g0 g1 g2
  go_at_call 27
  refine (HVV.out W (HZ.out W HKW.out)).mono ?_
  rintro e v1 ⟨rfl, bb⟩
  have HKv1 := Lib.hid (below_join HKW.out bb HKW.out.size)
  clear bb
  cases r0
  · have HVE := Lib.hid (show (0 : Int) = v from HV.out)
    go_wp2_with (fail)
    go_ret
    exact ⟨(show Ending.returned (.int .i64 0) = .returned (.int .i64 v) by rw [HVE.out]), below_join HB.out HKv1.out hle⟩
  have ok := HR0.out.1 rfl
  have HOK := Lib.hid ok
  have HVE := Lib.hid (show soFar z pd z.s.hosts.length = v from HV.out)
  have HDL := Lib.hid (show z.d.hosts.length = z.s.hosts.length from ok.2.2.1)
  have hd16 := (siteOk_iff.1 ok.1).nhosts.2
  clear ok
  obtain ⟨f0, f1, f2, f3, f4, f5, f6, g0, g1, g2⟩ := HF.out v1 HKv1.out
  go_wp2_with (fail)
  clear f0 f1 f2 f3 f4 f5 f6 g0 g1 g2
  go_loopw [9, 20] (fun sm i wr => ∃ k : Nat, k ≤ z.s.hosts.length ∧ sm = .int .i64 (soFar z pd k) ∧ i = .int .i64 (k : Int) ∧ Hid (Below W.heap.size W wr)) (fun _ i _ => z.s.hosts.length - (intOf i).toNat)
  case atStart => exact ⟨0, Nat.zero_le _, rfl, rfl, HKv1⟩
  case round =>
    obtain ⟨k, hk, rfl, rfl, hK⟩ := hrel
    have hki : ((k : Nat) : Int).toNat = k := by omega
    obtain ⟨S, hS⟩ : ∃ S, soFar z pd k = S := ⟨_, rfl⟩
    have HS := Lib.hid hS
    have bS := soFar_bd HOK.out pd hk
    rw [hS] at bS
    rw [hS]
    clear hS
    by_cases hlt : k < z.s.hosts.length
    · obtain ⟨x, y, hx, hy, -, bi, bp⟩ := host_ok HOK.out hlt
      have HXX := Lib.hid hx
      have HYY := Lib.hid hy
      obtain ⟨pb, po, e6, hpb, x0, x1, x2, x3⟩ := hs_at (HZ.out wr hK.out) hx
      rw [HA6.out] at e6
      subst e6
      obtain ⟨f0, f1, f2, f3, f4, f5, f6, g0, g1, g2⟩ := HF.out wr hK.out
      have hki2 : (k : Int) < (z.s.hosts.length : Int) := by omega
      have hki3 : (k : Int) < (z.d.hosts.length : Int) := by have := HDL.out; omega
      obtain ⟨V, hV⟩ : ∃ X, X = wr.alloc (.cells #[.int .i64 x.rack, .int .i64 x.cores, .int .i64 x.idle, .int .i64 x.per] 89) := ⟨_, rfl⟩
      have bV : Below wr.heap.size wr V := by rw [hV]; exact (Below.refl _ _).alloc (Nat.le_refl _) _
      have BV : V.heap[wr.heap.size]? = some (.cells #[.int .i64 x.rack, .int .i64 x.cores, .int .i64 x.idle, .int .i64 x.per] 89 (0, 0)) := by rw [hV]; exact box_new _ _ _
      have HKV := Lib.hid (below_join hK.out bV hK.out.size)
      have HBV := Lib.hid (fun (X : World) (hX : Below V.heap.size V X) => (⟨cell_of (box_on BV hX (Nat.le_refl _)) rfl, cell_of (box_on BV hX (Nat.le_refl _)) rfl, cell_of (box_on BV hX (Nat.le_refl _)) rfl, cell_of (box_on BV hX (Nat.le_refl _)) rfl⟩ : X.cell? ⟨wr.heap.size, 0, none⟩ = some (.int .i64 x.rack) ∧ X.cell? ⟨wr.heap.size, 1, none⟩ = some (.int .i64 x.cores) ∧ X.cell? ⟨wr.heap.size, 2, none⟩ = some (.int .i64 x.idle) ∧ X.cell? ⟨wr.heap.size, 3, none⟩ = some (.int .i64 x.per)))
      have HKVV := Lib.hid (Below.refl V.heap.size V)
      clear hx hy bV BV
      rcases hp : pd k with _ | _
      · have HP := Lib.hid hp
        have HSN := Lib.hid (soFar_no hp (z := z))
        clear hp
        go_wp2_with (fail)
        rw [← hV]
        clear hV x0 x1 x2 x3 f0 f1 f2 f3 f4 f5 f6 g0 g1 g2
        go_at_call 138
        refine (HCL.out V (below_join HB.out HKV.out hle) HOK.out k hlt false HP.out).mono ?_
        rintro e v2 ⟨rfl, bb⟩
        have HK2 := Lib.hid (below_join HKV.out bb HKV.out.size)
        clear bb
        go_wp2_with (fail)
        go_roundw
        case rel => exact ⟨k + 1, by omega, by rw [HSN.out, HS.out], by go_num, HK2⟩
        case measure => simp only [intOf]; omega
      · have HP := Lib.hid hp
        clear hp
        rcases h4 : ((y.phase : Int) == 4) with _ | _
        · obtain ⟨u, hu⟩ : ∃ u, usedD z.ss z.d.reps (k : Int) = u := ⟨_, rfl⟩
          have HU := Lib.hid hu
          have bu := used_bd HOK.out (k : Int)
          rw [show usedD (Sn.ss z) z.d.reps (k : Int) = u from hu] at bu
          obtain ⟨pr, hpr⟩ : ∃ t, x.per * u = t := ⟨_, rfl⟩
          have HPR := Lib.hid hpr
          have bpr : 0 ≤ pr ∧ pr ≤ 24000000 := by
            rw [← hpr]
            have p1 := Int.mul_nonneg bp.1 bu.1
            have p2 : x.per * u ≤ 1000 * u := Int.mul_le_mul_of_nonneg_right bp.2 bu.1
            omega
          have HSY := Lib.hid (show soFar z pd (k + 1) = S + (x.idle + pr) by
            rw [soFar_yes HXX.out HYY.out HP.out (by intro h; rw [h] at h4; simp at h4), HS.out, HU.out, HPR.out])
          have hne : ((y.phase : Int) != 4) = true := by unfold bne; rw [h4]; rfl
          clear hu hpr
          go_wp2_with (fail)
          rw [← hV]
          clear hV x0 x1 x2 x3 f0 f1 f2 f3 f4 f5 f6 g0 g1 g2
          go_at_call 138
          refine (HCL.out V (below_join HB.out HKV.out hle) HOK.out k hlt true HP.out).mono ?_
          rintro e v2 ⟨rfl, bb⟩
          have HKK2 := Lib.hid (below_join HKVV.out bb (Nat.le_refl _))
          have HK2 := Lib.hid (below_join HKV.out bb HKV.out.size)
          obtain ⟨f0, f1, f2, f3, f4, f5, f6, g0, g1, g2⟩ := HF.out v2 HK2.out
          obtain ⟨qb, qo, e1, hqb, y0⟩ := ho_at (HZ.out v2 HK2.out) HYY.out
          rw [e1] at g1
          clear bb e1
          go_wp2_with (fail)
          obtain ⟨j0, j1, j2, j3⟩ := HBV.out v2 HKK2.out
          obtain ⟨f0, f1, f2, f3, f4, f5, f6, g0, g1, g2⟩ := HF.out v2 HK2.out
          go_region_held3 (fun X => (X.cell? ⟨B, 0, none⟩ = some (.slice z.p.a1 z.s.feeds.length z.p.c1) ∧ X.cell? ⟨B, 1, none⟩ = some (.slice z.p.a2 z.s.brks.length z.p.c2) ∧ X.cell? ⟨B, 2, none⟩ = some (.slice z.p.a3 z.s.loops.length z.p.c3) ∧ X.cell? ⟨B, 3, none⟩ = some (.slice z.p.a4 z.s.racks.length z.p.c4) ∧ X.cell? ⟨B, 4, none⟩ = some (.int .i64 z.s.sw) ∧ X.cell? ⟨B, 5, none⟩ = some (.slice z.p.a5 z.s.links.length z.p.c5) ∧ X.cell? ⟨B, 6, none⟩ = some (.slice (some ⟨pb, po, none⟩) z.s.hosts.length z.p.c6) ∧ X.cell? ⟨B + 1, 0, none⟩ = some (.slice z.A z.xs.length z.c) ∧ X.cell? ⟨B + 1 + 1, 0, none⟩ = some (.slice z.q.a1 z.d.hosts.length z.q.c1) ∧ X.cell? ⟨B + 1 + 1, 1, none⟩ = some (.slice z.q.a2 z.d.reps.length z.q.c2)) ∧ X.cell? ⟨wr.heap.size, 2, none⟩ = some (.int .i64 x.idle) ∧ X.cell? ⟨wr.heap.size, 3, none⟩ = some (.int .i64 x.per))
            (first | exact ⟨HF.out v3 HK3.out, (HBV.out v3 HKK3.out).2.2⟩ | exact ⟨HF.out v2 HK2.out, (HBV.out v2 HKK2.out).2.2⟩ | fail)
            (first
              | (go_at_call 93; (with_reducible refine (c_usedTo z (k : Int) u HU.out v2.drew (HZ.out v2.drew HK2.out.drew)).mono ?_); rintro e v3 ⟨rfl, bb0⟩; have bb := below_join (Below.refl v2.heap.size v2).drew bb0 (Nat.le_refl _); have HK3 := Lib.hid (below_join HK2.out bb HK2.out.size); have HKK3 := Lib.hid (below_join HKK2.out bb HKK2.out.size); clear bb bb0)
              | fail)
          go_wp2_with (fail)
          go_roundw
          case rel => exact ⟨k + 1, by omega, by rw [HSY.out, HPR.out, wrap_in (x := pr) (by omega) (by omega), wrap_in (x := x.idle + pr) (by omega) (by omega), wrap_in (by omega) (by omega)], by go_num, HK3⟩
          case measure => simp only [intOf]; omega
        · have HSN := Lib.hid (soFar_off (z := z) (b := pd) HYY.out (by have := eq_of_beq h4; omega))
          have hne : ((y.phase : Int) != 4) = false := by unfold bne; rw [h4]; rfl
          go_wp2_with (fail)
          rw [← hV]
          clear hV x0 x1 x2 x3 f0 f1 f2 f3 f4 f5 f6 g0 g1 g2
          go_at_call 138
          refine (HCL.out V (below_join HB.out HKV.out hle) HOK.out k hlt true HP.out).mono ?_
          rintro e v2 ⟨rfl, bb⟩
          have HK2 := Lib.hid (below_join HKV.out bb HKV.out.size)
          obtain ⟨f0, f1, f2, f3, f4, f5, f6, g0, g1, g2⟩ := HF.out v2 HK2.out
          obtain ⟨qb, qo, e1, hqb, y0⟩ := ho_at (HZ.out v2 HK2.out) HYY.out
          rw [e1] at g1
          clear bb e1
          go_wp2_with (fail)
          go_roundw
          case rel => exact ⟨k + 1, by omega, by rw [HSN.out, HS.out], by go_num, HK2⟩
          case measure => simp only [intOf]; omega
    · obtain rfl : k = z.s.hosts.length := by omega
      have HVS := Lib.hid (show S = v by rw [← HVE.out, HS.out])
      go_wp2_with (fail)
      go_ret
      exact ⟨(show Ending.returned (.int .i64 S) = .returned (.int .i64 v) by rw [HVS.out]), below_join HB.out hK.out hle⟩
end Go.Proofs.YtbbadnlaelgmlaaGreat

namespace Go.Proofs.YtbbadnlaelgmlaaGreat
open Go.RowKit
set_option maxRecDepth 100000
set_option linter.unusedVariables false
set_option linter.unusedSimpArgs false

set_option maxHeartbeats 4000000 in
theorem c_pwWatts (z : Sn) (r0 : Bool) (hr0 : r0 = true ↔ z.Ok) (k : Int) (w : World) (hz : SnAt w z) (v : Int) (hv : pwV z r0 (isHost k) = v) :
    Calls Tryz.prog 140 #[.agg #[.slice z.p.a1 z.s.feeds.length z.p.c1, .slice z.p.a2 z.s.brks.length z.p.c2, .slice z.p.a3 z.s.loops.length z.p.c3, .slice z.p.a4 z.s.racks.length z.p.c4, .int .i64 z.s.sw, .slice z.p.a5 z.s.links.length z.p.c5, .slice z.p.a6 z.s.hosts.length z.p.c6], .agg #[.slice z.A z.xs.length z.c], .agg #[.slice z.q.a1 z.d.hosts.length z.q.c1, .slice z.q.a2 z.d.reps.length z.q.c2], .int .i64 k] w fun e w' => e = .returned (.int .i64 v) ∧ Below w.heap.size w w' := by
  obtain ⟨W1, h1⟩ : ∃ W, W = w.alloc (.cells #[.slice z.p.a1 z.s.feeds.length z.p.c1, .slice z.p.a2 z.s.brks.length z.p.c2, .slice z.p.a3 z.s.loops.length z.p.c3, .slice z.p.a4 z.s.racks.length z.p.c4, .int .i64 z.s.sw, .slice z.p.a5 z.s.links.length z.p.c5, .slice z.p.a6 z.s.hosts.length z.p.c6] 29) := ⟨_, rfl⟩
  obtain ⟨W2, h2⟩ : ∃ W, W = W1.alloc (.cells #[.slice z.A z.xs.length z.c] 32) := ⟨_, rfl⟩
  obtain ⟨W3, h3⟩ : ∃ W, W = W2.alloc (.cells #[.slice z.q.a1 z.d.hosts.length z.q.c1, .slice z.q.a2 z.d.reps.length z.q.c2] 36) := ⟨_, rfl⟩
  obtain ⟨B0, X1⟩ := sn_boxes h1 h2 h3
  have z3 : W3.heap.size = w.heap.size + 1 + 1 + 1 := sn_size h1 h2 h3
  obtain ⟨W, h4⟩ : ∃ W, W = W3.alloc (.cells #[.int .i64 k] 3) := ⟨_, rfl⟩
  have B1 : Below w.heap.size w W := by rw [h4]; exact B0.alloc B0.size _
  have M0 : W.heap[w.heap.size + 1 + 1 + 1]? = some (.cells #[.int .i64 k] 3 (0, 0)) := by rw [h4, ← z3]; exact box_new _ _ _
  have z4 : W.heap.size = w.heap.size + 1 + 1 + 1 + 1 := by rw [h4, World.size_alloc, z3]
  have X2 : SnBx W w.heap.size z := by rw [h4]; exact X1.alloc _
  have HB := Lib.hid B1
  have Z0 := hz.on B1 (Nat.le_refl _)
  have HZ := Lib.hid (fun (X : World) (hX : Below W.heap.size W X) => Z0.on hX (Nat.le_refl _))
  have HF := Lib.hid (fun (X : World) (hX : Below W.heap.size W X) => ((X2.on hX (Nat.le_refl _)).cells : X.cell? ⟨w.heap.size, 0, none⟩ = some (.slice z.p.a1 z.s.feeds.length z.p.c1) ∧ X.cell? ⟨w.heap.size, 1, none⟩ = some (.slice z.p.a2 z.s.brks.length z.p.c2) ∧ X.cell? ⟨w.heap.size, 2, none⟩ = some (.slice z.p.a3 z.s.loops.length z.p.c3) ∧ X.cell? ⟨w.heap.size, 3, none⟩ = some (.slice z.p.a4 z.s.racks.length z.p.c4) ∧ X.cell? ⟨w.heap.size, 4, none⟩ = some (.int .i64 z.s.sw) ∧ X.cell? ⟨w.heap.size, 5, none⟩ = some (.slice z.p.a5 z.s.links.length z.p.c5) ∧ X.cell? ⟨w.heap.size, 6, none⟩ = some (.slice z.p.a6 z.s.hosts.length z.p.c6) ∧ X.cell? ⟨w.heap.size + 1, 0, none⟩ = some (.slice z.A z.xs.length z.c) ∧ X.cell? ⟨w.heap.size + 1 + 1, 0, none⟩ = some (.slice z.q.a1 z.d.hosts.length z.q.c1) ∧ X.cell? ⟨w.heap.size + 1 + 1, 1, none⟩ = some (.slice z.q.a2 z.d.reps.length z.q.c2)))
  have HX := Lib.hid (fun (X : World) (hX : Below W.heap.size W X) => X2.on hX (Nat.le_refl _))
  have HM0 := Lib.hid (fun (X : World) (hX : Below W.heap.size W X) => (box_on M0 hX (Nat.le_refl _) : X.heap[w.heap.size + 1 + 1 + 1]? = some (.cells #[.int .i64 k] 3 (0, 0))))
  have HKW := Lib.hid (Below.refl W.heap.size W)
  have hle := HB.out.size
  obtain ⟨n1, n2, n3, n4, n5, n6, n7, n8⟩ := hz.bounds
  have HCL := Lib.hid (fun (X : World) (hX : Below W.heap.size W X) => c_loadHost z r0 hr0 (w.heap.size + 1 + 1 + 1) k X (HZ.out X hX) (cell_of (HM0.out X hX) rfl) (at_lt (HM0.out X hX)) v hv)
  clear hr0 hv
  clear hz B0 X1 z3 Z0 B1 M0 z4 X2
  obtain ⟨f0, f1, f2, f3, f4, f5, f6, g0, g1, g2⟩ := HF.out W HKW.out
  have m00 := cell_of (HM0.out W HKW.out) (o := 0) rfl
  rw [h4, h3, h2, h1] at f0 f1 f2 f3 f4 f5 f6 g0 g1 g2 m00
  generalize hBB : w.heap.size = B at *
  go_enter Tryz.func140, Tryz.ntmps140
  go_wp2_with (fail)
  rw [← h1, ← h2, ← h3, ← h4]
  clear h1 h2 h3 h4 f0 f1 f2 f3 f4 f5 f6 g0 g1 g2 m00
  go_at_call 135
  refine (HCL.out W HKW.out).mono ?_
  rintro e v1 ⟨rfl, bb⟩
  have HKv1 := Lib.hid (below_join HKW.out bb HKW.out.size)
  clear bb
  go_wp2_with (fail)
  go_ret
  exact ⟨rfl, below_join HB.out HKv1.out hle⟩
set_option maxHeartbeats 4000000 in
theorem c_pwOfBreaker (z : Sn) (r0 : Bool) (hr0 : r0 = true ↔ z.Ok) (k : Int) (w : World) (hz : SnAt w z) (v : Int) (hv : pwV z r0 (isBrk z.s k) = v) :
    Calls Tryz.prog 105 #[.agg #[.slice z.p.a1 z.s.feeds.length z.p.c1, .slice z.p.a2 z.s.brks.length z.p.c2, .slice z.p.a3 z.s.loops.length z.p.c3, .slice z.p.a4 z.s.racks.length z.p.c4, .int .i64 z.s.sw, .slice z.p.a5 z.s.links.length z.p.c5, .slice z.p.a6 z.s.hosts.length z.p.c6], .agg #[.slice z.A z.xs.length z.c], .agg #[.slice z.q.a1 z.d.hosts.length z.q.c1, .slice z.q.a2 z.d.reps.length z.q.c2], .int .i64 k] w fun e w' => e = .returned (.int .i64 v) ∧ Below w.heap.size w w' := by
  obtain ⟨W1, h1⟩ : ∃ W, W = w.alloc (.cells #[.slice z.p.a1 z.s.feeds.length z.p.c1, .slice z.p.a2 z.s.brks.length z.p.c2, .slice z.p.a3 z.s.loops.length z.p.c3, .slice z.p.a4 z.s.racks.length z.p.c4, .int .i64 z.s.sw, .slice z.p.a5 z.s.links.length z.p.c5, .slice z.p.a6 z.s.hosts.length z.p.c6] 29) := ⟨_, rfl⟩
  obtain ⟨W2, h2⟩ : ∃ W, W = W1.alloc (.cells #[.slice z.A z.xs.length z.c] 32) := ⟨_, rfl⟩
  obtain ⟨W3, h3⟩ : ∃ W, W = W2.alloc (.cells #[.slice z.q.a1 z.d.hosts.length z.q.c1, .slice z.q.a2 z.d.reps.length z.q.c2] 36) := ⟨_, rfl⟩
  obtain ⟨B0, X1⟩ := sn_boxes h1 h2 h3
  have z3 : W3.heap.size = w.heap.size + 1 + 1 + 1 := sn_size h1 h2 h3
  obtain ⟨W, h4⟩ : ∃ W, W = W3.alloc (.cells #[.int .i64 k] 3) := ⟨_, rfl⟩
  have B1 : Below w.heap.size w W := by rw [h4]; exact B0.alloc B0.size _
  have M0 : W.heap[w.heap.size + 1 + 1 + 1]? = some (.cells #[.int .i64 k] 3 (0, 0)) := by rw [h4, ← z3]; exact box_new _ _ _
  have z4 : W.heap.size = w.heap.size + 1 + 1 + 1 + 1 := by rw [h4, World.size_alloc, z3]
  have X2 : SnBx W w.heap.size z := by rw [h4]; exact X1.alloc _
  have HB := Lib.hid B1
  have Z0 := hz.on B1 (Nat.le_refl _)
  have HZ := Lib.hid (fun (X : World) (hX : Below W.heap.size W X) => Z0.on hX (Nat.le_refl _))
  have HF := Lib.hid (fun (X : World) (hX : Below W.heap.size W X) => ((X2.on hX (Nat.le_refl _)).cells : X.cell? ⟨w.heap.size, 0, none⟩ = some (.slice z.p.a1 z.s.feeds.length z.p.c1) ∧ X.cell? ⟨w.heap.size, 1, none⟩ = some (.slice z.p.a2 z.s.brks.length z.p.c2) ∧ X.cell? ⟨w.heap.size, 2, none⟩ = some (.slice z.p.a3 z.s.loops.length z.p.c3) ∧ X.cell? ⟨w.heap.size, 3, none⟩ = some (.slice z.p.a4 z.s.racks.length z.p.c4) ∧ X.cell? ⟨w.heap.size, 4, none⟩ = some (.int .i64 z.s.sw) ∧ X.cell? ⟨w.heap.size, 5, none⟩ = some (.slice z.p.a5 z.s.links.length z.p.c5) ∧ X.cell? ⟨w.heap.size, 6, none⟩ = some (.slice z.p.a6 z.s.hosts.length z.p.c6) ∧ X.cell? ⟨w.heap.size + 1, 0, none⟩ = some (.slice z.A z.xs.length z.c) ∧ X.cell? ⟨w.heap.size + 1 + 1, 0, none⟩ = some (.slice z.q.a1 z.d.hosts.length z.q.c1) ∧ X.cell? ⟨w.heap.size + 1 + 1, 1, none⟩ = some (.slice z.q.a2 z.d.reps.length z.q.c2)))
  have HX := Lib.hid (fun (X : World) (hX : Below W.heap.size W X) => X2.on hX (Nat.le_refl _))
  have HM0 := Lib.hid (fun (X : World) (hX : Below W.heap.size W X) => (box_on M0 hX (Nat.le_refl _) : X.heap[w.heap.size + 1 + 1 + 1]? = some (.cells #[.int .i64 k] 3 (0, 0))))
  have HKW := Lib.hid (Below.refl W.heap.size W)
  have hle := HB.out.size
  obtain ⟨n1, n2, n3, n4, n5, n6, n7, n8⟩ := hz.bounds
  have HCL := Lib.hid (fun (X : World) (hX : Below W.heap.size W X) => c_loadBrk z r0 hr0 w.heap.size (w.heap.size + 1 + 1 + 1) k X (HZ.out X hX) ((HX.out X hX).b1) (cell_of (HM0.out X hX) rfl) (at_lt (HM0.out X hX)) v hv)
  clear hr0 hv
  clear hz B0 X1 z3 Z0 B1 M0 z4 X2
  obtain ⟨f0, f1, f2, f3, f4, f5, f6, g0, g1, g2⟩ := HF.out W HKW.out
  have m00 := cell_of (HM0.out W HKW.out) (o := 0) rfl
  rw [h4, h3, h2, h1] at f0 f1 f2 f3 f4 f5 f6 g0 g1 g2 m00
  generalize hBB : w.heap.size = B at *
  go_enter Tryz.func105, Tryz.ntmps105
  go_wp2_with (fail)
  rw [← h1, ← h2, ← h3, ← h4]
  clear h1 h2 h3 h4 f0 f1 f2 f3 f4 f5 f6 g0 g1 g2 m00
  go_at_call 135
  refine (HCL.out W HKW.out).mono ?_
  rintro e v1 ⟨rfl, bb⟩
  have HKv1 := Lib.hid (below_join HKW.out bb HKW.out.size)
  clear bb
  go_wp2_with (fail)
  go_ret
  exact ⟨rfl, below_join HB.out HKv1.out hle⟩
set_option maxHeartbeats 4000000 in
theorem c_pwOfFeed (z : Sn) (r0 : Bool) (hr0 : r0 = true ↔ z.Ok) (k : Int) (w : World) (hz : SnAt w z) (v : Int) (hv : pwV z r0 (isFeed z.s k) = v) :
    Calls Tryz.prog 106 #[.agg #[.slice z.p.a1 z.s.feeds.length z.p.c1, .slice z.p.a2 z.s.brks.length z.p.c2, .slice z.p.a3 z.s.loops.length z.p.c3, .slice z.p.a4 z.s.racks.length z.p.c4, .int .i64 z.s.sw, .slice z.p.a5 z.s.links.length z.p.c5, .slice z.p.a6 z.s.hosts.length z.p.c6], .agg #[.slice z.A z.xs.length z.c], .agg #[.slice z.q.a1 z.d.hosts.length z.q.c1, .slice z.q.a2 z.d.reps.length z.q.c2], .int .i64 k] w fun e w' => e = .returned (.int .i64 v) ∧ Below w.heap.size w w' := by
  obtain ⟨W1, h1⟩ : ∃ W, W = w.alloc (.cells #[.slice z.p.a1 z.s.feeds.length z.p.c1, .slice z.p.a2 z.s.brks.length z.p.c2, .slice z.p.a3 z.s.loops.length z.p.c3, .slice z.p.a4 z.s.racks.length z.p.c4, .int .i64 z.s.sw, .slice z.p.a5 z.s.links.length z.p.c5, .slice z.p.a6 z.s.hosts.length z.p.c6] 29) := ⟨_, rfl⟩
  obtain ⟨W2, h2⟩ : ∃ W, W = W1.alloc (.cells #[.slice z.A z.xs.length z.c] 32) := ⟨_, rfl⟩
  obtain ⟨W3, h3⟩ : ∃ W, W = W2.alloc (.cells #[.slice z.q.a1 z.d.hosts.length z.q.c1, .slice z.q.a2 z.d.reps.length z.q.c2] 36) := ⟨_, rfl⟩
  obtain ⟨B0, X1⟩ := sn_boxes h1 h2 h3
  have z3 : W3.heap.size = w.heap.size + 1 + 1 + 1 := sn_size h1 h2 h3
  obtain ⟨W, h4⟩ : ∃ W, W = W3.alloc (.cells #[.int .i64 k] 3) := ⟨_, rfl⟩
  have B1 : Below w.heap.size w W := by rw [h4]; exact B0.alloc B0.size _
  have M0 : W.heap[w.heap.size + 1 + 1 + 1]? = some (.cells #[.int .i64 k] 3 (0, 0)) := by rw [h4, ← z3]; exact box_new _ _ _
  have z4 : W.heap.size = w.heap.size + 1 + 1 + 1 + 1 := by rw [h4, World.size_alloc, z3]
  have X2 : SnBx W w.heap.size z := by rw [h4]; exact X1.alloc _
  have HB := Lib.hid B1
  have Z0 := hz.on B1 (Nat.le_refl _)
  have HZ := Lib.hid (fun (X : World) (hX : Below W.heap.size W X) => Z0.on hX (Nat.le_refl _))
  have HF := Lib.hid (fun (X : World) (hX : Below W.heap.size W X) => ((X2.on hX (Nat.le_refl _)).cells : X.cell? ⟨w.heap.size, 0, none⟩ = some (.slice z.p.a1 z.s.feeds.length z.p.c1) ∧ X.cell? ⟨w.heap.size, 1, none⟩ = some (.slice z.p.a2 z.s.brks.length z.p.c2) ∧ X.cell? ⟨w.heap.size, 2, none⟩ = some (.slice z.p.a3 z.s.loops.length z.p.c3) ∧ X.cell? ⟨w.heap.size, 3, none⟩ = some (.slice z.p.a4 z.s.racks.length z.p.c4) ∧ X.cell? ⟨w.heap.size, 4, none⟩ = some (.int .i64 z.s.sw) ∧ X.cell? ⟨w.heap.size, 5, none⟩ = some (.slice z.p.a5 z.s.links.length z.p.c5) ∧ X.cell? ⟨w.heap.size, 6, none⟩ = some (.slice z.p.a6 z.s.hosts.length z.p.c6) ∧ X.cell? ⟨w.heap.size + 1, 0, none⟩ = some (.slice z.A z.xs.length z.c) ∧ X.cell? ⟨w.heap.size + 1 + 1, 0, none⟩ = some (.slice z.q.a1 z.d.hosts.length z.q.c1) ∧ X.cell? ⟨w.heap.size + 1 + 1, 1, none⟩ = some (.slice z.q.a2 z.d.reps.length z.q.c2)))
  have HX := Lib.hid (fun (X : World) (hX : Below W.heap.size W X) => X2.on hX (Nat.le_refl _))
  have HM0 := Lib.hid (fun (X : World) (hX : Below W.heap.size W X) => (box_on M0 hX (Nat.le_refl _) : X.heap[w.heap.size + 1 + 1 + 1]? = some (.cells #[.int .i64 k] 3 (0, 0))))
  have HKW := Lib.hid (Below.refl W.heap.size W)
  have hle := HB.out.size
  obtain ⟨n1, n2, n3, n4, n5, n6, n7, n8⟩ := hz.bounds
  have HCL := Lib.hid (fun (X : World) (hX : Below W.heap.size W X) => c_loadFeed z r0 hr0 w.heap.size (w.heap.size + 1 + 1 + 1) k X (HZ.out X hX) ((HX.out X hX).b1) (cell_of (HM0.out X hX) rfl) (at_lt (HM0.out X hX)) v hv)
  clear hr0 hv
  clear hz B0 X1 z3 Z0 B1 M0 z4 X2
  obtain ⟨f0, f1, f2, f3, f4, f5, f6, g0, g1, g2⟩ := HF.out W HKW.out
  have m00 := cell_of (HM0.out W HKW.out) (o := 0) rfl
  rw [h4, h3, h2, h1] at f0 f1 f2 f3 f4 f5 f6 g0 g1 g2 m00
  generalize hBB : w.heap.size = B at *
  go_enter Tryz.func106, Tryz.ntmps106
  go_wp2_with (fail)
  rw [← h1, ← h2, ← h3, ← h4]
  clear h1 h2 h3 h4 f0 f1 f2 f3 f4 f5 f6 g0 g1 g2 m00
  go_at_call 135
  refine (HCL.out W HKW.out).mono ?_
  rintro e v1 ⟨rfl, bb⟩
  have HKv1 := Lib.hid (below_join HKW.out bb HKW.out.size)
  clear bb
  go_wp2_with (fail)
  go_ret
  exact ⟨rfl, below_join HB.out HKv1.out hle⟩
end Go.Proofs.YtbbadnlaelgmlaaGreat

namespace Go.Proofs.YtbbadnlaelgmlaaGreat
set_option linter.unusedVariables false
set_option linter.unusedSimpArgs false
set_option maxRecDepth 100000

def isLoop (s : SiteD) (k : Int) (h : Nat) : Bool := (rkAt s h).loop == k
theorem sumN_filter (b : Nat → Bool) (f : Nat → Int) (n : Nat) : sumN (fun h => if b h = true then f h else 0) n = (((List.range n).filter b).map f).sum := by
  induction n with
  | zero => rfl
  | succ n ih =>
    rw [sumN, ih, List.range_succ, List.filter_append, List.map_append, List.sum_append]
    rcases h : b n with _ | _
    · simp [List.filter_cons, h]
    · simp [List.filter_cons, h]
theorem loop_in {s : SiteD} {ss : List Svc} {d : WorldD} (ok : WorldOk s ss d) {h : Nat} (hh : h < s.hosts.length) : 0 ≤ (rkAt s h).loop ∧ (rkAt s h).loop < s.loops.length :=
  ((siteOk_iff.1 ok.1).racks _ (List.mem_of_getElem? (rk_in ok hh))).2.2.1
/-- The heat of a loop is the sum of the watts of its hosts. -/
theorem heat_mem {s : SiteD} {ss : List Svc} {d : WorldD} (ok : WorldOk s ss d) (k : Int) : ((memD s 5 k).map (fun x => loadN s ss d (isHost x))).sum = loadN s ss d (isLoop s k) := by
  have hc : cntD s 5 = s.loops.length := by unfold cntD; rw [if_pos ok.1]; rfl
  unfold memD
  rw [hc]
  unfold loadN
  rw [sumN_filter (isLoop s k)]
  split
  · rw [List.map_map]
    congr 1
    refine List.map_congr_left fun h hh => ?_
    have hh := List.mem_range.1 (List.mem_filter.1 hh).1
    show sumN (fun i => if isHost (h : Int) i = true then watN s ss d i else 0) s.hosts.length = _
    have e := load_host (s := s) (ss := ss) (d := d) (h : Int)
    unfold loadN at e
    rw [e, if_pos (by omega), Int.toNat_natCast]
  · rename_i hn
    rw [List.filter_eq_nil_iff.2 (fun h hh => by
      have hh := List.mem_range.1 hh
      have := loop_in ok hh
      unfold isLoop
      intro he
      have he := eq_of_beq he
      exact hn (ixB_iff.2 (by omega)))]
    rfl
theorem mem_len (s : SiteD) (d : Nat) (k : Int) : (memD s d k).length ≤ s.hosts.length := by
  unfold memD
  split
  · rw [List.length_map]
    exact Nat.le_trans (List.length_filter_le _ _) (by simp)
  · exact Nat.zero_le _
end Go.Proofs.YtbbadnlaelgmlaaGreat

namespace Go.Proofs.YtbbadnlaelgmlaaGreat
set_option linter.unusedVariables false
set_option linter.unusedSimpArgs false

section
variable (n : Nat) (L : Nat → Nat → Int)
/-- A walk from a: the nodes behind it, one after another. -/
def wok : Nat → List Nat → Prop
  | _, [] => True
  | a, x :: l => x < n ∧ 0 ≤ L a x ∧ wok x l
def wlen : Nat → List Nat → Int
  | _, [] => 0
  | a, x :: l => L a x + wlen x l
def wend : Nat → List Nat → Nat
  | a, [] => a
  | _, x :: l => wend x l
/-- d is the distance of a and b. -/
def IsDist (a b : Nat) (d : Int) : Prop := (∃ l, wok n L a l ∧ wend a l = b ∧ wlen L a l = d) ∧ ∀ l, wok n L a l → wend a l = b → d ≤ wlen L a l
/-- There is no way. -/
def NoWay (a b : Nat) : Prop := ∀ l, wok n L a l → wend a l ≠ b
end
section
variable {n : Nat} {L : Nat → Nat → Int}
theorem wok_app : ∀ {l m : List Nat} {a : Nat}, wok n L a (l ++ m) ↔ wok n L a l ∧ wok n L (wend a l) m
  | [], m, a => by simp [wok, wend]
  | x :: l, m, a => by
    show (x < n ∧ 0 ≤ L a x ∧ wok n L x (l ++ m)) ↔ (x < n ∧ 0 ≤ L a x ∧ wok n L x l) ∧ wok n L (wend x l) m
    rw [wok_app]
    exact ⟨fun ⟨a, b, c, d⟩ => ⟨⟨a, b, c⟩, d⟩, fun ⟨⟨a, b, c⟩, d⟩ => ⟨a, b, c, d⟩⟩
theorem wend_app : ∀ {l m : List Nat} {a : Nat}, wend a (l ++ m) = wend (wend a l) m
  | [], _, _ => rfl
  | _ :: l, m, _ => wend_app (l := l) (m := m)
theorem wlen_app : ∀ {l m : List Nat} {a : Nat}, wlen L a (l ++ m) = wlen L a l + wlen L (wend a l) m
  | [], m, a => by show wlen L a m = 0 + wlen L a m; omega
  | x :: l, m, a => by
    show L a x + wlen L x (l ++ m) = L a x + wlen L x l + wlen L (wend x l) m
    rw [wlen_app]; omega
theorem wlen_pos (hL : ∀ i j, 0 ≤ L i j → 1 ≤ L i j) : ∀ {l : List Nat} {a : Nat}, wok n L a l → (l.length : Int) ≤ wlen L a l
  | [], _, _ => by simp [wlen]
  | x :: l, a, h => by
    have h1 := wlen_pos hL h.2.2
    have h2 := hL _ _ h.2.1
    rw [List.length_cons]
    show _ ≤ L a x + wlen L x l
    omega
/-- The walk back. -/
def back : Nat → List Nat → List Nat
  | _, [] => []
  | a, x :: l => back x l ++ [a]
theorem back_ok (hs : ∀ i j, L i j = L j i) : ∀ {l : List Nat} {a : Nat}, a < n → wok n L a l → wok n L (wend a l) (back a l) ∧ wend (wend a l) (back a l) = a ∧ wlen L (wend a l) (back a l) = wlen L a l
  | [], a, ha, _ => ⟨trivial, rfl, rfl⟩
  | x :: l, a, ha, h => by
    obtain ⟨h1, h2, h3⟩ := back_ok hs h.1 h.2.2
    show wok n L (wend x l) (back x l ++ [a]) ∧ wend (wend x l) (back x l ++ [a]) = a ∧ wlen L (wend x l) (back x l ++ [a]) = L a x + wlen L x l
    rw [wok_app, wend_app, wlen_app, h2, h3]
    refine ⟨⟨h1, ha, by rw [hs]; exact h.2.1, trivial⟩, rfl, ?_⟩
    show wlen L x l + (L x a + 0) = _
    rw [hs x a]; omega
theorem IsDist.uniq {a b : Nat} {d e : Int} (h : IsDist n L a b d) (k : IsDist n L a b e) : d = e := by
  obtain ⟨⟨l, l1, l2, l3⟩, h2⟩ := h
  obtain ⟨⟨m, m1, m2, m3⟩, k2⟩ := k
  have := h2 m m1 m2
  have := k2 l l1 l2
  omega
theorem IsDist.sym (hs : ∀ i j, L i j = L j i) {a b : Nat} {d : Int} (ha : a < n) (hb : b < n) (h : IsDist n L a b d) : IsDist n L b a d := by
  obtain ⟨⟨l, l1, l2, l3⟩, h2⟩ := h
  obtain ⟨b1, b2, b3⟩ := back_ok hs ha l1
  rw [l2] at b1 b2 b3
  refine ⟨⟨back a l, b1, b2, by omega⟩, fun m m1 m2 => ?_⟩
  obtain ⟨c1, c2, c3⟩ := back_ok hs hb m1
  rw [m2] at c1 c2 c3
  have := h2 _ c1 c2
  omega
theorem NoWay.sym (hs : ∀ i j, L i j = L j i) {a b : Nat} (ha : a < n) (hb : b < n) (h : NoWay n L a b) : NoWay n L b a := fun m m1 m2 => by
  obtain ⟨c1, c2, c3⟩ := back_ok hs hb m1
  rw [m2] at c1 c2
  exact h _ c1 c2
theorem IsDist.self (hL : ∀ i j, 0 ≤ L i j → 1 ≤ L i j) (a : Nat) : IsDist n L a a 0 := ⟨⟨[], trivial, rfl, rfl⟩, fun l h _ => by have := wlen_pos hL h; omega⟩
/-- There is a distance, or no way. -/
theorem dist_or (hL : ∀ i j, 0 ≤ L i j → 1 ≤ L i j) (a b : Nat) : (∃ d : Nat, IsDist n L a b d) ∨ NoWay n L a b := by
  by_cases h : ∃ l, wok n L a l ∧ wend a l = b
  · left
    have key : ∀ (m : Nat) (l : List Nat), wok n L a l → wend a l = b → wlen L a l = m → ∃ d : Nat, IsDist n L a b d := by
      intro m
      induction m using Nat.strongRecOn with
      | ind m ih =>
        intro l l1 l2 l3
        by_cases hm : ∃ k, wok n L a k ∧ wend a k = b ∧ wlen L a k < m
        · obtain ⟨k, k1, k2, k3⟩ := hm
          have := wlen_pos hL k1
          exact ih (wlen L a k).toNat (by omega) k k1 k2 (by omega)
        · refine ⟨m, ⟨l, l1, l2, l3⟩, fun k k1 k2 => ?_⟩
          rcases Int.lt_or_le (wlen L a k) m with h3 | h3
          · exact absurd ⟨k, k1, k2, h3⟩ hm
          · exact h3
    obtain ⟨l, l1, l2⟩ := h
    have := wlen_pos hL l1
    exact key (wlen L a l).toNat l l1 l2 (by omega)
  · exact .inr fun l l1 l2 => h ⟨l, l1, l2⟩
/-- The better one of what was found so far and what is found by way of x. -/
def btr (w : Int) (x : Nat) (acc : Option (List Nat × Int)) : Option (List Nat × Int) → Option (List Nat × Int)
  | none => acc
  | some (l, m) =>
    match acc with
    | none => some (x :: l, w + m)
    | some (k, c) => if w + m < c then some (x :: l, w + m) else some (k, c)
/-- What the specification finds: the first shortest way on to b that visits no node again. -/
def bstL (n : Nat) (L : Nat → Nat → Int) (rec : List Nat → Nat → Option (List Nat × Int)) (vis : List Nat) (at_ : Nat) : Nat → Option (List Nat × Int)
  | 0 => none
  | x + 1 => if L at_ x < 0 ∨ x ∈ vis then bstL n L rec vis at_ x else btr (L at_ x) x (bstL n L rec vis at_ x) (rec (x :: vis) x)
def bst (n : Nat) (L : Nat → Nat → Int) (b : Nat) : Nat → List Nat → Nat → Option (List Nat × Int)
  | 0, _, at_ => if at_ = b then some ([], 0) else none
  | f + 1, vis, at_ => if at_ = b then some ([], 0) else bstL n L (bst n L b f) vis at_ n
/-- All that is found is a walk. -/
def SndR (n : Nat) (L : Nat → Nat → Int) (b at_ : Nat) (r : Option (List Nat × Int)) : Prop := ∀ l m, r = some (l, m) → wok n L at_ l ∧ wend at_ l = b ∧ wlen L at_ l = m
theorem btr_snd {b at_ x : Nat} (hx : x < n) (hw : 0 ≤ L at_ x) {acc r : Option (List Nat × Int)} (h1 : SndR n L b at_ acc) (h2 : SndR n L b x r) : SndR n L b at_ (btr (L at_ x) x acc r) := by
  have key : ∀ l m, r = some (l, m) → wok n L at_ (x :: l) ∧ wend at_ (x :: l) = b ∧ wlen L at_ (x :: l) = L at_ x + m := fun l m e => by
    obtain ⟨a, b, c⟩ := h2 l m e
    exact ⟨⟨hx, hw, a⟩, b, by show L at_ x + wlen L x l = _; omega⟩
  intro l m e
  unfold btr at e
  split at e
  · exact h1 l m e
  · split at e
    · injection e with e; injection e with e1 e2; subst e1 e2; exact key _ _ rfl
    · split at e
      · injection e with e; injection e with e1 e2; subst e1 e2; exact key _ _ rfl
      · exact h1 l m e
theorem bstL_snd {b at_ : Nat} {rec : List Nat → Nat → Option (List Nat × Int)} (hr : ∀ vis x, SndR n L b x (rec vis x)) (vis : List Nat) : ∀ k, k ≤ n → SndR n L b at_ (bstL n L rec vis at_ k)
  | 0, _ => fun l m e => by cases e
  | k + 1, hk => by
    rw [bstL]
    split
    · exact bstL_snd hr vis k (by omega)
    · rename_i h
      exact btr_snd (by omega) (by omega) (bstL_snd hr vis k (by omega)) (hr _ _)
theorem bst_snd (b : Nat) : ∀ f vis at_, SndR n L b at_ (bst n L b f vis at_)
  | 0, vis, at_ => fun l m e => by
    rw [bst] at e
    split at e
    · injection e with e; injection e with e1 e2; subst e1 e2; exact ⟨trivial, by assumption, rfl⟩
    · cases e
  | f + 1, vis, at_ => by
    rw [bst]
    split
    · intro l m e
      injection e with e; injection e with e1 e2; subst e1 e2; exact ⟨trivial, by assumption, rfl⟩
    · exact bstL_snd (fun vis x => bst_snd b f vis x) vis n (Nat.le_refl _)
/-- The next node of a shortest way to b: dd says the distances. -/
def isNext (L : Nat → Nat → Int) (dd : Nat → Int) (at_ x : Nat) : Bool := decide (0 ≤ L at_ x) && (decide (0 ≤ dd x) && decide (L at_ x + dd x = dd at_))
def nextOf (n : Nat) (L : Nat → Nat → Int) (dd : Nat → Int) (at_ : Nat) : Option Nat := (List.range n).find? (isNext L dd at_)
def gr (n : Nat) (L : Nat → Nat → Int) (b : Nat) (dd : Nat → Int) : Nat → Nat → List Nat
  | 0, _ => []
  | f + 1, at_ => if at_ = b then [] else match nextOf n L dd at_ with
    | none => []
    | some x => x :: gr n L b dd f x
/-- The distances to b, -1 where there is no way. -/
structure Dst (n : Nat) (L : Nat → Nat → Int) (b : Nat) (dd : Nat → Int) : Prop where
  is : ∀ a, a < n → 0 ≤ dd a → IsDist n L a b (dd a)
  no : ∀ a, a < n → dd a < 0 → NoWay n L a b
theorem Dst.of {b : Nat} {dd : Nat → Int} (h : Dst n L b dd) (hL : ∀ i j, 0 ≤ L i j → 1 ≤ L i j) {a : Nat} (ha : a < n) {l : List Nat} (l1 : wok n L a l) (l2 : wend a l = b) : 0 ≤ dd a ∧ dd a ≤ wlen L a l := by
  rcases Int.lt_or_le (dd a) 0 with h1 | h1
  · exact absurd l2 (h.no a ha h1 l l1)
  · exact ⟨h1, (h.is a ha h1).2 l l1 l2⟩
/-- From a node with a way there is a next one. -/
theorem Dst.next {b : Nat} {dd : Nat → Int} (h : Dst n L b dd) (hL : ∀ i j, 0 ≤ L i j → 1 ≤ L i j) {a : Nat} (ha : a < n) (hne : a ≠ b) (hd : 0 ≤ dd a) : ∃ x, nextOf n L dd a = some x ∧ x < n ∧ isNext L dd a x = true ∧ ∀ y, y < x → isNext L dd a y = false := by
  obtain ⟨⟨l, l1, l2, l3⟩, h2⟩ := h.is a ha hd
  cases l with
  | nil => exact absurd l2 hne
  | cons y l =>
    obtain ⟨hy, hw, hl⟩ := l1
    have l2' : wend y l = b := l2
    have l3' : L a y + wlen L y l = dd a := l3
    have h3 := h.of hL hy hl l2'
    obtain ⟨⟨m, m1, m2, m3⟩, -⟩ := h.is y hy h3.1
    have h4 := h2 (y :: m) ⟨hy, hw, m1⟩ m2
    have h4' : dd a ≤ L a y + wlen L y m := h4
    have hyn : isNext L dd a y = true := by
      unfold isNext
      rw [decide_eq_true hw, decide_eq_true h3.1, decide_eq_true (by omega)]; rfl
    unfold nextOf
    cases e : (List.range n).find? (isNext L dd a) with
    | none =>
      have := List.find?_eq_none.1 e y (List.mem_range.2 hy)
      exact absurd hyn this
    | some x =>
      have hx := List.find?_some e
      have hxm := List.mem_range.1 (List.mem_of_find?_eq_some e)
      refine ⟨x, rfl, hxm, hx, fun z hz => ?_⟩
      rw [List.find?_eq_some_iff_getElem] at e
      obtain ⟨-, i, hi, e1, e2⟩ := e
      rw [List.getElem_range] at e1
      have := e2 z (by omega)
      rw [List.getElem_range] at this
      simpa using this
theorem isNext_iff {dd : Nat → Int} {a x : Nat} : isNext L dd a x = true ↔ 0 ≤ L a x ∧ 0 ≤ dd x ∧ L a x + dd x = dd a := by
  unfold isNext; simp
/-- What is found among the first nodes: nothing as short as d before the next node x0, then the way by x0. -/
theorem bstL_first {b : Nat} {dd : Nat → Int} (h : Dst n L b dd) (hL : ∀ i j, 0 ≤ L i j → 1 ≤ L i j) {rec : List Nat → Nat → Option (List Nat × Int)} (hr : ∀ vis x, SndR n L b x (rec vis x)) {vis : List Nat} {at_ x0 : Nat} (hx0 : x0 < n) (hn : isNext L dd at_ x0 = true) (hf : ∀ y, y < x0 → isNext L dd at_ y = false) (hv : x0 ∉ vis) {g : List Nat} (hg : rec (x0 :: vis) x0 = some (g, dd x0)) (hat : 0 ≤ dd at_) (hd : IsDist n L at_ b (dd at_)) :
    ∀ k, k ≤ n → (k ≤ x0 → ∀ l m, bstL n L rec vis at_ k = some (l, m) → dd at_ < m) ∧ (x0 < k → bstL n L rec vis at_ k = some (x0 :: g, dd at_)) := by
  obtain ⟨n1, n2, n3⟩ := isNext_iff.1 hn
  intro k
  induction k with
  | zero => exact fun _ => ⟨fun _ l m e => (by cases e), fun e => absurd e (by omega)⟩
  | succ k ih =>
    intro hk
    obtain ⟨i1, i2⟩ := ih (by omega)
    rw [bstL]
    -- what is found by way of k
    have hk2 : ∀ l m, ¬ (L at_ k < 0 ∨ k ∈ vis) → rec (k :: vis) k = some (l, m) → dd at_ ≤ L at_ k + m ∧ (k < x0 → dd at_ < L at_ k + m) := by
      intro l m hc e
      obtain ⟨r1, r2, r3⟩ := hr _ _ l m e
      have hkn : k < n := by omega
      have hw : 0 ≤ L at_ k := by omega
      have h1 := h.of hL hkn r1 r2
      have h2 := hd.2 (k :: l) ⟨hkn, hw, r1⟩ r2
      have h2' : dd at_ ≤ L at_ k + wlen L k l := h2
      refine ⟨by omega, fun hlt => ?_⟩
      rcases Int.lt_or_eq_of_le (show dd at_ ≤ L at_ k + m by omega) with h3 | h3
      · exact h3
      · exfalso
        obtain ⟨⟨q, q1, q2, q3⟩, -⟩ := h.is k hkn h1.1
        have h4 := hd.2 (k :: q) ⟨hkn, hw, q1⟩ q2
        have h4' : dd at_ ≤ L at_ k + wlen L k q := h4
        have := hf k hlt
        rw [Bool.eq_false_iff, Ne, isNext_iff] at this
        exact this ⟨hw, h1.1, by omega⟩
    refine ⟨fun hle => ?_, fun hlt => ?_⟩
    · split
      · exact i1 (by omega)
      · rename_i hc
        intro l m e
        unfold btr at e
        split at e
        · exact i1 (by omega) l m e
        · rename_i l' m' er
          have h5 := (hk2 l' m' hc er).2 (by omega)
          split at e
          · injection e with e; injection e with e1 e2; subst e1 e2; exact h5
          · rename_i kk c ea
            have h6 := i1 (by omega) kk c ea
            split at e
            · injection e with e; injection e with e1 e2; subst e1 e2; exact h5
            · injection e with e; injection e with e1 e2; subst e1 e2; exact h6
    · rcases Nat.lt_or_ge x0 k with h7 | h7
      · have e0 := i2 h7
        rw [e0]
        split
        · rfl
        · rename_i hc
          cases er : rec (k :: vis) k with
          | none => rfl
          | some r =>
            obtain ⟨l', m'⟩ := r
            have h5 := (hk2 l' m' hc er).1
            show (if L at_ k + m' < dd at_ then _ else _) = _
            rw [if_neg (by omega)]
      · obtain rfl : k = x0 := by omega
        rw [if_neg (by rintro (e | e); exact absurd e (by omega); exact hv e), hg]
        cases ea : bstL n L rec vis at_ k with
        | none => show some (k :: g, L at_ k + dd k) = _; rw [n3]
        | some r =>
          obtain ⟨l', c⟩ := r
          have h6 := i1 (Nat.le_refl _) l' c ea
          show (if L at_ k + dd k < c then _ else _) = _
          rw [if_pos (by omega), n3]
theorem nodup_full {N : Nat} {l : List Nat} (h1 : l.Nodup) (h2 : ∀ x ∈ l, x < N) {x : Nat} (hx : x < N) (hn : x ∉ l) : l.length < N := by
  have h3 : (x :: l).Nodup := List.nodup_cons.2 ⟨hn, h1⟩
  have h4 : (x :: l).length ≤ N := by
    have h5 : ∀ (N : Nat) (l : List Nat), l.Nodup → (∀ x ∈ l, x < N) → l.length ≤ N := by
      intro N
      induction N with
      | zero => intro l _ h; cases l with
        | nil => simp
        | cons a l => exact absurd (h a (by simp)) (by omega)
      | succ N ih =>
        intro l hl h
        have h6 := ih (l.filter (fun x => decide (x ≠ N))) (hl.filter _) (fun x hx => by
          have := h x (List.mem_filter.1 hx).1
          have h7 := (List.mem_filter.1 hx).2
          simp at h7
          omega)
        have h8 : l.length ≤ (l.filter (fun x => decide (x ≠ N))).length + 1 := by
          clear h6 h
          induction l with
          | nil => simp
          | cons a l il =>
            rw [List.filter_cons]
            by_cases e : a = N
            · subst e
              have h9 : l.filter (fun x => decide (x ≠ a)) = l := List.filter_eq_self.2 fun x hx => by
                simp only [decide_eq_true_eq]
                rintro rfl
                exact (List.nodup_cons.1 hl).1 hx
              rw [if_neg (by simp), h9, List.length_cons]
              exact Nat.le_refl _
            · rw [if_pos (by simp [e]), List.length_cons, List.length_cons]
              have := il (List.nodup_cons.1 hl).2
              omega
        omega
    exact h5 N _ h3 (fun y hy => by rcases List.mem_cons.1 hy with rfl | hy; exact hx; exact h2 y hy)
  rw [List.length_cons] at h4
  omega
/-- The first shortest way is the greedy one. -/
theorem bst_gr {b : Nat} {dd : Nat → Int} (h : Dst n L b dd) (hL : ∀ i j, 0 ≤ L i j → 1 ≤ L i j) (hb : b < n) : ∀ (f : Nat) (vis : List Nat) (at_ : Nat), at_ < n → 0 ≤ dd at_ → vis.Nodup → (∀ v ∈ vis, v < n) → at_ ∈ vis → (∀ v ∈ vis, v ≠ at_ → dd at_ < dd v) → n ≤ vis.length + f →
    bst n L b f vis at_ = some (gr n L b dd f at_, dd at_) := by
  have hself : dd b = 0 := by
    have h1 := h.of hL hb (l := []) trivial rfl
    exact IsDist.uniq (h.is b hb h1.1) (IsDist.self hL b)
  intro f
  induction f with
  | zero =>
    intro vis at_ hat hd hnd hvn hvat hv hf
    rw [bst]
    by_cases e : at_ = b
    · subst e; rw [if_pos rfl, hself]; rfl
    · exfalso
      obtain ⟨x0, -, hx0, hn, -⟩ := h.next hL hat e hd
      obtain ⟨n1, n2, n3⟩ := isNext_iff.1 hn
      have n4 := hL _ _ n1
      have hx0v : x0 ∉ vis := fun hm => by
        by_cases e2 : x0 = at_
        · subst e2; omega
        · have := hv x0 hm e2; omega
      have := nodup_full hnd hvn hx0 hx0v
      omega
  | succ f ih =>
    intro vis at_ hat hd hnd hvn hvat hv hf
    rw [bst, gr]
    by_cases e : at_ = b
    · subst e; rw [if_pos rfl, if_pos rfl, hself]
    · rw [if_neg e, if_neg e]
      obtain ⟨x0, e0, hx0, hn, hfirst⟩ := h.next hL hat e hd
      obtain ⟨n1, n2, n3⟩ := isNext_iff.1 hn
      have n4 := hL _ _ n1
      have hx0v : x0 ∉ vis := fun hm => by
        by_cases e2 : x0 = at_
        · subst e2; omega
        · have := hv x0 hm e2; omega
      have hg := ih (x0 :: vis) x0 hx0 n2 (List.nodup_cons.2 ⟨hx0v, hnd⟩) (fun v hv' => by rcases List.mem_cons.1 hv' with rfl | hv'; exact hx0; exact hvn v hv') (by simp) (fun v hv' hne => by
        rcases List.mem_cons.1 hv' with rfl | hv'
        · exact absurd rfl hne
        · by_cases e2 : v = at_
          · subst e2; omega
          · have := hv v hv' e2; omega) (by rw [List.length_cons]; omega)
      rw [e0]
      exact (bstL_first h hL (fun vis x => bst_snd b f vis x) hx0 hn hfirst hx0v hg hd (h.is at_ hat hd) n (Nat.le_refl _)).2 hx0
end
end Go.Proofs.YtbbadnlaelgmlaaGreat

namespace Go.Proofs.YtbbadnlaelgmlaaGreat
set_option linter.unusedVariables false
set_option linter.unusedSimpArgs false

theorem snoc_ind {α : Type} {motive : List α → Prop} (nil : motive []) (snoc : ∀ l x, motive l → motive (l ++ [x])) (l : List α) : motive l := by
  have h : ∀ m : List α, motive m.reverse := by
    intro m
    induction m with
    | nil => exact nil
    | cons x m ih => rw [List.reverse_cons]; exact snoc _ _ ih
  have := h l.reverse
  rwa [List.reverse_reverse] at this
def far : Int := 8000000
/-- The specification's link. -/
def upd (a b best : Int) (x : Lk) : Int := if ((x.a = a ∧ x.b = b) ∨ (x.a = b ∧ x.b = a)) ∧ (best < 0 ∨ x.lat < best) then x.lat else best
def lnk (l : List Lk) (a b : Int) : Int := l.foldl (upd a b) (-1)
def lkN (s : SiteD) (i j : Nat) : Int := lnk s.links (i : Int) (j : Int)
/-- The program's table. -/
def stepM (M : Nat → Nat → Int) (x : Lk) : Nat → Nat → Int := fun i j => if (i = x.a.toNat ∧ j = x.b.toNat) ∨ (i = x.b.toNat ∧ j = x.a.toNat) then min (M x.a.toNat x.b.toNat) x.lat else M i j
def lkM0 : Nat → Nat → Int := fun i j => if i = j then 0 else far
def lkM (l : List Lk) : Nat → Nat → Int := l.foldl stepM lkM0
theorem lnk_snoc (l : List Lk) (x : Lk) (a b : Int) : lnk (l ++ [x]) a b = upd a b (lnk l a b) x := by unfold lnk; rw [List.foldl_append]; rfl
theorem lkM_snoc (l : List Lk) (x : Lk) : lkM (l ++ [x]) = stepM (lkM l) x := by unfold lkM; rw [List.foldl_append]; rfl
theorem lnk_sym (l : List Lk) (a b : Int) : lnk l a b = lnk l b a := by
  induction l using snoc_ind with
  | nil => rfl
  | snoc l x ih =>
    rw [lnk_snoc, lnk_snoc, ih]
    unfold upd
    by_cases h : (x.a = a ∧ x.b = b) ∨ (x.a = b ∧ x.b = a)
    · have h' : (x.a = b ∧ x.b = a) ∨ (x.a = a ∧ x.b = b) := h.symm
      simp only [h, h', true_and]
    · have h' : ¬ ((x.a = b ∧ x.b = a) ∨ (x.a = a ∧ x.b = b)) := fun e => h e.symm
      simp only [h, h', false_and]
/-- What links are: of nodes below n, latencies from 1 to 1000000. -/
def LksOk (n : Nat) (l : List Lk) : Prop := ∀ x ∈ l, (0 ≤ x.a ∧ x.a < n) ∧ (0 ≤ x.b ∧ x.b < n) ∧ x.a ≠ x.b ∧ 1 ≤ x.lat ∧ x.lat ≤ 1000000
theorem lnk_range {n : Nat} {l : List Lk} (h : LksOk n l) (a b : Int) : lnk l a b = -1 ∨ (1 ≤ lnk l a b ∧ lnk l a b ≤ 1000000 ∧ (0 ≤ a ∧ a < n) ∧ 0 ≤ b ∧ b < n) := by
  induction l using snoc_ind with
  | nil => exact .inl rfl
  | snoc l x ih =>
    have h1 := h x (by simp)
    have h2 := ih (fun y hy => h y (by simp [hy]))
    rw [lnk_snoc]
    unfold upd
    split
    · right; omega
    · exact h2
theorem lkM_is {n : Nat} {l : List Lk} (h : LksOk n l) (i j : Nat) : lkM l i j = if i = j then 0 else if lnk l i j < 0 then far else lnk l i j := by
  induction l using snoc_ind generalizing i j with
  | nil => rfl
  | snoc l x ih =>
    have h1 := h x (by simp)
    have h0 : LksOk n l := fun y hy => h y (by simp [hy])
    have hl := lnk_range h0
    rw [lkM_snoc, lnk_snoc]
    unfold stepM upd
    by_cases c : (i = x.a.toNat ∧ j = x.b.toNat) ∨ (i = x.b.toNat ∧ j = x.a.toNat)
    · have hne : i ≠ j := by omega
      have c2 : (x.a = (i : Int) ∧ x.b = (j : Int)) ∨ (x.a = (j : Int) ∧ x.b = (i : Int)) := by omega
      rw [if_pos c, if_neg hne, ih h0, if_neg (by omega)]
      have e : lnk l ((x.a.toNat : Nat) : Int) ((x.b.toNat : Nat) : Int) = lnk l (i : Int) (j : Int) := by
        rcases c with ⟨rfl, rfl⟩ | ⟨rfl, rfl⟩
        · rfl
        · exact lnk_sym _ _ _
      rw [e]
      have := hl i j
      unfold far
      simp only [c2, true_and]
      repeat' split
      all_goals omega
    · have c2 : ¬ ((x.a = (i : Int) ∧ x.b = (j : Int)) ∨ (x.a = (j : Int) ∧ x.b = (i : Int))) := by omega
      rw [if_neg c, ih h0]
      simp only [c2, false_and, if_false]
/-- The facts on a valid site's links. -/
structure LOk (n : Nat) (L : Nat → Nat → Int) : Prop where
  pos : ∀ i j, 0 ≤ L i j → 1 ≤ L i j
  sym : ∀ i j, L i j = L j i
  top : ∀ i j, L i j ≤ 1000000
  lt : ∀ i j, 0 ≤ L i j → i < n ∧ j < n
theorem lkN_ok {s : SiteD} {n : Nat} (h : LksOk n s.links) : LOk n (lkN s) := by
  refine ⟨fun i j g => ?_, fun i j => lnk_sym _ _ _, fun i j => ?_, fun i j g => ?_⟩
  · have := lnk_range h i j; unfold lkN at *; omega
  · have := lnk_range h i j; unfold lkN at *; omega
  · have := lnk_range h i j; unfold lkN at *; omega
/-- The distance as a number, -1 where there is no way. -/
noncomputable def dV (n : Nat) (L : Nat → Nat → Int) (a b : Nat) : Int := open Classical in if h : ∃ d, IsDist n L a b d then Classical.choose h else -1
noncomputable def wV (n : Nat) (L : Nat → Nat → Int) (a b : Nat) : Int := if dV n L a b < 0 then far else dV n L a b
section
variable {n : Nat} {L : Nat → Nat → Int}
theorem dV_is (hL : LOk n L) {a b : Nat} {d : Int} (h : IsDist n L a b d) : dV n L a b = d := by
  unfold dV
  rw [dif_pos ⟨d, h⟩]
  exact (Classical.choose_spec (⟨d, h⟩ : ∃ d, IsDist n L a b d)).uniq h
theorem noway_dist {a b : Nat} {d : Int} (h : NoWay n L a b) (k : IsDist n L a b d) : False := by
  obtain ⟨⟨l, l1, l2, -⟩, -⟩ := k
  exact h l l1 l2
theorem dV_no {a b : Nat} (h : NoWay n L a b) : dV n L a b = -1 := by
  unfold dV
  rw [dif_neg (by rintro ⟨d, hd⟩; exact noway_dist h hd)]
theorem dV_cases (hL : LOk n L) (a b : Nat) : (∃ d : Nat, IsDist n L a b d ∧ dV n L a b = d) ∨ (NoWay n L a b ∧ dV n L a b = -1) := by
  rcases dist_or hL.pos a b with ⟨d, h⟩ | h
  · exact .inl ⟨d, h, dV_is hL h⟩
  · exact .inr ⟨h, dV_no h⟩
theorem dV_dst (hL : LOk n L) (b : Nat) : Dst n L b (fun a => dV n L a b) := by
  refine ⟨fun a ha h => ?_, fun a ha h => ?_⟩
  · rcases dV_cases hL a b with ⟨d, h1, h2⟩ | ⟨h1, h2⟩
    · show IsDist n L a b (dV n L a b)
      rw [h2]; exact h1
    · have : (0 : Int) ≤ dV n L a b := h
      omega
  · rcases dV_cases hL a b with ⟨d, h1, h2⟩ | ⟨h1, h2⟩
    · have : dV n L a b < (0 : Int) := h
      omega
    · exact h1
theorem dV_self (hL : LOk n L) (a : Nat) : dV n L a a = 0 := dV_is hL (IsDist.self hL.pos a)
theorem dV_ge (hL : LOk n L) (a b : Nat) : -1 ≤ dV n L a b := by
  rcases dV_cases hL a b with ⟨d, h1, h2⟩ | ⟨h1, h2⟩ <;> omega
/-- A distance is less than far. -/
theorem dst_bound (hL : LOk n L) {b : Nat} {dd : Nat → Int} (h : Dst n L b dd) (hb : b < n) : ∀ (f : Nat) (vis : List Nat) (at_ : Nat), at_ < n → 0 ≤ dd at_ → vis.Nodup → (∀ v ∈ vis, v < n) → at_ ∈ vis → (∀ v ∈ vis, v ≠ at_ → dd at_ < dd v) → n ≤ vis.length + f → dd at_ ≤ 1000000 * (f : Int) := by
  have hself : dd b = 0 := by
    have h1 := h.of hL.pos hb (l := []) trivial rfl
    exact IsDist.uniq (h.is b hb h1.1) (IsDist.self hL.pos b)
  intro f
  induction f with
  | zero =>
    intro vis at_ hat hd hnd hvn hvat hv hf
    by_cases e : at_ = b
    · subst e; omega
    · exfalso
      obtain ⟨x0, -, hx0, hn, -⟩ := h.next hL.pos hat e hd
      obtain ⟨n1, n2, n3⟩ := isNext_iff.1 hn
      have n4 := hL.pos _ _ n1
      have hx0v : x0 ∉ vis := fun hm => by
        by_cases e2 : x0 = at_
        · subst e2; omega
        · have := hv x0 hm e2; omega
      have := nodup_full hnd hvn hx0 hx0v
      omega
  | succ f ih =>
    intro vis at_ hat hd hnd hvn hvat hv hf
    by_cases e : at_ = b
    · subst e; omega
    · obtain ⟨x0, e0, hx0, hn, hfirst⟩ := h.next hL.pos hat e hd
      obtain ⟨n1, n2, n3⟩ := isNext_iff.1 hn
      have n4 := hL.pos _ _ n1
      have n5 := hL.top at_ x0
      have hx0v : x0 ∉ vis := fun hm => by
        by_cases e2 : x0 = at_
        · subst e2; omega
        · have := hv x0 hm e2; omega
      have hg := ih (x0 :: vis) x0 hx0 n2 (List.nodup_cons.2 ⟨hx0v, hnd⟩) (fun v hv' => by rcases List.mem_cons.1 hv' with rfl | hv'; exact hx0; exact hvn v hv') (by simp) (fun v hv' hne => by
        rcases List.mem_cons.1 hv' with rfl | hv'
        · exact absurd rfl hne
        · by_cases e2 : v = at_
          · subst e2; omega
          · have := hv v hv' e2; omega) (by rw [List.length_cons]; omega)
      omega
theorem wok_lt (hL : LOk n L) {a x : Nat} {l : List Nat} (h : wok n L a (x :: l)) : a < n := (hL.lt _ _ h.2.1).1
theorem wend_lt {a : Nat} (ha : a < n) : ∀ {l : List Nat}, wok n L a l → wend a l < n := by
  intro l
  induction l generalizing a with
  | nil => intro _; exact ha
  | cons x l ih => intro h; exact ih h.1 h.2.2
theorem dV_far (hL : LOk n L) (hn : n ≤ 8) (a b : Nat) : dV n L a b ≤ 7000000 := by
  rcases dV_cases hL a b with ⟨d, h1, h2⟩ | ⟨h1, h2⟩
  · obtain ⟨⟨l, l1, l2, l3⟩, h4⟩ := h1
    cases l with
    | nil =>
      have : wlen L a [] = 0 := rfl
      omega
    | cons x l =>
      have ha := wok_lt hL l1
      have hb : b < n := by rw [← l2]; exact wend_lt ha l1
      have h5 := dst_bound hL (dV_dst hL b) hb (n - 1) [a] a ha (by show 0 ≤ dV n L a b; omega) (by simp) (by simpa using ha) (by simp) (by simp) (by simp; omega)
      have h6 : dV n L a b ≤ 1000000 * ((n - 1 : Nat) : Int) := h5
      omega
  · omega
/-- The shortest lengths that are found while the nodes below k, and for P the node k too, are gone over. -/
structure FwI (n : Nat) (L : Nat → Nat → Int) (W : Nat → Nat → Int) (k : Nat) (P : Nat → Nat → Prop) : Prop where
  pos : ∀ i j, 0 ≤ W i j
  top : ∀ i j, W i j ≤ far
  snd : ∀ i j, W i j < far → ∃ l, wok n L i l ∧ wend i l = j ∧ wlen L i l = W i j
  cmp : ∀ i j l, wok n L i l → wend i l = j → (∀ x ∈ l.dropLast, x < k) → W i j ≤ wlen L i l
  cmp1 : ∀ i j l, P i j → wok n L i l → wend i l = j → (∀ x ∈ l.dropLast, x < k + 1) → W i j ≤ wlen L i l
theorem FwI.start {M : Nat → Nat → Int} (hL : LOk n L) (hM : ∀ i j, M i j = if i = j then 0 else if L i j < 0 then far else L i j) : FwI n L M 0 (fun _ _ => False) := by
  refine ⟨fun i j => ?_, fun i j => ?_, fun i j h => ?_, fun i j l h1 h2 h3 => ?_, fun i j l h => h.elim⟩
  · rw [hM]; unfold far; repeat' split
    all_goals omega
  · rw [hM]; have := hL.top i j; unfold far; repeat' split
    all_goals omega
  · rw [hM] at h ⊢
    split
    · rename_i e; exact ⟨[], trivial, e, rfl⟩
    · rename_i e
      rw [if_neg e] at h
      split
      · rename_i g; rw [if_pos g] at h; omega
      · rename_i g
        have g' : 0 ≤ L i j := by omega
        exact ⟨[j], ⟨(hL.lt _ _ g').2, g', trivial⟩, rfl, by show L i j + 0 = _; omega⟩
  · rw [hM]
    cases l with
    | nil => rw [if_pos (show i = j from h2)]; exact Int.le_refl _
    | cons x l =>
      cases l with
      | nil =>
        have e : x = j := h2
        subst e
        have g : 0 ≤ L i x := h1.2.1
        show _ ≤ L i x + 0
        split
        · omega
        · rw [if_neg (by omega)]; omega
      | cons y l => exact absurd (h3 x (by simp)) (by omega)
/-- A walk parts at a node within it. -/
theorem walk_part {a b k : Nat} {l : List Nat} (h : wok n L a l) (he : wend a l = b) (hm : ∀ x ∈ l.dropLast, x < k + 1) (hx : ∃ x ∈ l.dropLast, x = k) :
    ∃ p q, wok n L a p ∧ wend a p = k ∧ (∀ x ∈ p.dropLast, x < k) ∧ wok n L k q ∧ wend k q = b ∧ (∀ x ∈ q.dropLast, x < k + 1) ∧ wlen L a l = wlen L a p + wlen L k q ∧ q.length < l.length := by
  induction l generalizing a with
  | nil => obtain ⟨x, hx, -⟩ := hx; simp at hx
  | cons y l ih =>
    cases l with
    | nil => obtain ⟨x, hx, -⟩ := hx; simp at hx
    | cons z l =>
      rw [List.dropLast_cons_cons] at hm hx
      by_cases e : y = k
      · subst e
        exact ⟨[y], z :: l, ⟨h.1, h.2.1, trivial⟩, rfl, by simp, h.2.2, he, fun x hx => hm x (by simp [hx]), by show L a y + wlen L y (z :: l) = L a y + 0 + _; omega, by simp⟩
      · obtain ⟨p, q, p1, p2, p3, q1, q2, q3, e1, e2⟩ := ih h.2.2 he (fun x hx => hm x (by simp [hx])) (by
          obtain ⟨x, hx, rfl⟩ := hx
          rcases List.mem_cons.1 hx with rfl | hx
          · exact absurd rfl e
          · exact ⟨x, hx, rfl⟩)
        have hy := hm y (by simp)
        refine ⟨y :: p, q, ⟨h.1, h.2.1, p1⟩, p2, ?_, q1, q2, q3, ?_, by simp at e2 ⊢; omega⟩
        · cases p with
          | nil => simp
          | cons u p =>
            rw [List.dropLast_cons_cons]
            intro x hx
            rcases List.mem_cons.1 hx with rfl | hx
            · omega
            · exact p3 x hx
        · show L a y + wlen L y (z :: l) = L a y + wlen L y p + wlen L k q
          omega
/-- The last part of a walk from k, behind its last visit of k. -/
theorem walk_last {b k : Nat} : ∀ (m : Nat) (q : List Nat), q.length ≤ m → (hL : ∀ i j, 0 ≤ L i j → 1 ≤ L i j) → wok n L k q → wend k q = b → (∀ x ∈ q.dropLast, x < k + 1) → ∃ r, wok n L k r ∧ wend k r = b ∧ (∀ x ∈ r.dropLast, x < k) ∧ wlen L k r ≤ wlen L k q := by
  intro m
  induction m with
  | zero => intro q hq hL h1 h2 h3; exact ⟨q, h1, h2, fun x hx => (by cases q with
      | nil => simp at hx
      | cons y q => simp at hq), Int.le_refl _⟩
  | succ m ih =>
    intro q hq hL h1 h2 h3
    by_cases hx : ∃ x ∈ q.dropLast, x = k
    · obtain ⟨p, r, p1, p2, p3, q1, q2, q3, e1, e2⟩ := walk_part h1 h2 h3 hx
      obtain ⟨t, t1, t2, t3, t4⟩ := ih r (by omega) hL q1 q2 q3
      have := wlen_pos hL p1
      exact ⟨t, t1, t2, t3, by omega⟩
    · refine ⟨q, h1, h2, fun x hq' => ?_, Int.le_refl _⟩
      have := h3 x hq'
      have : x ≠ k := fun e => hx ⟨x, hq', e⟩
      omega
theorem FwI.step (hL : LOk n L) {W : Nat → Nat → Int} {k a b : Nat} {P : Nat → Nat → Prop} (h : FwI n L W k P) :
    FwI n L (fun i j => if i = a ∧ j = b then min (W a b) (W a k + W k b) else W i j) k (fun i j => P i j ∨ (i = a ∧ j = b)) := by
  have hle : ∀ i j, (if i = a ∧ j = b then min (W a b) (W a k + W k b) else W i j) ≤ W i j := fun i j => by
    split
    · rename_i e; obtain ⟨rfl, rfl⟩ := e; omega
    · exact Int.le_refl _
  refine ⟨fun i j => ?_, fun i j => ?_, fun i j g => ?_, fun i j l h1 h2 h3 => ?_, fun i j l hP h1 h2 h3 => ?_⟩
  · split
    · have := h.pos a b; have := h.pos a k; have := h.pos k b; omega
    · exact h.pos i j
  · have := hle i j; have := h.top i j; omega
  · split at g
    · rename_i e
      obtain ⟨rfl, rfl⟩ := e
      rw [if_pos ⟨rfl, rfl⟩]
      by_cases c : W i j ≤ W i k + W k j
      · rw [Int.min_eq_left c] at g ⊢
        exact h.snd i j g
      · have c' : W i k + W k j ≤ W i j := by omega
        rw [Int.min_eq_right c'] at g ⊢
        have := h.pos i k; have := h.pos k j
        obtain ⟨l, l1, l2, l3⟩ := h.snd i k (by omega)
        obtain ⟨m, m1, m2, m3⟩ := h.snd k j (by omega)
        exact ⟨l ++ m, wok_app.2 ⟨l1, by rw [l2]; exact m1⟩, by rw [wend_app, l2]; exact m2, by rw [wlen_app, l2]; omega⟩
    · rename_i e
      rw [if_neg e]
      exact h.snd i j g
  · exact Int.le_trans (hle i j) (h.cmp i j l h1 h2 h3)
  · rcases hP with hP | ⟨rfl, rfl⟩
    · exact Int.le_trans (hle i j) (h.cmp1 i j l hP h1 h2 h3)
    · rw [if_pos ⟨rfl, rfl⟩]
      by_cases hx : ∃ x ∈ l.dropLast, x = k
      · obtain ⟨p, q, p1, p2, p3, q1, q2, q3, e1, -⟩ := walk_part h1 h2 h3 hx
        obtain ⟨r, r1, r2, r3, r4⟩ := walk_last q.length q (Nat.le_refl _) hL.pos q1 q2 q3
        have g1 := h.cmp i k p p1 p2 p3
        have g2 := h.cmp k j r r1 r2 r3
        omega
      · have g1 := h.cmp i j l h1 h2 (fun x hq' => by
          have := h3 x hq'
          have : x ≠ k := fun e => hx ⟨x, hq', e⟩
          omega)
        omega
theorem FwI.sub {W : Nat → Nat → Int} {k : Nat} {P Q : Nat → Nat → Prop} (h : FwI n L W k P) (hPQ : ∀ i j, Q i j → P i j) : FwI n L W k Q := ⟨h.pos, h.top, h.snd, h.cmp, fun i j l g => h.cmp1 i j l (hPQ i j g)⟩
theorem FwI.next (hL : LOk n L) (hn : n ≤ 8) {W : Nat → Nat → Int} {k : Nat} {P : Nat → Nat → Prop} (h : FwI n L W k P) (hP : ∀ i j, i < 8 → j < 8 → P i j) : FwI n L W (k + 1) (fun _ _ => False) := by
  refine ⟨h.pos, h.top, h.snd, fun i j l h1 h2 h3 => ?_, fun i j l g => g.elim⟩
  cases l with
  | nil => exact h.cmp i j [] h1 h2 (by simp)
  | cons x l =>
    have hi := wok_lt hL h1
    have hj : j < n := by rw [← h2]; exact wend_lt hi h1
    exact h.cmp1 i j _ (hP i j (by omega) (by omega)) h1 h2 h3
theorem FwI.end_ (hL : LOk n L) (hn : n ≤ 8) {W : Nat → Nat → Int} {P : Nat → Nat → Prop} (h : FwI n L W 8 P) (i j : Nat) : W i j = wV n L i j := by
  have hc : ∀ l, wok n L i l → wend i l = j → W i j ≤ wlen L i l := fun l h1 h2 => h.cmp i j l h1 h2 (fun x hx => by
    have : ∀ (l : List Nat) (a : Nat), wok n L a l → ∀ x ∈ l, x < n := by
      intro l
      induction l with
      | nil => intro a _ x hx; cases hx
      | cons y l ih =>
        intro a h x hx
        rcases List.mem_cons.1 hx with rfl | hx
        · exact h.1
        · exact ih y h.2.2 x hx
    have := this l i h1 x (List.dropLast_subset l hx)
    omega)
  unfold wV
  rcases dV_cases hL i j with ⟨d, h1, h2⟩ | ⟨h1, h2⟩
  · rw [h2, if_neg (by omega)]
    have hf := dV_far hL hn i j
    obtain ⟨⟨l, l1, l2, l3⟩, h4⟩ := h1
    have g1 := hc l l1 l2
    obtain ⟨m, m1, m2, m3⟩ := h.snd i j (by unfold far; omega)
    have := h4 m m1 m2
    omega
  · rw [h2, if_pos (by omega)]
    have g := h.top i j
    rcases Int.lt_or_le (W i j) far with g1 | g1
    · obtain ⟨m, m1, m2, -⟩ := h.snd i j g1
      exact absurd m2 (h1 m m1)
    · omega
end
/-- Two tables agree at the first 8 nodes. -/
def Ag (W V : Nat → Nat → Int) : Prop := ∀ i j, i < 8 → j < 8 → W i j = V i j
end Go.Proofs.YtbbadnlaelgmlaaGreat

namespace Go.Proofs.YtbbadnlaelgmlaaGreat
set_option linter.unusedVariables false
set_option linter.unusedSimpArgs false

section
variable {n : Nat} {L : Nat → Nat → Int}
/-- The nodes that the distances lead over, to b. -/
def Grd (n : Nat) (L : Nat → Nat → Int) (dd : Nat → Int) (b : Nat) : Nat → List Nat → Prop
  | a, [] => a = b
  | a, x :: l => a ≠ b ∧ nextOf n L dd a = some x ∧ Grd n L dd b x l
theorem gr_grd {dd : Nat → Int} {b : Nat} : ∀ (f a : Nat), wend a (gr n L b dd f a) = b → Grd n L dd b a (gr n L b dd f a) := by
  intro f
  induction f with
  | zero => intro a h; exact h
  | succ f ih =>
    intro a h
    rw [gr] at h ⊢
    by_cases e : a = b
    · rw [if_pos e] at h ⊢; exact e
    · rw [if_neg e] at h ⊢
      cases hx : nextOf n L dd a with
      | none => rw [hx] at h; exact absurd h e
      | some x => rw [hx] at h; exact ⟨e, hx, ih x h⟩
/-- The way from a to b, without a. -/
noncomputable def wayV (n : Nat) (L : Nat → Nat → Int) (a b : Nat) : List Nat := gr n L b (fun x => dV n L x b) (n - 1) a
theorem bst_way (hL : LOk n L) {a b : Nat} (ha : a < n) (hb : b < n) (hd : 0 ≤ dV n L a b) : bst n L b (n - 1) [a] a = some (wayV n L a b, dV n L a b) :=
  bst_gr (dV_dst hL b) hL.pos hb (n - 1) [a] a ha hd (by simp) (by simpa using ha) (by simp) (by simp) (by simp; omega)
theorem way_ok (hL : LOk n L) {a b : Nat} (ha : a < n) (hb : b < n) (hd : 0 ≤ dV n L a b) : wok n L a (wayV n L a b) ∧ wend a (wayV n L a b) = b ∧ wlen L a (wayV n L a b) = dV n L a b :=
  bst_snd b _ _ _ _ _ (bst_way hL ha hb hd)
theorem way_grd (hL : LOk n L) {a b : Nat} (ha : a < n) (hb : b < n) (hd : 0 ≤ dV n L a b) : Grd n L (fun x => dV n L x b) b a (wayV n L a b) := gr_grd _ _ (way_ok hL ha hb hd).2.1
end
end Go.Proofs.YtbbadnlaelgmlaaGreat

namespace Go.Proofs.YtbbadnlaelgmlaaGreat
open Go.RowKit
set_option maxRecDepth 100000
set_option linter.unusedVariables false
set_option linter.unusedSimpArgs false

/-- A table as cells. -/
def matA (f : Nat → Nat → Int) : Array Value := ((List.range 64).map fun k => Value.int .i64 (f (k / 8) (k % 8))).toArray
theorem matA_size (f : Nat → Nat → Int) : (matA f).size = 64 := by simp [matA]
theorem matA_one (f : Nat → Nat → Int) : (matA f).all (·.oneCell') = true := by
  unfold matA
  rw [Array.all_eq_true]
  intro i hi
  simp at hi ⊢
  rfl
theorem matA_at (f : Nat → Nat → Int) {i j : Nat} (hi : i < 8) (hj : j < 8) : (matA f)[i * 8 + j]? = some (.int .i64 (f i j)) := by
  unfold matA
  have h : i * 8 + j < 64 := by omega
  have e1 : (i * 8 + j) / 8 = i := by omega
  simp [h, e1, Nat.mod_eq_of_lt hj]
theorem matA_ag {f g : Nat → Nat → Int} (h : Ag f g) : matA f = matA g := by
  unfold matA
  congr 1
  refine List.map_congr_left fun k hk => ?_
  rw [h _ _ (by have := List.mem_range.1 hk; omega) (by omega)]
/-- A table's block. -/
def MxAt (w : World) (b : Nat) (f : Nat → Nat → Int) : Prop := w.heap[b]? = some (.cells (matA f) 159 (0, 0))
theorem MxAt.on {w w' : World} {b : Nat} {f : Nat → Nat → Int} {B : Nat} (h : MxAt w b f) (hb : Below B w w') (hB : w.heap.size ≤ B) : MxAt w' b f := (hb.block _ (Nat.lt_of_lt_of_le (at_lt h) hB)).trans h
theorem MxAt.lt {w : World} {b : Nat} {f : Nat → Nat → Int} (h : MxAt w b f) : b < w.heap.size := at_lt h
theorem MxAt.cell {w : World} {b : Nat} {f : Nat → Nat → Int} (h : MxAt w b f) {i j : Nat} (hi : i < 8) (hj : j < 8) : w.cell? ⟨b, i * 8 + j, none⟩ = some (.int .i64 (f i j)) := cell_of h (matA_at f hi hj)
theorem MxAt.new (w : World) (f : Nat → Nat → Int) : MxAt (w.alloc (.cells (matA f) 159)) w.heap.size f := heap_alloc_new _ _
theorem MxAt.set {w : World} {b i j : Nat} {f f' : Nat → Nat → Int} (h : MxAt w b f) (hi : i < 8) (hj : j < 8) (v : Int) (hf : ∀ i' j', i' < 8 → j' < 8 → f' i' j' = if i' = i ∧ j' = j then v else f i' j') : MxAt (w.setCell ⟨b, i * 8 + j, none⟩ (.int .i64 v)) b f' := by
  have h1 := set_field (o := i * 8 + j) h (.int .i64 v)
  unfold MxAt
  rw [h1]
  congr 2
  unfold matA
  rw [List.setIfInBounds_toArray]
  congr 1
  apply List.ext_getElem?
  intro k
  rw [List.getElem?_set]
  by_cases hk : k < 64
  · by_cases e : i * 8 + j = k
    · rw [if_pos e, if_pos (by simp; omega)]
      have e1 : k / 8 = i := by omega
      have e2 : k % 8 = j := by omega
      simp [hk, e1, e2]
      rw [hf i j hi hj, if_pos ⟨rfl, rfl⟩]
    · rw [if_neg e]
      have e1 : ¬ (k / 8 = i ∧ k % 8 = j) := by omega
      simp [hk]
      rw [hf (k / 8) (k % 8) (by omega) (by omega), if_neg e1]
  · rw [if_neg (by omega)]
    rw [List.getElem?_eq_none (by simp; omega), List.getElem?_eq_none (by simp; omega)]
theorem MxAt.frz {w : World} {b : Nat} {f : Nat → Nat → Int} (h : MxAt w b f) (o : Nat) : w.frozen? ⟨b, o, none⟩ = false := Go.Proofs.YtbbadnlaelgmlaaGreat.frz h o
theorem MxAt.ag {w : World} {b : Nat} {f g : Nat → Nat → Int} (h : MxAt w b f) (k : Ag f g) : MxAt w b g := by unfold MxAt; rw [← matA_ag k]; exact h
theorem len_under : Tryz.prog.underlying 159 = some (.array 8 157) := by kernel_rfl
theorem len_size : (Tryz.prog.info? 159).map (·.size) = some 64 := by kernel_rfl
theorem len_zero : (Tryz.prog.info? 159).map (fun i => (i.zero, i.size)) = some (some (.agg (matA (fun _ _ => 0))), 64) := by kernel_rfl
/-- A whole table out of its block, and into a block. -/
theorem run_load_mx {X : World} {g : Nat} {f : Nat → Nat → Int} (h : MxAt X g f) : (Instr.loadAt 159 (.pointer (some ⟨g, 0, none⟩))).run Tryz.prog X = .ok (.agg (matA f)) X := by
  simp only [Instr.loadAt, Instr.sureAddr, Sem.run_bind, Sem.run_pure, Result.andThen]
  exact run_loadVar_row X g _ _ _ _ _ h len_under rfl (by rw [matA_size]; exact len_size)
theorem run_store_mx {X : World} {g : Nat} {f f' : Nat → Nat → Int} (h : MxAt X g f) : (Instr.storeAt 159 (.pointer (some ⟨g, 0, none⟩)) (.agg (matA f'))).run Tryz.prog X = .ok () (X.setRow g (matA f')) := by
  simp only [Instr.storeAt, Instr.sureAddr, Sem.run_bind, Sem.run_pure, Result.andThen]
  exact run_storeVar_row X g _ _ _ _ h (by rw [matA_size]; exact len_size) (by rw [matA_size, matA_size]) (matA_one _)
theorem setRow_mx {X : World} {g : Nat} {f f' : Nat → Nat → Int} (h : MxAt X g f) : MxAt (X.setRow g (matA f')) g f' := setRow_heap X g _ _ _ _ h
theorem below_row {B : Nat} {a w : World} (h : Below B a w) {g : Nat} (hg : B ≤ g) (cs : Array Value) : Below B a (w.setRow g cs) :=
  h.trans ⟨rfl, rfl, rfl, by simp [World.setRow], fun k hk => setRow_other w g k cs (by omega)⟩
theorem retMx {fn : Func} {a : Act} {W : World} {R : Ending → World → Prop} {b i : Nat} {f : Nat → Nat → Int} (hfn : fn.results = #[.cell i 159]) (hp : a.tmps[i]?.getD undef = .pointer (some ⟨b, 0, none⟩)) (hd : a.defers = [])
    (h : MxAt W b f) (hR : R (.returned (.agg (matA f))) W) : bodyPost Tryz.prog fn R .ret a W := by
  have hl := run_loadVar_row (P := Tryz.prog) W b _ _ _ _ _ h len_under rfl (by rw [matA_size]; exact len_size)
  exact bodyPost_ret (v := .agg (matA f)) (by simp [results, hfn, hp, asAddr, Sem.run_bind, Result.andThen, hl]) hd hR
theorem ld_mx {ops : Array Oper} {rest : List Oper} {o : Oper} {a : Act} {w : World} {Q : Exit → Act → World → Prop} {g : Nat} {f : Nat → Nat → Int} (hg : o.guard = none) (dst : Option Tmp) (hdst : o.dst = dst) (x : Operand) (ho : o.op = .load 159 x)
    (hx : a.eval x = .pointer (some ⟨g, 0, none⟩)) (hm : MxAt w g f) (h : wpList Tryz.prog ops Q rest (a.put dst (.agg (matA f))) w) : wpList Tryz.prog ops Q (o :: rest) a w := by
  subst hdst
  refine wpList_plain hg fun K hK => ?_
  unfold Oper.wp
  have e : (execOp a.eval o).run Tryz.prog w = .ok (.value (.agg (matA f))) w := by
    simp only [execOp, ho, hx, Sem.run_bind, run_load_mx hm, Result.andThen, Sem.run_pure]
  rw [e, Oper.upon_value]
  exact hK _ _ h
theorem st_mx {ops : Array Oper} {rest : List Oper} {o : Oper} {a : Act} {w : World} {Q : Exit → Act → World → Prop} {g : Nat} {f f' : Nat → Nat → Int} (hg : o.guard = none) (hdst : o.dst = none) (x y : Operand) (ho : o.op = .store 159 x y)
    (hx : a.eval x = .pointer (some ⟨g, 0, none⟩)) (hy : a.eval y = .agg (matA f')) (hm : MxAt w g f) (h : wpList Tryz.prog ops Q rest (a.put none undef) (w.setRow g (matA f'))) : wpList Tryz.prog ops Q (o :: rest) a w := by
  refine wpList_plain hg fun K hK => ?_
  unfold Oper.wp
  have e : (execOp a.eval o).run Tryz.prog w = .ok .skip (w.setRow g (matA f')) := by
    simp only [execOp, ho, hx, hy, Sem.run_bind, run_store_mx hm, Result.andThen, Sem.run_pure]
  rw [e, Oper.upon_skip, hdst]
  exact hK _ _ h
set_option maxHeartbeats 4000000 in
theorem c_areIx (m : Int) (A : Option Addr) (c : Nat) (l : List Int) (w : World) (h : Rw 1 inF w A c l) (r : Bool) (hr : l.all (fun x => ixB x m) = r) :
    Calls Tryz.prog 130 #[.int .i64 m, .slice A l.length c] w fun e w' => e = .returned (.bool r) ∧ Below w.heap.size w w' := by
  have H := Lib.hid h
  have HR := Lib.hid hr
  have k1 := h.1; have k2 := h.2.1
  unfold maxLen at k2
  clear h hr
  go_enter Tryz.func130, Tryz.ntmps130
  go_wp2_with (fail)
  go_loopw [6, 9] (fun x i wr => ∃ k : Nat, k ≤ l.length ∧ i = .int .i64 (k : Int) ∧ Hid (Below w.heap.size w wr) ∧ Hid ((l.take k).all (fun x => ixB x m) = true)) (fun _ i _ => l.length - (intOf i).toNat)
  case atStart => exact ⟨0, Nat.zero_le _, rfl, Lib.hid (Below.refl _ _), Lib.hid rfl⟩
  case round =>
    obtain ⟨k, hk, rfl, hB, hall⟩ := hrel
    have hki : ((k : Nat) : Int).toNat = k := by omega
    by_cases hlt : k < l.length
    · obtain ⟨y, hy⟩ : ∃ y, l[k]? = some y := ⟨_, List.getElem?_eq_getElem hlt⟩
      have HK := H.out.on hB.out (Nat.le_refl _)
      obtain ⟨b, o, rfl, -, -⟩ := HK.at_ hy
      have x0 := inRw HK hy
      have hkl : (k : Int) < (l.length : Int) := by omega
      have HY := Lib.hid hy
      clear HK hy
      rcases h1 : decide (y < 0) with _ | _
      · rcases h2 : decide (m ≤ y) with _ | _
        · have HN := Lib.hid (show (l.take (k + 1)).all (fun x => ixB x m) = true from all_take_succ HY.out hall.out (ixB_iff.2 ⟨by have := of_decide_eq_false h1; omega, by have := of_decide_eq_false h2; omega⟩))
          go_wp2_with (fail)
          go_roundw
          case rel => exact ⟨k + 1, by omega, by go_num, hB, HN⟩
          case measure => simp only [intOf]; omega
        · obtain rfl : false = r := by
            rw [← HR.out]
            refine (all_false (k := k) HY.out ?_).symm
            have := of_decide_eq_true h2
            unfold ixB
            rw [decide_eq_false (show ¬ y < m by omega), Bool.and_false]
          go_wp2_with (fail)
          go_ret
          exact ⟨rfl, hB.out⟩
      · obtain rfl : false = r := by
          rw [← HR.out]
          refine (all_false (k := k) HY.out ?_).symm
          have := of_decide_eq_true h1
          unfold ixB
          rw [decide_eq_false (show ¬ 0 ≤ y by omega), Bool.false_and]
        go_wp2_with (fail)
        go_ret
        exact ⟨rfl, hB.out⟩
    · obtain rfl : k = l.length := by omega
      obtain rfl : true = r := by rw [← HR.out]; have := hall.out; rw [List.take_length] at this; exact this.symm
      go_wp2_with (fail)
      go_ret
      exact ⟨rfl, hB.out⟩
def dsF (x : Int) : Int := if x = far then -1 else x
set_option maxHeartbeats 4000000 in
theorem c_distance (f : Nat → Nat → Int) (a b : Nat) (ha : a < 8) (hb : b < 8) (w : World) :
    Calls Tryz.prog 159 #[.agg (matA f), .int .i64 (a : Int), .int .i64 (b : Int)] w fun e w' => e = .returned (.int .i64 (dsF (f a b))) ∧ Below w.heap.size w w' := by
  obtain ⟨W, hW⟩ : ∃ W, W = w.alloc (.cells (matA f) 159) := ⟨_, rfl⟩
  have HX := Lib.hid (show MxAt W w.heap.size f by rw [hW]; exact MxAt.new _ _)
  have HB := Lib.hid (show Below w.heap.size w W by rw [hW]; exact (Below.refl _ _).alloc (Nat.le_refl _) _)
  have x0 := HX.out.cell ha hb
  have ha1 : ((a : Nat) : Int).toNat = a := by omega
  have hb1 : ((b : Nat) : Int).toNat = b := by omega
  have ha2 : ((a : Nat) : Int) < 8 := by omega
  have hb2 : ((b : Nat) : Int) < 8 := by omega
  obtain ⟨y, hy⟩ : ∃ y, f a b = y := ⟨_, rfl⟩
  rw [hy] at x0 ⊢
  obtain ⟨z, hz⟩ : ∃ z, dsF y = z := ⟨_, rfl⟩
  rw [hz]
  have HZ := Lib.hid hz
  clear hy hz
  rw [hW] at x0
  rcases he : (y == 8000000) with _ | _
  · go_enter Tryz.func159, Tryz.ntmps159
    go_wp2_with (fail)
    rw [← hW]
    go_ret
    exact ⟨(show Ending.returned (.int .i64 y) = .returned (.int .i64 z) by rw [← HZ.out]; unfold dsF far; rw [if_neg (by simpa using he)]), HB.out⟩
  · go_enter Tryz.func159, Tryz.ntmps159
    go_wp2_with (fail)
    rw [← hW]
    go_ret
    exact ⟨(show Ending.returned (.int .i64 (-1)) = .returned (.int .i64 z) by rw [← HZ.out]; unfold dsF far; rw [if_pos (by simpa using he)]), HB.out⟩
end Go.Proofs.YtbbadnlaelgmlaaGreat
