/-
  DERIVED. Several texts in one.
-/
import Derived.Test.YtbbadnlaelgmlaaGreatPZB2
import Derived.RegionTactic
import Derived.Deep.RegionHeld3
import Derived.Test.YtbbadnlaelgmlaaGreatPZV61
import Derived.Test.YtbbadnlaelgmlaaGreatPZA3
import Derived.Test.YtbbadnlaelgmlaaGreatPZV51
import Derived.Laws.AppendOwn
set_option linter.unusedVariables false
set_option linter.unusedSimpArgs false

namespace Go.Proofs.YtbbadnlaelgmlaaGreat
open Go.RowKit
set_option maxRecDepth 100000
set_option linter.unusedVariables false
set_option linter.unusedSimpArgs false

/-- A load: 0 if the world is not valid. -/
def pwV (z : Sn) (r : Bool) (b : Nat → Bool) : Int := if r = true then loadN z.s z.ss z.d b else 0
/-- The sum so far. -/
def soFar (z : Sn) (b : Nat → Bool) (k : Nat) : Int := sumN (fun h => if b h = true then watN z.s z.ss z.d h else 0) k
theorem soFar_bd {z : Sn} (ok : z.Ok) (b : Nat → Bool) {k : Nat} (hk : k ≤ z.s.hosts.length) : 0 ≤ soFar z b k ∧ soFar z b k ≤ 400000000 := part_bd ok b hk
theorem soFar_no {z : Sn} {b : Nat → Bool} {k : Nat} (h : b k = false) : soFar z b (k + 1) = soFar z b k := by
  unfold soFar; rw [sumN, h]; simp
theorem soFar_off {z : Sn} {b : Nat → Bool} {k : Nat} {y : Hst} (hy : z.d.hosts[k]? = some y) (h : y.phase = 4) : soFar z b (k + 1) = soFar z b k := by
  unfold soFar; rw [sumN]
  have : watN z.s z.ss z.d k = 0 := by unfold watN; rw [phAt_eq hy, if_pos h]
  rw [this]; simp
theorem soFar_yes {z : Sn} {b : Nat → Bool} {k : Nat} {x : Hs} {y : Hst} (hx : z.s.hosts[k]? = some x) (hy : z.d.hosts[k]? = some y) (h : b k = true) (h4 : y.phase ≠ 4) : soFar z b (k + 1) = soFar z b k + (x.idle + x.per * usedD z.ss z.d.reps (k : Int)) := by
  unfold soFar; rw [sumN, if_pos h]
  congr 1
  unfold watN; rw [phAt_eq hy, if_neg h4, hsAt_eq hx]
set_option maxHeartbeats 16000000 in
theorem c_loadHost (z : Sn) (r0 : Bool) (hr0 : r0 = true ↔ z.Ok) (g : Nat) (k : Int) (w : World) (hz : SnAt w z) (hg : w.cell? ⟨g, 0, none⟩ = some (.int .i64 k)) (hgb : g < w.heap.size) (v : Int) (hv : pwV z r0 (isHost k) = v) :
    Calls Tryz.prog 135 #[.agg #[.slice z.p.a1 z.s.feeds.length z.p.c1, .slice z.p.a2 z.s.brks.length z.p.c2, .slice z.p.a3 z.s.loops.length z.p.c3, .slice z.p.a4 z.s.racks.length z.p.c4, .int .i64 z.s.sw, .slice z.p.a5 z.s.links.length z.p.c5, .slice z.p.a6 z.s.hosts.length z.p.c6], .agg #[.slice z.A z.xs.length z.c], .agg #[.slice z.q.a1 z.d.hosts.length z.q.c1, .slice z.q.a2 z.d.reps.length z.q.c2], .func (.func 160) #[] #[.pointer (some ⟨g, 0, none⟩)]] w fun e w' => e = .returned (.int .i64 v) ∧ Below w.heap.size w w' := by
  have HCL := Lib.hid (fun (X : World) (hX : Below w.heap.size w X) (ok : z.Ok) (i : Nat) (hi : i < z.s.hosts.length) (r : Bool) (hr : (isHost k) i = r) => (c_isHost g k i X ((hX.cell (p := ⟨g, 0, none⟩) hgb).trans hg) r hr : Calls Tryz.prog 160 #[.int .i64 (i : Int), .pointer (some ⟨g, 0, none⟩)] X fun e w' => e = .returned (.bool r) ∧ Below X.heap.size X w'))
  have HV := Lib.hid hv
  have HR0 := Lib.hid hr0
  obtain ⟨pd, hpd⟩ : ∃ f, f = isHost k := ⟨_, rfl⟩
  rw [← hpd] at HCL HV
  clear hr0 hv hg hgb hpd
  obtain ⟨W1, h1⟩ : ∃ W, W = w.alloc (.cells #[.slice z.p.a1 z.s.feeds.length z.p.c1, .slice z.p.a2 z.s.brks.length z.p.c2, .slice z.p.a3 z.s.loops.length z.p.c3, .slice z.p.a4 z.s.racks.length z.p.c4, .int .i64 z.s.sw, .slice z.p.a5 z.s.links.length z.p.c5, .slice z.p.a6 z.s.hosts.length z.p.c6] 29) := ⟨_, rfl⟩
  obtain ⟨W2, h2⟩ : ∃ W, W = W1.alloc (.cells #[.slice z.A z.xs.length z.c] 32) := ⟨_, rfl⟩
  obtain ⟨W, h3⟩ : ∃ W, W = W2.alloc (.cells #[.slice z.q.a1 z.d.hosts.length z.q.c1, .slice z.q.a2 z.d.reps.length z.q.c2] 36) := ⟨_, rfl⟩
  obtain ⟨B0, X1⟩ := sn_boxes h1 h2 h3
  have z3 : W.heap.size = w.heap.size + 1 + 1 + 1 := sn_size h1 h2 h3
  have HB := Lib.hid B0
  have Z0 := hz.on B0 (Nat.le_refl _)
  have HZ := Lib.hid (fun (X : World) (hX : Below W.heap.size W X) => Z0.on hX (Nat.le_refl _))
  have HF := Lib.hid (fun (X : World) (hX : Below W.heap.size W X) => ((X1.on hX (Nat.le_refl _)).cells : X.cell? ⟨w.heap.size, 0, none⟩ = some (.slice z.p.a1 z.s.feeds.length z.p.c1) ∧ X.cell? ⟨w.heap.size, 1, none⟩ = some (.slice z.p.a2 z.s.brks.length z.p.c2) ∧ X.cell? ⟨w.heap.size, 2, none⟩ = some (.slice z.p.a3 z.s.loops.length z.p.c3) ∧ X.cell? ⟨w.heap.size, 3, none⟩ = some (.slice z.p.a4 z.s.racks.length z.p.c4) ∧ X.cell? ⟨w.heap.size, 4, none⟩ = some (.int .i64 z.s.sw) ∧ X.cell? ⟨w.heap.size, 5, none⟩ = some (.slice z.p.a5 z.s.links.length z.p.c5) ∧ X.cell? ⟨w.heap.size, 6, none⟩ = some (.slice z.p.a6 z.s.hosts.length z.p.c6) ∧ X.cell? ⟨w.heap.size + 1, 0, none⟩ = some (.slice z.A z.xs.length z.c) ∧ X.cell? ⟨w.heap.size + 1 + 1, 0, none⟩ = some (.slice z.q.a1 z.d.hosts.length z.q.c1) ∧ X.cell? ⟨w.heap.size + 1 + 1, 1, none⟩ = some (.slice z.q.a2 z.d.reps.length z.q.c2)))
  have HX := Lib.hid (fun (X : World) (hX : Below W.heap.size W X) => X1.on hX (Nat.le_refl _))
  have HKW := Lib.hid (Below.refl W.heap.size W)
  have hle := HB.out.size
  obtain ⟨n1, n2, n3, n4, n5, n6, n7, n8⟩ := hz.bounds
  have HVV := Lib.hid (fun (X : World) (hX : SnAt X z) => c_vTo z r0 HR0.out X hX)
  clear hz B0 X1 z3 Z0
  generalize hA6 : z.p.a6 = A6 at *
  have HA6 := Lib.hid hA6
  clear hA6
  obtain ⟨f0, f1, f2, f3, f4, f5, f6, g0, g1, g2⟩ := HF.out W HKW.out
  rw [h3, h2, h1] at f0 f1 f2 f3 f4 f5 f6 g0 g1 g2
  generalize hBB : w.heap.size = B at *
  go_enter Tryz.func135, Tryz.ntmps135
  go_wp2_with (fail)
  rw [← h1, ← h2, ← h3]
  clear h1 h2 h3 f0 f1 f2 f3 f4 f5 f6 g0 g1 g2
  go_at_call 27
  refine (HVV.out W (HZ.out W HKW.out)).mono ?_
  rintro e v1 ⟨rfl, bb⟩
  have HKv1 := Lib.hid (below_join HKW.out bb HKW.out.size)
  clear bb
  cases r0
  · have HVE := Lib.hid (show (0 : Int) = v from HV.out)
    go_wp2_with (fail)
    go_ret
    exact ⟨(show Ending.returned (.int .i64 0) = .returned (.int .i64 v) by rw [HVE.out]), below_join HB.out HKv1.out hle⟩
  have ok := HR0.out.1 rfl
  have HOK := Lib.hid ok
  have HVE := Lib.hid (show soFar z pd z.s.hosts.length = v from HV.out)
  have HDL := Lib.hid (show z.d.hosts.length = z.s.hosts.length from ok.2.2.1)
  have hd16 := (siteOk_iff.1 ok.1).nhosts.2
  clear ok
  obtain ⟨f0, f1, f2, f3, f4, f5, f6, g0, g1, g2⟩ := HF.out v1 HKv1.out
  go_wp2_with (fail)
  clear f0 f1 f2 f3 f4 f5 f6 g0 g1 g2
  go_loopw [9, 20] (fun sm i wr => ∃ k : Nat, k ≤ z.s.hosts.length ∧ sm = .int .i64 (soFar z pd k) ∧ i = .int .i64 (k : Int) ∧ Hid (Below W.heap.size W wr)) (fun _ i _ => z.s.hosts.length - (intOf i).toNat)
  case atStart => exact ⟨0, Nat.zero_le _, rfl, rfl, HKv1⟩
  case round =>
    obtain ⟨k, hk, rfl, rfl, hK⟩ := hrel
    have hki : ((k : Nat) : Int).toNat = k := by omega
    obtain ⟨S, hS⟩ : ∃ S, soFar z pd k = S := ⟨_, rfl⟩
    have HS := Lib.hid hS
    have bS := soFar_bd HOK.out pd hk
    rw [hS] at bS
    rw [hS]
    clear hS
    by_cases hlt : k < z.s.hosts.length
    · obtain ⟨x, y, hx, hy, -, bi, bp⟩ := host_ok HOK.out hlt
      have HXX := Lib.hid hx
      have HYY := Lib.hid hy
      obtain ⟨pb, po, e6, hpb, x0, x1, x2, x3⟩ := hs_at (HZ.out wr hK.out) hx
      rw [HA6.out] at e6
      subst e6
      obtain ⟨f0, f1, f2, f3, f4, f5, f6, g0, g1, g2⟩ := HF.out wr hK.out
      have hki2 : (k : Int) < (z.s.hosts.length : Int) := by omega
      have hki3 : (k : Int) < (z.d.hosts.length : Int) := by have := HDL.out; omega
      obtain ⟨V, hV⟩ : ∃ X, X = wr.alloc (.cells #[.int .i64 x.rack, .int .i64 x.cores, .int .i64 x.idle, .int .i64 x.per] 89) := ⟨_, rfl⟩
      have bV : Below wr.heap.size wr V := by rw [hV]; exact (Below.refl _ _).alloc (Nat.le_refl _) _
      have BV : V.heap[wr.heap.size]? = some (.cells #[.int .i64 x.rack, .int .i64 x.cores, .int .i64 x.idle, .int .i64 x.per] 89 (0, 0)) := by rw [hV]; exact box_new _ _ _
      have HKV := Lib.hid (below_join hK.out bV hK.out.size)
      have HBV := Lib.hid (fun (X : World) (hX : Below V.heap.size V X) => (⟨cell_of (box_on BV hX (Nat.le_refl _)) rfl, cell_of (box_on BV hX (Nat.le_refl _)) rfl, cell_of (box_on BV hX (Nat.le_refl _)) rfl, cell_of (box_on BV hX (Nat.le_refl _)) rfl⟩ : X.cell? ⟨wr.heap.size, 0, none⟩ = some (.int .i64 x.rack) ∧ X.cell? ⟨wr.heap.size, 1, none⟩ = some (.int .i64 x.cores) ∧ X.cell? ⟨wr.heap.size, 2, none⟩ = some (.int .i64 x.idle) ∧ X.cell? ⟨wr.heap.size, 3, none⟩ = some (.int .i64 x.per)))
      have HKVV := Lib.hid (Below.refl V.heap.size V)
      clear hx hy bV BV
      rcases hp : pd k with _ | _
      · have HP := Lib.hid hp
        have HSN := Lib.hid (soFar_no hp (z := z))
        clear hp
        go_wp2_with (fail)
        rw [← hV]
        clear hV x0 x1 x2 x3 f0 f1 f2 f3 f4 f5 f6 g0 g1 g2
        go_at_call 160
        refine (HCL.out V (below_join HB.out HKV.out hle) HOK.out k hlt false HP.out).mono ?_
        rintro e v2 ⟨rfl, bb⟩
        have HK2 := Lib.hid (below_join HKV.out bb HKV.out.size)
        clear bb
        go_wp2_with (fail)
        go_roundw
        case rel => exact ⟨k + 1, by omega, by rw [HSN.out, HS.out], by go_num, HK2⟩
        case measure => simp only [intOf]; omega
      · have HP := Lib.hid hp
        clear hp
        rcases h4 : ((y.phase : Int) == 4) with _ | _
        · obtain ⟨u, hu⟩ : ∃ u, usedD z.ss z.d.reps (k : Int) = u := ⟨_, rfl⟩
          have HU := Lib.hid hu
          have bu := used_bd HOK.out (k : Int)
          rw [show usedD (Sn.ss z) z.d.reps (k : Int) = u from hu] at bu
          obtain ⟨pr, hpr⟩ : ∃ t, x.per * u = t := ⟨_, rfl⟩
          have HPR := Lib.hid hpr
          have bpr : 0 ≤ pr ∧ pr ≤ 24000000 := by
            rw [← hpr]
            have p1 := Int.mul_nonneg bp.1 bu.1
            have p2 : x.per * u ≤ 1000 * u := Int.mul_le_mul_of_nonneg_right bp.2 bu.1
            omega
          have HSY := Lib.hid (show soFar z pd (k + 1) = S + (x.idle + pr) by
            rw [soFar_yes HXX.out HYY.out HP.out (by intro h; rw [h] at h4; simp at h4), HS.out, HU.out, HPR.out])
          have hne : ((y.phase : Int) != 4) = true := by unfold bne; rw [h4]; rfl
          clear hu hpr
          go_wp2_with (fail)
          rw [← hV]
          clear hV x0 x1 x2 x3 f0 f1 f2 f3 f4 f5 f6 g0 g1 g2
          go_at_call 160
          refine (HCL.out V (below_join HB.out HKV.out hle) HOK.out k hlt true HP.out).mono ?_
          rintro e v2 ⟨rfl, bb⟩
          have HKK2 := Lib.hid (below_join HKVV.out bb (Nat.le_refl _))
          have HK2 := Lib.hid (below_join HKV.out bb HKV.out.size)
          obtain ⟨f0, f1, f2, f3, f4, f5, f6, g0, g1, g2⟩ := HF.out v2 HK2.out
          obtain ⟨qb, qo, e1, hqb, y0⟩ := ho_at (HZ.out v2 HK2.out) HYY.out
          rw [e1] at g1
          clear bb e1
          go_wp2_with (fail)
          obtain ⟨j0, j1, j2, j3⟩ := HBV.out v2 HKK2.out
          obtain ⟨f0, f1, f2, f3, f4, f5, f6, g0, g1, g2⟩ := HF.out v2 HK2.out
          go_region_held3 (fun X => (X.cell? ⟨B, 0, none⟩ = some (.slice z.p.a1 z.s.feeds.length z.p.c1) ∧ X.cell? ⟨B, 1, none⟩ = some (.slice z.p.a2 z.s.brks.length z.p.c2) ∧ X.cell? ⟨B, 2, none⟩ = some (.slice z.p.a3 z.s.loops.length z.p.c3) ∧ X.cell? ⟨B, 3, none⟩ = some (.slice z.p.a4 z.s.racks.length z.p.c4) ∧ X.cell? ⟨B, 4, none⟩ = some (.int .i64 z.s.sw) ∧ X.cell? ⟨B, 5, none⟩ = some (.slice z.p.a5 z.s.links.length z.p.c5) ∧ X.cell? ⟨B, 6, none⟩ = some (.slice (some ⟨pb, po, none⟩) z.s.hosts.length z.p.c6) ∧ X.cell? ⟨B + 1, 0, none⟩ = some (.slice z.A z.xs.length z.c) ∧ X.cell? ⟨B + 1 + 1, 0, none⟩ = some (.slice z.q.a1 z.d.hosts.length z.q.c1) ∧ X.cell? ⟨B + 1 + 1, 1, none⟩ = some (.slice z.q.a2 z.d.reps.length z.q.c2)) ∧ X.cell? ⟨wr.heap.size, 2, none⟩ = some (.int .i64 x.idle) ∧ X.cell? ⟨wr.heap.size, 3, none⟩ = some (.int .i64 x.per))
            (first | exact ⟨HF.out v3 HK3.out, (HBV.out v3 HKK3.out).2.2⟩ | exact ⟨HF.out v2 HK2.out, (HBV.out v2 HKK2.out).2.2⟩ | fail)
            (first
              | (go_at_call 93; (with_reducible refine (c_usedTo z (k : Int) u HU.out v2.drew (HZ.out v2.drew HK2.out.drew)).mono ?_); rintro e v3 ⟨rfl, bb0⟩; have bb := below_join (Below.refl v2.heap.size v2).drew bb0 (Nat.le_refl _); have HK3 := Lib.hid (below_join HK2.out bb HK2.out.size); have HKK3 := Lib.hid (below_join HKK2.out bb HKK2.out.size); clear bb bb0)
              | fail)
          go_wp2_with (fail)
          go_roundw
          case rel => exact ⟨k + 1, by omega, by rw [HSY.out, HPR.out, wrap_in (x := pr) (by omega) (by omega), wrap_in (x := x.idle + pr) (by omega) (by omega), wrap_in (by omega) (by omega)], by go_num, HK3⟩
          case measure => simp only [intOf]; omega
        · have HSN := Lib.hid (soFar_off (z := z) (b := pd) HYY.out (by have := eq_of_beq h4; omega))
          have hne : ((y.phase : Int) != 4) = false := by unfold bne; rw [h4]; rfl
          go_wp2_with (fail)
          rw [← hV]
          clear hV x0 x1 x2 x3 f0 f1 f2 f3 f4 f5 f6 g0 g1 g2
          go_at_call 160
          refine (HCL.out V (below_join HB.out HKV.out hle) HOK.out k hlt true HP.out).mono ?_
          rintro e v2 ⟨rfl, bb⟩
          have HK2 := Lib.hid (below_join HKV.out bb HKV.out.size)
          obtain ⟨f0, f1, f2, f3, f4, f5, f6, g0, g1, g2⟩ := HF.out v2 HK2.out
          obtain ⟨qb, qo, e1, hqb, y0⟩ := ho_at (HZ.out v2 HK2.out) HYY.out
          rw [e1] at g1
          clear bb e1
          go_wp2_with (fail)
          go_roundw
          case rel => exact ⟨k + 1, by omega, by rw [HSN.out, HS.out], by go_num, HK2⟩
          case measure => simp only [intOf]; omega
    · obtain rfl : k = z.s.hosts.length := by omega
      have HVS := Lib.hid (show S = v by rw [← HVE.out, HS.out])
      go_wp2_with (fail)
      go_ret
      exact ⟨(show Ending.returned (.int .i64 S) = .returned (.int .i64 v) by rw [HVS.out]), below_join HB.out hK.out hle⟩
set_option maxHeartbeats 16000000 in
theorem c_loadBrk (z : Sn) (r0 : Bool) (hr0 : r0 = true ↔ z.Ok) (b g : Nat) (k : Int) (w : World) (hz : SnAt w z) (hb : w.heap[b]? = some (.cells #[.slice z.p.a1 z.s.feeds.length z.p.c1, .slice z.p.a2 z.s.brks.length z.p.c2, .slice z.p.a3 z.s.loops.length z.p.c3, .slice z.p.a4 z.s.racks.length z.p.c4, .int .i64 z.s.sw, .slice z.p.a5 z.s.links.length z.p.c5, .slice z.p.a6 z.s.hosts.length z.p.c6] 29 (0, 0))) (hg : w.cell? ⟨g, 0, none⟩ = some (.int .i64 k)) (hgb : g < w.heap.size) (v : Int) (hv : pwV z r0 (isBrk z.s k) = v) :
    Calls Tryz.prog 135 #[.agg #[.slice z.p.a1 z.s.feeds.length z.p.c1, .slice z.p.a2 z.s.brks.length z.p.c2, .slice z.p.a3 z.s.loops.length z.p.c3, .slice z.p.a4 z.s.racks.length z.p.c4, .int .i64 z.s.sw, .slice z.p.a5 z.s.links.length z.p.c5, .slice z.p.a6 z.s.hosts.length z.p.c6], .agg #[.slice z.A z.xs.length z.c], .agg #[.slice z.q.a1 z.d.hosts.length z.q.c1, .slice z.q.a2 z.d.reps.length z.q.c2], .func (.func 136) #[] #[.pointer (some ⟨b, 0, none⟩), .pointer (some ⟨g, 0, none⟩)]] w fun e w' => e = .returned (.int .i64 v) ∧ Below w.heap.size w w' := by
  have HCL := Lib.hid (fun (X : World) (hX : Below w.heap.size w X) (ok : z.Ok) (i : Nat) (hi : i < z.s.hosts.length) (r : Bool) (hr : (isBrk z.s k) i = r) => (c_isBrk z ok b g k i X (hz.on hX (Nat.le_refl _)) (box_on hb hX (Nat.le_refl _)) ((hX.cell (p := ⟨g, 0, none⟩) hgb).trans hg) (Nat.lt_of_lt_of_le hgb hX.size) hi r hr : Calls Tryz.prog 136 #[.int .i64 (i : Int), .pointer (some ⟨b, 0, none⟩), .pointer (some ⟨g, 0, none⟩)] X fun e w' => e = .returned (.bool r) ∧ Below X.heap.size X w'))
  have HV := Lib.hid hv
  have HR0 := Lib.hid hr0
  obtain ⟨pd, hpd⟩ : ∃ f, f = isBrk z.s k := ⟨_, rfl⟩
  rw [← hpd] at HCL HV
  clear hr0 hv hb hg hgb hpd
  obtain ⟨W1, h1⟩ : ∃ W, W = w.alloc (.cells #[.slice z.p.a1 z.s.feeds.length z.p.c1, .slice z.p.a2 z.s.brks.length z.p.c2, .slice z.p.a3 z.s.loops.length z.p.c3, .slice z.p.a4 z.s.racks.length z.p.c4, .int .i64 z.s.sw, .slice z.p.a5 z.s.links.length z.p.c5, .slice z.p.a6 z.s.hosts.length z.p.c6] 29) := ⟨_, rfl⟩
  obtain ⟨W2, h2⟩ : ∃ W, W = W1.alloc (.cells #[.slice z.A z.xs.length z.c] 32) := ⟨_, rfl⟩
  obtain ⟨W, h3⟩ : ∃ W, W = W2.alloc (.cells #[.slice z.q.a1 z.d.hosts.length z.q.c1, .slice z.q.a2 z.d.reps.length z.q.c2] 36) := ⟨_, rfl⟩
  obtain ⟨B0, X1⟩ := sn_boxes h1 h2 h3
  have z3 : W.heap.size = w.heap.size + 1 + 1 + 1 := sn_size h1 h2 h3
  have HB := Lib.hid B0
  have Z0 := hz.on B0 (Nat.le_refl _)
  have HZ := Lib.hid (fun (X : World) (hX : Below W.heap.size W X) => Z0.on hX (Nat.le_refl _))
  have HF := Lib.hid (fun (X : World) (hX : Below W.heap.size W X) => ((X1.on hX (Nat.le_refl _)).cells : X.cell? ⟨w.heap.size, 0, none⟩ = some (.slice z.p.a1 z.s.feeds.length z.p.c1) ∧ X.cell? ⟨w.heap.size, 1, none⟩ = some (.slice z.p.a2 z.s.brks.length z.p.c2) ∧ X.cell? ⟨w.heap.size, 2, none⟩ = some (.slice z.p.a3 z.s.loops.length z.p.c3) ∧ X.cell? ⟨w.heap.size, 3, none⟩ = some (.slice z.p.a4 z.s.racks.length z.p.c4) ∧ X.cell? ⟨w.heap.size, 4, none⟩ = some (.int .i64 z.s.sw) ∧ X.cell? ⟨w.heap.size, 5, none⟩ = some (.slice z.p.a5 z.s.links.length z.p.c5) ∧ X.cell? ⟨w.heap.size, 6, none⟩ = some (.slice z.p.a6 z.s.hosts.length z.p.c6) ∧ X.cell? ⟨w.heap.size + 1, 0, none⟩ = some (.slice z.A z.xs.length z.c) ∧ X.cell? ⟨w.heap.size + 1 + 1, 0, none⟩ = some (.slice z.q.a1 z.d.hosts.length z.q.c1) ∧ X.cell? ⟨w.heap.size + 1 + 1, 1, none⟩ = some (.slice z.q.a2 z.d.reps.length z.q.c2)))
  have HX := Lib.hid (fun (X : World) (hX : Below W.heap.size W X) => X1.on hX (Nat.le_refl _))
  have HKW := Lib.hid (Below.refl W.heap.size W)
  have hle := HB.out.size
  obtain ⟨n1, n2, n3, n4, n5, n6, n7, n8⟩ := hz.bounds
  have HVV := Lib.hid (fun (X : World) (hX : SnAt X z) => c_vTo z r0 HR0.out X hX)
  clear hz B0 X1 z3 Z0
  generalize hA6 : z.p.a6 = A6 at *
  have HA6 := Lib.hid hA6
  clear hA6
  obtain ⟨f0, f1, f2, f3, f4, f5, f6, g0, g1, g2⟩ := HF.out W HKW.out
  rw [h3, h2, h1] at f0 f1 f2 f3 f4 f5 f6 g0 g1 g2
  generalize hBB : w.heap.size = B at *
  go_enter Tryz.func135, Tryz.ntmps135
  go_wp2_with (fail)
  rw [← h1, ← h2, ← h3]
  clear h1 h2 h3 f0 f1 f2 f3 f4 f5 f6 g0 g1 g2
  go_at_call 27
  refine (HVV.out W (HZ.out W HKW.out)).mono ?_
  rintro e v1 ⟨rfl, bb⟩
  have HKv1 := Lib.hid (below_join HKW.out bb HKW.out.size)
  clear bb
  cases r0
  · have HVE := Lib.hid (show (0 : Int) = v from HV.out)
    go_wp2_with (fail)
    go_ret
    exact ⟨(show Ending.returned (.int .i64 0) = .returned (.int .i64 v) by rw [HVE.out]), below_join HB.out HKv1.out hle⟩
  have ok := HR0.out.1 rfl
  have HOK := Lib.hid ok
  have HVE := Lib.hid (show soFar z pd z.s.hosts.length = v from HV.out)
  have HDL := Lib.hid (show z.d.hosts.length = z.s.hosts.length from ok.2.2.1)
  have hd16 := (siteOk_iff.1 ok.1).nhosts.2
  clear ok
  obtain ⟨f0, f1, f2, f3, f4, f5, f6, g0, g1, g2⟩ := HF.out v1 HKv1.out
  go_wp2_with (fail)
  clear f0 f1 f2 f3 f4 f5 f6 g0 g1 g2
  go_loopw [9, 20] (fun sm i wr => ∃ k : Nat, k ≤ z.s.hosts.length ∧ sm = .int .i64 (soFar z pd k) ∧ i = .int .i64 (k : Int) ∧ Hid (Below W.heap.size W wr)) (fun _ i _ => z.s.hosts.length - (intOf i).toNat)
  case atStart => exact ⟨0, Nat.zero_le _, rfl, rfl, HKv1⟩
  case round =>
    obtain ⟨k, hk, rfl, rfl, hK⟩ := hrel
    have hki : ((k : Nat) : Int).toNat = k := by omega
    obtain ⟨S, hS⟩ : ∃ S, soFar z pd k = S := ⟨_, rfl⟩
    have HS := Lib.hid hS
    have bS := soFar_bd HOK.out pd hk
    rw [hS] at bS
    rw [hS]
    clear hS
    by_cases hlt : k < z.s.hosts.length
    · obtain ⟨x, y, hx, hy, -, bi, bp⟩ := host_ok HOK.out hlt
      have HXX := Lib.hid hx
      have HYY := Lib.hid hy
      obtain ⟨pb, po, e6, hpb, x0, x1, x2, x3⟩ := hs_at (HZ.out wr hK.out) hx
      rw [HA6.out] at e6
      subst e6
      obtain ⟨f0, f1, f2, f3, f4, f5, f6, g0, g1, g2⟩ := HF.out wr hK.out
      have hki2 : (k : Int) < (z.s.hosts.length : Int) := by omega
      have hki3 : (k : Int) < (z.d.hosts.length : Int) := by have := HDL.out; omega
      obtain ⟨V, hV⟩ : ∃ X, X = wr.alloc (.cells #[.int .i64 x.rack, .int .i64 x.cores, .int .i64 x.idle, .int .i64 x.per] 89) := ⟨_, rfl⟩
      have bV : Below wr.heap.size wr V := by rw [hV]; exact (Below.refl _ _).alloc (Nat.le_refl _) _
      have BV : V.heap[wr.heap.size]? = some (.cells #[.int .i64 x.rack, .int .i64 x.cores, .int .i64 x.idle, .int .i64 x.per] 89 (0, 0)) := by rw [hV]; exact box_new _ _ _
      have HKV := Lib.hid (below_join hK.out bV hK.out.size)
      have HBV := Lib.hid (fun (X : World) (hX : Below V.heap.size V X) => (⟨cell_of (box_on BV hX (Nat.le_refl _)) rfl, cell_of (box_on BV hX (Nat.le_refl _)) rfl, cell_of (box_on BV hX (Nat.le_refl _)) rfl, cell_of (box_on BV hX (Nat.le_refl _)) rfl⟩ : X.cell? ⟨wr.heap.size, 0, none⟩ = some (.int .i64 x.rack) ∧ X.cell? ⟨wr.heap.size, 1, none⟩ = some (.int .i64 x.cores) ∧ X.cell? ⟨wr.heap.size, 2, none⟩ = some (.int .i64 x.idle) ∧ X.cell? ⟨wr.heap.size, 3, none⟩ = some (.int .i64 x.per)))
      have HKVV := Lib.hid (Below.refl V.heap.size V)
      clear hx hy bV BV
      rcases hp : pd k with _ | _
      · have HP := Lib.hid hp
        have HSN := Lib.hid (soFar_no hp (z := z))
        clear hp
        go_wp2_with (fail)
        rw [← hV]
        clear hV x0 x1 x2 x3 f0 f1 f2 f3 f4 f5 f6 g0 g1 g2
        go_at_call 136
        refine (HCL.out V (below_join HB.out HKV.out hle) HOK.out k hlt false HP.out).mono ?_
        rintro e v2 ⟨rfl, bb⟩
        have HK2 := Lib.hid (below_join HKV.out bb HKV.out.size)
        clear bb
        go_wp2_with (fail)
        go_roundw
        case rel => exact ⟨k + 1, by omega, by rw [HSN.out, HS.out], by go_num, HK2⟩
        case measure => simp only [intOf]; omega
      · have HP := Lib.hid hp
        clear hp
        rcases h4 : ((y.phase : Int) == 4) with _ | _
        · obtain ⟨u, hu⟩ : ∃ u, usedD z.ss z.d.reps (k : Int) = u := ⟨_, rfl⟩
          have HU := Lib.hid hu
          have bu := used_bd HOK.out (k : Int)
          rw [show usedD (Sn.ss z) z.d.reps (k : Int) = u from hu] at bu
          obtain ⟨pr, hpr⟩ : ∃ t, x.per * u = t := ⟨_, rfl⟩
          have HPR := Lib.hid hpr
          have bpr : 0 ≤ pr ∧ pr ≤ 24000000 := by
            rw [← hpr]
            have p1 := Int.mul_nonneg bp.1 bu.1
            have p2 : x.per * u ≤ 1000 * u := Int.mul_le_mul_of_nonneg_right bp.2 bu.1
            omega
          have HSY := Lib.hid (show soFar z pd (k + 1) = S + (x.idle + pr) by
            rw [soFar_yes HXX.out HYY.out HP.out (by intro h; rw [h] at h4; simp at h4), HS.out, HU.out, HPR.out])
          have hne : ((y.phase : Int) != 4) = true := by unfold bne; rw [h4]; rfl
          clear hu hpr
          go_wp2_with (fail)
          rw [← hV]
          clear hV x0 x1 x2 x3 f0 f1 f2 f3 f4 f5 f6 g0 g1 g2
          go_at_call 136
          refine (HCL.out V (below_join HB.out HKV.out hle) HOK.out k hlt true HP.out).mono ?_
          rintro e v2 ⟨rfl, bb⟩
          have HKK2 := Lib.hid (below_join HKVV.out bb (Nat.le_refl _))
          have HK2 := Lib.hid (below_join HKV.out bb HKV.out.size)
          obtain ⟨f0, f1, f2, f3, f4, f5, f6, g0, g1, g2⟩ := HF.out v2 HK2.out
          obtain ⟨qb, qo, e1, hqb, y0⟩ := ho_at (HZ.out v2 HK2.out) HYY.out
          rw [e1] at g1
          clear bb e1
          go_wp2_with (fail)
          obtain ⟨j0, j1, j2, j3⟩ := HBV.out v2 HKK2.out
          obtain ⟨f0, f1, f2, f3, f4, f5, f6, g0, g1, g2⟩ := HF.out v2 HK2.out
          go_region_held3 (fun X => (X.cell? ⟨B, 0, none⟩ = some (.slice z.p.a1 z.s.feeds.length z.p.c1) ∧ X.cell? ⟨B, 1, none⟩ = some (.slice z.p.a2 z.s.brks.length z.p.c2) ∧ X.cell? ⟨B, 2, none⟩ = some (.slice z.p.a3 z.s.loops.length z.p.c3) ∧ X.cell? ⟨B, 3, none⟩ = some (.slice z.p.a4 z.s.racks.length z.p.c4) ∧ X.cell? ⟨B, 4, none⟩ = some (.int .i64 z.s.sw) ∧ X.cell? ⟨B, 5, none⟩ = some (.slice z.p.a5 z.s.links.length z.p.c5) ∧ X.cell? ⟨B, 6, none⟩ = some (.slice (some ⟨pb, po, none⟩) z.s.hosts.length z.p.c6) ∧ X.cell? ⟨B + 1, 0, none⟩ = some (.slice z.A z.xs.length z.c) ∧ X.cell? ⟨B + 1 + 1, 0, none⟩ = some (.slice z.q.a1 z.d.hosts.length z.q.c1) ∧ X.cell? ⟨B + 1 + 1, 1, none⟩ = some (.slice z.q.a2 z.d.reps.length z.q.c2)) ∧ X.cell? ⟨wr.heap.size, 2, none⟩ = some (.int .i64 x.idle) ∧ X.cell? ⟨wr.heap.size, 3, none⟩ = some (.int .i64 x.per))
            (first | exact ⟨HF.out v3 HK3.out, (HBV.out v3 HKK3.out).2.2⟩ | exact ⟨HF.out v2 HK2.out, (HBV.out v2 HKK2.out).2.2⟩ | fail)
            (first
              | (go_at_call 93; (with_reducible refine (c_usedTo z (k : Int) u HU.out v2.drew (HZ.out v2.drew HK2.out.drew)).mono ?_); rintro e v3 ⟨rfl, bb0⟩; have bb := below_join (Below.refl v2.heap.size v2).drew bb0 (Nat.le_refl _); have HK3 := Lib.hid (below_join HK2.out bb HK2.out.size); have HKK3 := Lib.hid (below_join HKK2.out bb HKK2.out.size); clear bb bb0)
              | fail)
          go_wp2_with (fail)
          go_roundw
          case rel => exact ⟨k + 1, by omega, by rw [HSY.out, HPR.out, wrap_in (x := pr) (by omega) (by omega), wrap_in (x := x.idle + pr) (by omega) (by omega), wrap_in (by omega) (by omega)], by go_num, HK3⟩
          case measure => simp only [intOf]; omega
        · have HSN := Lib.hid (soFar_off (z := z) (b := pd) HYY.out (by have := eq_of_beq h4; omega))
          have hne : ((y.phase : Int) != 4) = false := by unfold bne; rw [h4]; rfl
          go_wp2_with (fail)
          rw [← hV]
          clear hV x0 x1 x2 x3 f0 f1 f2 f3 f4 f5 f6 g0 g1 g2
          go_at_call 136
          refine (HCL.out V (below_join HB.out HKV.out hle) HOK.out k hlt true HP.out).mono ?_
          rintro e v2 ⟨rfl, bb⟩
          have HK2 := Lib.hid (below_join HKV.out bb HKV.out.size)
          obtain ⟨f0, f1, f2, f3, f4, f5, f6, g0, g1, g2⟩ := HF.out v2 HK2.out
          obtain ⟨qb, qo, e1, hqb, y0⟩ := ho_at (HZ.out v2 HK2.out) HYY.out
          rw [e1] at g1
          clear bb e1
          go_wp2_with (fail)
          go_roundw
          case rel => exact ⟨k + 1, by omega, by rw [HSN.out, HS.out], by go_num, HK2⟩
          case measure => simp only [intOf]; omega
    · obtain rfl : k = z.s.hosts.length := by omega
      have HVS := Lib.hid (show S = v by rw [← HVE.out, HS.out])
      go_wp2_with (fail)
      go_ret
      exact ⟨(show Ending.returned (.int .i64 S) = .returned (.int .i64 v) by rw [HVS.out]), below_join HB.out hK.out hle⟩
set_option maxHeartbeats 16000000 in
theorem c_loadFeed (z : Sn) (r0 : Bool) (hr0 : r0 = true ↔ z.Ok) (b g : Nat) (k : Int) (w : World) (hz : SnAt w z) (hb : w.heap[b]? = some (.cells #[.slice z.p.a1 z.s.feeds.length z.p.c1, .slice z.p.a2 z.s.brks.length z.p.c2, .slice z.p.a3 z.s.loops.length z.p.c3, .slice z.p.a4 z.s.racks.length z.p.c4, .int .i64 z.s.sw, .slice z.p.a5 z.s.links.length z.p.c5, .slice z.p.a6 z.s.hosts.length z.p.c6] 29 (0, 0))) (hg : w.cell? ⟨g, 0, none⟩ = some (.int .i64 k)) (hgb : g < w.heap.size) (v : Int) (hv : pwV z r0 (isFeed z.s k) = v) :
    Calls Tryz.prog 135 #[.agg #[.slice z.p.a1 z.s.feeds.length z.p.c1, .slice z.p.a2 z.s.brks.length z.p.c2, .slice z.p.a3 z.s.loops.length z.p.c3, .slice z.p.a4 z.s.racks.length z.p.c4, .int .i64 z.s.sw, .slice z.p.a5 z.s.links.length z.p.c5, .slice z.p.a6 z.s.hosts.length z.p.c6], .agg #[.slice z.A z.xs.length z.c], .agg #[.slice z.q.a1 z.d.hosts.length z.q.c1, .slice z.q.a2 z.d.reps.length z.q.c2], .func (.func 138) #[] #[.pointer (some ⟨b, 0, none⟩), .pointer (some ⟨g, 0, none⟩)]] w fun e w' => e = .returned (.int .i64 v) ∧ Below w.heap.size w w' := by
  have HCL := Lib.hid (fun (X : World) (hX : Below w.heap.size w X) (ok : z.Ok) (i : Nat) (hi : i < z.s.hosts.length) (r : Bool) (hr : (isFeed z.s k) i = r) => (c_isFeed z ok b g k i X (hz.on hX (Nat.le_refl _)) (box_on hb hX (Nat.le_refl _)) ((hX.cell (p := ⟨g, 0, none⟩) hgb).trans hg) (Nat.lt_of_lt_of_le hgb hX.size) hi r hr : Calls Tryz.prog 138 #[.int .i64 (i : Int), .pointer (some ⟨b, 0, none⟩), .pointer (some ⟨g, 0, none⟩)] X fun e w' => e = .returned (.bool r) ∧ Below X.heap.size X w'))
  have HV := Lib.hid hv
  have HR0 := Lib.hid hr0
  obtain ⟨pd, hpd⟩ : ∃ f, f = isFeed z.s k := ⟨_, rfl⟩
  rw [← hpd] at HCL HV
  clear hr0 hv hb hg hgb hpd
  obtain ⟨W1, h1⟩ : ∃ W, W = w.alloc (.cells #[.slice z.p.a1 z.s.feeds.length z.p.c1, .slice z.p.a2 z.s.brks.length z.p.c2, .slice z.p.a3 z.s.loops.length z.p.c3, .slice z.p.a4 z.s.racks.length z.p.c4, .int .i64 z.s.sw, .slice z.p.a5 z.s.links.length z.p.c5, .slice z.p.a6 z.s.hosts.length z.p.c6] 29) := ⟨_, rfl⟩
  obtain ⟨W2, h2⟩ : ∃ W, W = W1.alloc (.cells #[.slice z.A z.xs.length z.c] 32) := ⟨_, rfl⟩
  obtain ⟨W, h3⟩ : ∃ W, W = W2.alloc (.cells #[.slice z.q.a1 z.d.hosts.length z.q.c1, .slice z.q.a2 z.d.reps.length z.q.c2] 36) := ⟨_, rfl⟩
  obtain ⟨B0, X1⟩ := sn_boxes h1 h2 h3
  have z3 : W.heap.size = w.heap.size + 1 + 1 + 1 := sn_size h1 h2 h3
  have HB := Lib.hid B0
  have Z0 := hz.on B0 (Nat.le_refl _)
  have HZ := Lib.hid (fun (X : World) (hX : Below W.heap.size W X) => Z0.on hX (Nat.le_refl _))
  have HF := Lib.hid (fun (X : World) (hX : Below W.heap.size W X) => ((X1.on hX (Nat.le_refl _)).cells : X.cell? ⟨w.heap.size, 0, none⟩ = some (.slice z.p.a1 z.s.feeds.length z.p.c1) ∧ X.cell? ⟨w.heap.size, 1, none⟩ = some (.slice z.p.a2 z.s.brks.length z.p.c2) ∧ X.cell? ⟨w.heap.size, 2, none⟩ = some (.slice z.p.a3 z.s.loops.length z.p.c3) ∧ X.cell? ⟨w.heap.size, 3, none⟩ = some (.slice z.p.a4 z.s.racks.length z.p.c4) ∧ X.cell? ⟨w.heap.size, 4, none⟩ = some (.int .i64 z.s.sw) ∧ X.cell? ⟨w.heap.size, 5, none⟩ = some (.slice z.p.a5 z.s.links.length z.p.c5) ∧ X.cell? ⟨w.heap.size, 6, none⟩ = some (.slice z.p.a6 z.s.hosts.length z.p.c6) ∧ X.cell? ⟨w.heap.size + 1, 0, none⟩ = some (.slice z.A z.xs.length z.c) ∧ X.cell? ⟨w.heap.size + 1 + 1, 0, none⟩ = some (.slice z.q.a1 z.d.hosts.length z.q.c1) ∧ X.cell? ⟨w.heap.size + 1 + 1, 1, none⟩ = some (.slice z.q.a2 z.d.reps.length z.q.c2)))
  have HX := Lib.hid (fun (X : World) (hX : Below W.heap.size W X) => X1.on hX (Nat.le_refl _))
  have HKW := Lib.hid (Below.refl W.heap.size W)
  have hle := HB.out.size
  obtain ⟨n1, n2, n3, n4, n5, n6, n7, n8⟩ := hz.bounds
  have HVV := Lib.hid (fun (X : World) (hX : SnAt X z) => c_vTo z r0 HR0.out X hX)
  clear hz B0 X1 z3 Z0
  generalize hA6 : z.p.a6 = A6 at *
  have HA6 := Lib.hid hA6
  clear hA6
  obtain ⟨f0, f1, f2, f3, f4, f5, f6, g0, g1, g2⟩ := HF.out W HKW.out
  rw [h3, h2, h1] at f0 f1 f2 f3 f4 f5 f6 g0 g1 g2
  generalize hBB : w.heap.size = B at *
  go_enter Tryz.func135, Tryz.ntmps135
  go_wp2_with (fail)
  rw [← h1, ← h2, ← h3]
  clear h1 h2 h3 f0 f1 f2 f3 f4 f5 f6 g0 g1 g2
  go_at_call 27
  refine (HVV.out W (HZ.out W HKW.out)).mono ?_
  rintro e v1 ⟨rfl, bb⟩
  have HKv1 := Lib.hid (below_join HKW.out bb HKW.out.size)
  clear bb
  cases r0
  · have HVE := Lib.hid (show (0 : Int) = v from HV.out)
    go_wp2_with (fail)
    go_ret
    exact ⟨(show Ending.returned (.int .i64 0) = .returned (.int .i64 v) by rw [HVE.out]), below_join HB.out HKv1.out hle⟩
  have ok := HR0.out.1 rfl
  have HOK := Lib.hid ok
  have HVE := Lib.hid (show soFar z pd z.s.hosts.length = v from HV.out)
  have HDL := Lib.hid (show z.d.hosts.length = z.s.hosts.length from ok.2.2.1)
  have hd16 := (siteOk_iff.1 ok.1).nhosts.2
  clear ok
  obtain ⟨f0, f1, f2, f3, f4, f5, f6, g0, g1, g2⟩ := HF.out v1 HKv1.out
  go_wp2_with (fail)
  clear f0 f1 f2 f3 f4 f5 f6 g0 g1 g2
  go_loopw [9, 20] (fun sm i wr => ∃ k : Nat, k ≤ z.s.hosts.length ∧ sm = .int .i64 (soFar z pd k) ∧ i = .int .i64 (k : Int) ∧ Hid (Below W.heap.size W wr)) (fun _ i _ => z.s.hosts.length - (intOf i).toNat)
  case atStart => exact ⟨0, Nat.zero_le _, rfl, rfl, HKv1⟩
  case round =>
    obtain ⟨k, hk, rfl, rfl, hK⟩ := hrel
    have hki : ((k : Nat) : Int).toNat = k := by omega
    obtain ⟨S, hS⟩ : ∃ S, soFar z pd k = S := ⟨_, rfl⟩
    have HS := Lib.hid hS
    have bS := soFar_bd HOK.out pd hk
    rw [hS] at bS
    rw [hS]
    clear hS
    by_cases hlt : k < z.s.hosts.length
    · obtain ⟨x, y, hx, hy, -, bi, bp⟩ := host_ok HOK.out hlt
      have HXX := Lib.hid hx
      have HYY := Lib.hid hy
      obtain ⟨pb, po, e6, hpb, x0, x1, x2, x3⟩ := hs_at (HZ.out wr hK.out) hx
      rw [HA6.out] at e6
      subst e6
      obtain ⟨f0, f1, f2, f3, f4, f5, f6, g0, g1, g2⟩ := HF.out wr hK.out
      have hki2 : (k : Int) < (z.s.hosts.length : Int) := by omega
      have hki3 : (k : Int) < (z.d.hosts.length : Int) := by have := HDL.out; omega
      obtain ⟨V, hV⟩ : ∃ X, X = wr.alloc (.cells #[.int .i64 x.rack, .int .i64 x.cores, .int .i64 x.idle, .int .i64 x.per] 89) := ⟨_, rfl⟩
      have bV : Below wr.heap.size wr V := by rw [hV]; exact (Below.refl _ _).alloc (Nat.le_refl _) _
      have BV : V.heap[wr.heap.size]? = some (.cells #[.int .i64 x.rack, .int .i64 x.cores, .int .i64 x.idle, .int .i64 x.per] 89 (0, 0)) := by rw [hV]; exact box_new _ _ _
      have HKV := Lib.hid (below_join hK.out bV hK.out.size)
      have HBV := Lib.hid (fun (X : World) (hX : Below V.heap.size V X) => (⟨cell_of (box_on BV hX (Nat.le_refl _)) rfl, cell_of (box_on BV hX (Nat.le_refl _)) rfl, cell_of (box_on BV hX (Nat.le_refl _)) rfl, cell_of (box_on BV hX (Nat.le_refl _)) rfl⟩ : X.cell? ⟨wr.heap.size, 0, none⟩ = some (.int .i64 x.rack) ∧ X.cell? ⟨wr.heap.size, 1, none⟩ = some (.int .i64 x.cores) ∧ X.cell? ⟨wr.heap.size, 2, none⟩ = some (.int .i64 x.idle) ∧ X.cell? ⟨wr.heap.size, 3, none⟩ = some (.int .i64 x.per)))
      have HKVV := Lib.hid (Below.refl V.heap.size V)
      clear hx hy bV BV
      rcases hp : pd k with _ | _
      · have HP := Lib.hid hp
        have HSN := Lib.hid (soFar_no hp (z := z))
        clear hp
        go_wp2_with (fail)
        rw [← hV]
        clear hV x0 x1 x2 x3 f0 f1 f2 f3 f4 f5 f6 g0 g1 g2
        go_at_call 138
        refine (HCL.out V (below_join HB.out HKV.out hle) HOK.out k hlt false HP.out).mono ?_
        rintro e v2 ⟨rfl, bb⟩
        have HK2 := Lib.hid (below_join HKV.out bb HKV.out.size)
        clear bb
        go_wp2_with (fail)
        go_roundw
        case rel => exact ⟨k + 1, by omega, by rw [HSN.out, HS.out], by go_num, HK2⟩
        case measure => simp only [intOf]; omega
      · have HP := Lib.hid hp
        clear hp
        rcases h4 : ((y.phase : Int) == 4) with _ | _
        · obtain ⟨u, hu⟩ : ∃ u, usedD z.ss z.d.reps (k : Int) = u := ⟨_, rfl⟩
          have HU := Lib.hid hu
          have bu := used_bd HOK.out (k : Int)
          rw [show usedD (Sn.ss z) z.d.reps (k : Int) = u from hu] at bu
          obtain ⟨pr, hpr⟩ : ∃ t, x.per * u = t := ⟨_, rfl⟩
          have HPR := Lib.hid hpr
          have bpr : 0 ≤ pr ∧ pr ≤ 24000000 := by
            rw [← hpr]
            have p1 := Int.mul_nonneg bp.1 bu.1
            have p2 : x.per * u ≤ 1000 * u := Int.mul_le_mul_of_nonneg_right bp.2 bu.1
            omega
          have HSY := Lib.hid (show soFar z pd (k + 1) = S + (x.idle + pr) by
            rw [soFar_yes HXX.out HYY.out HP.out (by intro h; rw [h] at h4; simp at h4), HS.out, HU.out, HPR.out])
          have hne : ((y.phase : Int) != 4) = true := by unfold bne; rw [h4]; rfl
          clear hu hpr
          go_wp2_with (fail)
          rw [← hV]
          clear hV x0 x1 x2 x3 f0 f1 f2 f3 f4 f5 f6 g0 g1 g2
          go_at_call 138
          refine (HCL.out V (below_join HB.out HKV.out hle) HOK.out k hlt true HP.out).mono ?_
          rintro e v2 ⟨rfl, bb⟩
          have HKK2 := Lib.hid (below_join HKVV.out bb (Nat.le_refl _))
          have HK2 := Lib.hid (below_join HKV.out bb HKV.out.size)
          obtain ⟨f0, f1, f2, f3, f4, f5, f6, g0, g1, g2⟩ := HF.out v2 HK2.out
          obtain ⟨qb, qo, e1, hqb, y0⟩ := ho_at (HZ.out v2 HK2.out) HYY.out
          rw [e1] at g1
          clear bb e1
          go_wp2_with (fail)
          obtain ⟨j0, j1, j2, j3⟩ := HBV.out v2 HKK2.out
          obtain ⟨f0, f1, f2, f3, f4, f5, f6, g0, g1, g2⟩ := HF.out v2 HK2.out
          go_region_held3 (fun X => (X.cell? ⟨B, 0, none⟩ = some (.slice z.p.a1 z.s.feeds.length z.p.c1) ∧ X.cell? ⟨B, 1, none⟩ = some (.slice z.p.a2 z.s.brks.length z.p.c2) ∧ X.cell? ⟨B, 2, none⟩ = some (.slice z.p.a3 z.s.loops.length z.p.c3) ∧ X.cell? ⟨B, 3, none⟩ = some (.slice z.p.a4 z.s.racks.length z.p.c4) ∧ X.cell? ⟨B, 4, none⟩ = some (.int .i64 z.s.sw) ∧ X.cell? ⟨B, 5, none⟩ = some (.slice z.p.a5 z.s.links.length z.p.c5) ∧ X.cell? ⟨B, 6, none⟩ = some (.slice (some ⟨pb, po, none⟩) z.s.hosts.length z.p.c6) ∧ X.cell? ⟨B + 1, 0, none⟩ = some (.slice z.A z.xs.length z.c) ∧ X.cell? ⟨B + 1 + 1, 0, none⟩ = some (.slice z.q.a1 z.d.hosts.length z.q.c1) ∧ X.cell? ⟨B + 1 + 1, 1, none⟩ = some (.slice z.q.a2 z.d.reps.length z.q.c2)) ∧ X.cell? ⟨wr.heap.size, 2, none⟩ = some (.int .i64 x.idle) ∧ X.cell? ⟨wr.heap.size, 3, none⟩ = some (.int .i64 x.per))
            (first | exact ⟨HF.out v3 HK3.out, (HBV.out v3 HKK3.out).2.2⟩ | exact ⟨HF.out v2 HK2.out, (HBV.out v2 HKK2.out).2.2⟩ | fail)
            (first
              | (go_at_call 93; (with_reducible refine (c_usedTo z (k : Int) u HU.out v2.drew (HZ.out v2.drew HK2.out.drew)).mono ?_); rintro e v3 ⟨rfl, bb0⟩; have bb := below_join (Below.refl v2.heap.size v2).drew bb0 (Nat.le_refl _); have HK3 := Lib.hid (below_join HK2.out bb HK2.out.size); have HKK3 := Lib.hid (below_join HKK2.out bb HKK2.out.size); clear bb bb0)
              | fail)
          go_wp2_with (fail)
          go_roundw
          case rel => exact ⟨k + 1, by omega, by rw [HSY.out, HPR.out, wrap_in (x := pr) (by omega) (by omega), wrap_in (x := x.idle + pr) (by omega) (by omega), wrap_in (by omega) (by omega)], by go_num, HK3⟩
          case measure => simp only [intOf]; omega
        · have HSN := Lib.hid (soFar_off (z := z) (b := pd) HYY.out (by have := eq_of_beq h4; omega))
          have hne : ((y.phase : Int) != 4) = false := by unfold bne; rw [h4]; rfl
          go_wp2_with (fail)
          rw [← hV]
          clear hV x0 x1 x2 x3 f0 f1 f2 f3 f4 f5 f6 g0 g1 g2
          go_at_call 138
          refine (HCL.out V (below_join HB.out HKV.out hle) HOK.out k hlt true HP.out).mono ?_
          rintro e v2 ⟨rfl, bb⟩
          have HK2 := Lib.hid (below_join HKV.out bb HKV.out.size)
          obtain ⟨f0, f1, f2, f3, f4, f5, f6, g0, g1, g2⟩ := HF.out v2 HK2.out
          obtain ⟨qb, qo, e1, hqb, y0⟩ := ho_at (HZ.out v2 HK2.out) HYY.out
          rw [e1] at g1
          clear bb e1
          go_wp2_with (fail)
          go_roundw
          case rel => exact ⟨k + 1, by omega, by rw [HSN.out, HS.out], by go_num, HK2⟩
          case measure => simp only [intOf]; omega
    · obtain rfl : k = z.s.hosts.length := by omega
      have HVS := Lib.hid (show S = v by rw [← HVE.out, HS.out])
      go_wp2_with (fail)
      go_ret
      exact ⟨(show Ending.returned (.int .i64 S) = .returned (.int .i64 v) by rw [HVS.out]), below_join HB.out hK.out hle⟩
end Go.Proofs.YtbbadnlaelgmlaaGreat

namespace Go.Proofs.YtbbadnlaelgmlaaGreat
open Go.RowKit
set_option maxRecDepth 100000
set_option linter.unusedVariables false
set_option linter.unusedSimpArgs false

set_option maxHeartbeats 4000000 in
theorem c_pwWatts (z : Sn) (r0 : Bool) (hr0 : r0 = true ↔ z.Ok) (k : Int) (w : World) (hz : SnAt w z) (v : Int) (hv : pwV z r0 (isHost k) = v) :
    Calls Tryz.prog 140 #[.agg #[.slice z.p.a1 z.s.feeds.length z.p.c1, .slice z.p.a2 z.s.brks.length z.p.c2, .slice z.p.a3 z.s.loops.length z.p.c3, .slice z.p.a4 z.s.racks.length z.p.c4, .int .i64 z.s.sw, .slice z.p.a5 z.s.links.length z.p.c5, .slice z.p.a6 z.s.hosts.length z.p.c6], .agg #[.slice z.A z.xs.length z.c], .agg #[.slice z.q.a1 z.d.hosts.length z.q.c1, .slice z.q.a2 z.d.reps.length z.q.c2], .int .i64 k] w fun e w' => e = .returned (.int .i64 v) ∧ Below w.heap.size w w' := by
  obtain ⟨W1, h1⟩ : ∃ W, W = w.alloc (.cells #[.slice z.p.a1 z.s.feeds.length z.p.c1, .slice z.p.a2 z.s.brks.length z.p.c2, .slice z.p.a3 z.s.loops.length z.p.c3, .slice z.p.a4 z.s.racks.length z.p.c4, .int .i64 z.s.sw, .slice z.p.a5 z.s.links.length z.p.c5, .slice z.p.a6 z.s.hosts.length z.p.c6] 29) := ⟨_, rfl⟩
  obtain ⟨W2, h2⟩ : ∃ W, W = W1.alloc (.cells #[.slice z.A z.xs.length z.c] 32) := ⟨_, rfl⟩
  obtain ⟨W3, h3⟩ : ∃ W, W = W2.alloc (.cells #[.slice z.q.a1 z.d.hosts.length z.q.c1, .slice z.q.a2 z.d.reps.length z.q.c2] 36) := ⟨_, rfl⟩
  obtain ⟨B0, X1⟩ := sn_boxes h1 h2 h3
  have z3 : W3.heap.size = w.heap.size + 1 + 1 + 1 := sn_size h1 h2 h3
  obtain ⟨W, h4⟩ : ∃ W, W = W3.alloc (.cells #[.int .i64 k] 3) := ⟨_, rfl⟩
  have B1 : Below w.heap.size w W := by rw [h4]; exact B0.alloc B0.size _
  have M0 : W.heap[w.heap.size + 1 + 1 + 1]? = some (.cells #[.int .i64 k] 3 (0, 0)) := by rw [h4, ← z3]; exact box_new _ _ _
  have z4 : W.heap.size = w.heap.size + 1 + 1 + 1 + 1 := by rw [h4, World.size_alloc, z3]
  have X2 : SnBx W w.heap.size z := by rw [h4]; exact X1.alloc _
  have HB := Lib.hid B1
  have Z0 := hz.on B1 (Nat.le_refl _)
  have HZ := Lib.hid (fun (X : World) (hX : Below W.heap.size W X) => Z0.on hX (Nat.le_refl _))
  have HF := Lib.hid (fun (X : World) (hX : Below W.heap.size W X) => ((X2.on hX (Nat.le_refl _)).cells : X.cell? ⟨w.heap.size, 0, none⟩ = some (.slice z.p.a1 z.s.feeds.length z.p.c1) ∧ X.cell? ⟨w.heap.size, 1, none⟩ = some (.slice z.p.a2 z.s.brks.length z.p.c2) ∧ X.cell? ⟨w.heap.size, 2, none⟩ = some (.slice z.p.a3 z.s.loops.length z.p.c3) ∧ X.cell? ⟨w.heap.size, 3, none⟩ = some (.slice z.p.a4 z.s.racks.length z.p.c4) ∧ X.cell? ⟨w.heap.size, 4, none⟩ = some (.int .i64 z.s.sw) ∧ X.cell? ⟨w.heap.size, 5, none⟩ = some (.slice z.p.a5 z.s.links.length z.p.c5) ∧ X.cell? ⟨w.heap.size, 6, none⟩ = some (.slice z.p.a6 z.s.hosts.length z.p.c6) ∧ X.cell? ⟨w.heap.size + 1, 0, none⟩ = some (.slice z.A z.xs.length z.c) ∧ X.cell? ⟨w.heap.size + 1 + 1, 0, none⟩ = some (.slice z.q.a1 z.d.hosts.length z.q.c1) ∧ X.cell? ⟨w.heap.size + 1 + 1, 1, none⟩ = some (.slice z.q.a2 z.d.reps.length z.q.c2)))
  have HX := Lib.hid (fun (X : World) (hX : Below W.heap.size W X) => X2.on hX (Nat.le_refl _))
  have HM0 := Lib.hid (fun (X : World) (hX : Below W.heap.size W X) => (box_on M0 hX (Nat.le_refl _) : X.heap[w.heap.size + 1 + 1 + 1]? = some (.cells #[.int .i64 k] 3 (0, 0))))
  have HKW := Lib.hid (Below.refl W.heap.size W)
  have hle := HB.out.size
  obtain ⟨n1, n2, n3, n4, n5, n6, n7, n8⟩ := hz.bounds
  have HCL := Lib.hid (fun (X : World) (hX : Below W.heap.size W X) => c_loadHost z r0 hr0 (w.heap.size + 1 + 1 + 1) k X (HZ.out X hX) (cell_of (HM0.out X hX) rfl) (at_lt (HM0.out X hX)) v hv)
  clear hr0 hv
  clear hz B0 X1 z3 Z0 B1 M0 z4 X2
  obtain ⟨f0, f1, f2, f3, f4, f5, f6, g0, g1, g2⟩ := HF.out W HKW.out
  have m00 := cell_of (HM0.out W HKW.out) (o := 0) rfl
  rw [h4, h3, h2, h1] at f0 f1 f2 f3 f4 f5 f6 g0 g1 g2 m00
  generalize hBB : w.heap.size = B at *
  go_enter Tryz.func140, Tryz.ntmps140
  go_wp2_with (fail)
  rw [← h1, ← h2, ← h3, ← h4]
  clear h1 h2 h3 h4 f0 f1 f2 f3 f4 f5 f6 g0 g1 g2 m00
  go_at_call 135
  refine (HCL.out W HKW.out).mono ?_
  rintro e v1 ⟨rfl, bb⟩
  have HKv1 := Lib.hid (below_join HKW.out bb HKW.out.size)
  clear bb
  go_wp2_with (fail)
  go_ret
  exact ⟨rfl, below_join HB.out HKv1.out hle⟩
set_option maxHeartbeats 4000000 in
theorem c_pwOfBreaker (z : Sn) (r0 : Bool) (hr0 : r0 = true ↔ z.Ok) (k : Int) (w : World) (hz : SnAt w z) (v : Int) (hv : pwV z r0 (isBrk z.s k) = v) :
    Calls Tryz.prog 105 #[.agg #[.slice z.p.a1 z.s.feeds.length z.p.c1, .slice z.p.a2 z.s.brks.length z.p.c2, .slice z.p.a3 z.s.loops.length z.p.c3, .slice z.p.a4 z.s.racks.length z.p.c4, .int .i64 z.s.sw, .slice z.p.a5 z.s.links.length z.p.c5, .slice z.p.a6 z.s.hosts.length z.p.c6], .agg #[.slice z.A z.xs.length z.c], .agg #[.slice z.q.a1 z.d.hosts.length z.q.c1, .slice z.q.a2 z.d.reps.length z.q.c2], .int .i64 k] w fun e w' => e = .returned (.int .i64 v) ∧ Below w.heap.size w w' := by
  obtain ⟨W1, h1⟩ : ∃ W, W = w.alloc (.cells #[.slice z.p.a1 z.s.feeds.length z.p.c1, .slice z.p.a2 z.s.brks.length z.p.c2, .slice z.p.a3 z.s.loops.length z.p.c3, .slice z.p.a4 z.s.racks.length z.p.c4, .int .i64 z.s.sw, .slice z.p.a5 z.s.links.length z.p.c5, .slice z.p.a6 z.s.hosts.length z.p.c6] 29) := ⟨_, rfl⟩
  obtain ⟨W2, h2⟩ : ∃ W, W = W1.alloc (.cells #[.slice z.A z.xs.length z.c] 32) := ⟨_, rfl⟩
  obtain ⟨W3, h3⟩ : ∃ W, W = W2.alloc (.cells #[.slice z.q.a1 z.d.hosts.length z.q.c1, .slice z.q.a2 z.d.reps.length z.q.c2] 36) := ⟨_, rfl⟩
  obtain ⟨B0, X1⟩ := sn_boxes h1 h2 h3
  have z3 : W3.heap.size = w.heap.size + 1 + 1 + 1 := sn_size h1 h2 h3
  obtain ⟨W, h4⟩ : ∃ W, W = W3.alloc (.cells #[.int .i64 k] 3) := ⟨_, rfl⟩
  have B1 : Below w.heap.size w W := by rw [h4]; exact B0.alloc B0.size _
  have M0 : W.heap[w.heap.size + 1 + 1 + 1]? = some (.cells #[.int .i64 k] 3 (0, 0)) := by rw [h4, ← z3]; exact box_new _ _ _
  have z4 : W.heap.size = w.heap.size + 1 + 1 + 1 + 1 := by rw [h4, World.size_alloc, z3]
  have X2 : SnBx W w.heap.size z := by rw [h4]; exact X1.alloc _
  have HB := Lib.hid B1
  have Z0 := hz.on B1 (Nat.le_refl _)
  have HZ := Lib.hid (fun (X : World) (hX : Below W.heap.size W X) => Z0.on hX (Nat.le_refl _))
  have HF := Lib.hid (fun (X : World) (hX : Below W.heap.size W X) => ((X2.on hX (Nat.le_refl _)).cells : X.cell? ⟨w.heap.size, 0, none⟩ = some (.slice z.p.a1 z.s.feeds.length z.p.c1) ∧ X.cell? ⟨w.heap.size, 1, none⟩ = some (.slice z.p.a2 z.s.brks.length z.p.c2) ∧ X.cell? ⟨w.heap.size, 2, none⟩ = some (.slice z.p.a3 z.s.loops.length z.p.c3) ∧ X.cell? ⟨w.heap.size, 3, none⟩ = some (.slice z.p.a4 z.s.racks.length z.p.c4) ∧ X.cell? ⟨w.heap.size, 4, none⟩ = some (.int .i64 z.s.sw) ∧ X.cell? ⟨w.heap.size, 5, none⟩ = some (.slice z.p.a5 z.s.links.length z.p.c5) ∧ X.cell? ⟨w.heap.size, 6, none⟩ = some (.slice z.p.a6 z.s.hosts.length z.p.c6) ∧ X.cell? ⟨w.heap.size + 1, 0, none⟩ = some (.slice z.A z.xs.length z.c) ∧ X.cell? ⟨w.heap.size + 1 + 1, 0, none⟩ = some (.slice z.q.a1 z.d.hosts.length z.q.c1) ∧ X.cell? ⟨w.heap.size + 1 + 1, 1, none⟩ = some (.slice z.q.a2 z.d.reps.length z.q.c2)))
  have HX := Lib.hid (fun (X : World) (hX : Below W.heap.size W X) => X2.on hX (Nat.le_refl _))
  have HM0 := Lib.hid (fun (X : World) (hX : Below W.heap.size W X) => (box_on M0 hX (Nat.le_refl _) : X.heap[w.heap.size + 1 + 1 + 1]? = some (.cells #[.int .i64 k] 3 (0, 0))))
  have HKW := Lib.hid (Below.refl W.heap.size W)
  have hle := HB.out.size
  obtain ⟨n1, n2, n3, n4, n5, n6, n7, n8⟩ := hz.bounds
  have HCL := Lib.hid (fun (X : World) (hX : Below W.heap.size W X) => c_loadBrk z r0 hr0 w.heap.size (w.heap.size + 1 + 1 + 1) k X (HZ.out X hX) ((HX.out X hX).b1) (cell_of (HM0.out X hX) rfl) (at_lt (HM0.out X hX)) v hv)
  clear hr0 hv
  clear hz B0 X1 z3 Z0 B1 M0 z4 X2
  obtain ⟨f0, f1, f2, f3, f4, f5, f6, g0, g1, g2⟩ := HF.out W HKW.out
  have m00 := cell_of (HM0.out W HKW.out) (o := 0) rfl
  rw [h4, h3, h2, h1] at f0 f1 f2 f3 f4 f5 f6 g0 g1 g2 m00
  generalize hBB : w.heap.size = B at *
  go_enter Tryz.func105, Tryz.ntmps105
  go_wp2_with (fail)
  rw [← h1, ← h2, ← h3, ← h4]
  clear h1 h2 h3 h4 f0 f1 f2 f3 f4 f5 f6 g0 g1 g2 m00
  go_at_call 135
  refine (HCL.out W HKW.out).mono ?_
  rintro e v1 ⟨rfl, bb⟩
  have HKv1 := Lib.hid (below_join HKW.out bb HKW.out.size)
  clear bb
  go_wp2_with (fail)
  go_ret
  exact ⟨rfl, below_join HB.out HKv1.out hle⟩
set_option maxHeartbeats 4000000 in
theorem c_pwOfFeed (z : Sn) (r0 : Bool) (hr0 : r0 = true ↔ z.Ok) (k : Int) (w : World) (hz : SnAt w z) (v : Int) (hv : pwV z r0 (isFeed z.s k) = v) :
    Calls Tryz.prog 106 #[.agg #[.slice z.p.a1 z.s.feeds.length z.p.c1, .slice z.p.a2 z.s.brks.length z.p.c2, .slice z.p.a3 z.s.loops.length z.p.c3, .slice z.p.a4 z.s.racks.length z.p.c4, .int .i64 z.s.sw, .slice z.p.a5 z.s.links.length z.p.c5, .slice z.p.a6 z.s.hosts.length z.p.c6], .agg #[.slice z.A z.xs.length z.c], .agg #[.slice z.q.a1 z.d.hosts.length z.q.c1, .slice z.q.a2 z.d.reps.length z.q.c2], .int .i64 k] w fun e w' => e = .returned (.int .i64 v) ∧ Below w.heap.size w w' := by
  obtain ⟨W1, h1⟩ : ∃ W, W = w.alloc (.cells #[.slice z.p.a1 z.s.feeds.length z.p.c1, .slice z.p.a2 z.s.brks.length z.p.c2, .slice z.p.a3 z.s.loops.length z.p.c3, .slice z.p.a4 z.s.racks.length z.p.c4, .int .i64 z.s.sw, .slice z.p.a5 z.s.links.length z.p.c5, .slice z.p.a6 z.s.hosts.length z.p.c6] 29) := ⟨_, rfl⟩
  obtain ⟨W2, h2⟩ : ∃ W, W = W1.alloc (.cells #[.slice z.A z.xs.length z.c] 32) := ⟨_, rfl⟩
  obtain ⟨W3, h3⟩ : ∃ W, W = W2.alloc (.cells #[.slice z.q.a1 z.d.hosts.length z.q.c1, .slice z.q.a2 z.d.reps.length z.q.c2] 36) := ⟨_, rfl⟩
  obtain ⟨B0, X1⟩ := sn_boxes h1 h2 h3
  have z3 : W3.heap.size = w.heap.size + 1 + 1 + 1 := sn_size h1 h2 h3
  obtain ⟨W, h4⟩ : ∃ W, W = W3.alloc (.cells #[.int .i64 k] 3) := ⟨_, rfl⟩
  have B1 : Below w.heap.size w W := by rw [h4]; exact B0.alloc B0.size _
  have M0 : W.heap[w.heap.size + 1 + 1 + 1]? = some (.cells #[.int .i64 k] 3 (0, 0)) := by rw [h4, ← z3]; exact box_new _ _ _
  have z4 : W.heap.size = w.heap.size + 1 + 1 + 1 + 1 := by rw [h4, World.size_alloc, z3]
  have X2 : SnBx W w.heap.size z := by rw [h4]; exact X1.alloc _
  have HB := Lib.hid B1
  have Z0 := hz.on B1 (Nat.le_refl _)
  have HZ := Lib.hid (fun (X : World) (hX : Below W.heap.size W X) => Z0.on hX (Nat.le_refl _))
  have HF := Lib.hid (fun (X : World) (hX : Below W.heap.size W X) => ((X2.on hX (Nat.le_refl _)).cells : X.cell? ⟨w.heap.size, 0, none⟩ = some (.slice z.p.a1 z.s.feeds.length z.p.c1) ∧ X.cell? ⟨w.heap.size, 1, none⟩ = some (.slice z.p.a2 z.s.brks.length z.p.c2) ∧ X.cell? ⟨w.heap.size, 2, none⟩ = some (.slice z.p.a3 z.s.loops.length z.p.c3) ∧ X.cell? ⟨w.heap.size, 3, none⟩ = some (.slice z.p.a4 z.s.racks.length z.p.c4) ∧ X.cell? ⟨w.heap.size, 4, none⟩ = some (.int .i64 z.s.sw) ∧ X.cell? ⟨w.heap.size, 5, none⟩ = some (.slice z.p.a5 z.s.links.length z.p.c5) ∧ X.cell? ⟨w.heap.size, 6, none⟩ = some (.slice z.p.a6 z.s.hosts.length z.p.c6) ∧ X.cell? ⟨w.heap.size + 1, 0, none⟩ = some (.slice z.A z.xs.length z.c) ∧ X.cell? ⟨w.heap.size + 1 + 1, 0, none⟩ = some (.slice z.q.a1 z.d.hosts.length z.q.c1) ∧ X.cell? ⟨w.heap.size + 1 + 1, 1, none⟩ = some (.slice z.q.a2 z.d.reps.length z.q.c2)))
  have HX := Lib.hid (fun (X : World) (hX : Below W.heap.size W X) => X2.on hX (Nat.le_refl _))
  have HM0 := Lib.hid (fun (X : World) (hX : Below W.heap.size W X) => (box_on M0 hX (Nat.le_refl _) : X.heap[w.heap.size + 1 + 1 + 1]? = some (.cells #[.int .i64 k] 3 (0, 0))))
  have HKW := Lib.hid (Below.refl W.heap.size W)
  have hle := HB.out.size
  obtain ⟨n1, n2, n3, n4, n5, n6, n7, n8⟩ := hz.bounds
  have HCL := Lib.hid (fun (X : World) (hX : Below W.heap.size W X) => c_loadFeed z r0 hr0 w.heap.size (w.heap.size + 1 + 1 + 1) k X (HZ.out X hX) ((HX.out X hX).b1) (cell_of (HM0.out X hX) rfl) (at_lt (HM0.out X hX)) v hv)
  clear hr0 hv
  clear hz B0 X1 z3 Z0 B1 M0 z4 X2
  obtain ⟨f0, f1, f2, f3, f4, f5, f6, g0, g1, g2⟩ := HF.out W HKW.out
  have m00 := cell_of (HM0.out W HKW.out) (o := 0) rfl
  rw [h4, h3, h2, h1] at f0 f1 f2 f3 f4 f5 f6 g0 g1 g2 m00
  generalize hBB : w.heap.size = B at *
  go_enter Tryz.func106, Tryz.ntmps106
  go_wp2_with (fail)
  rw [← h1, ← h2, ← h3, ← h4]
  clear h1 h2 h3 h4 f0 f1 f2 f3 f4 f5 f6 g0 g1 g2 m00
  go_at_call 135
  refine (HCL.out W HKW.out).mono ?_
  rintro e v1 ⟨rfl, bb⟩
  have HKv1 := Lib.hid (below_join HKW.out bb HKW.out.size)
  clear bb
  go_wp2_with (fail)
  go_ret
  exact ⟨rfl, below_join HB.out HKv1.out hle⟩
end Go.Proofs.YtbbadnlaelgmlaaGreat

namespace Go.Proofs.YtbbadnlaelgmlaaGreat
set_option linter.unusedVariables false
set_option linter.unusedSimpArgs false
set_option maxRecDepth 100000

def isLoop (s : SiteD) (k : Int) (h : Nat) : Bool := (rkAt s h).loop == k
theorem sumN_filter (b : Nat → Bool) (f : Nat → Int) (n : Nat) : sumN (fun h => if b h = true then f h else 0) n = (((List.range n).filter b).map f).sum := by
  induction n with
  | zero => rfl
  | succ n ih =>
    rw [sumN, ih, List.range_succ, List.filter_append, List.map_append, List.sum_append]
    rcases h : b n with _ | _
    · simp [List.filter_cons, h]
    · simp [List.filter_cons, h]
theorem loop_in {s : SiteD} {ss : List Svc} {d : WorldD} (ok : WorldOk s ss d) {h : Nat} (hh : h < s.hosts.length) : 0 ≤ (rkAt s h).loop ∧ (rkAt s h).loop < s.loops.length :=
  ((siteOk_iff.1 ok.1).racks _ (List.mem_of_getElem? (rk_in ok hh))).2.2.1
/-- The heat of a loop is the sum of the watts of its hosts. -/
theorem heat_mem {s : SiteD} {ss : List Svc} {d : WorldD} (ok : WorldOk s ss d) (k : Int) : ((memD s 5 k).map (fun x => loadN s ss d (isHost x))).sum = loadN s ss d (isLoop s k) := by
  have hc : cntD s 5 = s.loops.length := by unfold cntD; rw [if_pos ok.1]; rfl
  unfold memD
  rw [hc]
  unfold loadN
  rw [sumN_filter (isLoop s k)]
  split
  · rw [List.map_map]
    congr 1
    refine List.map_congr_left fun h hh => ?_
    have hh := List.mem_range.1 (List.mem_filter.1 hh).1
    show sumN (fun i => if isHost (h : Int) i = true then watN s ss d i else 0) s.hosts.length = _
    have e := load_host (s := s) (ss := ss) (d := d) (h : Int)
    unfold loadN at e
    rw [e, if_pos (by omega), Int.toNat_natCast]
  · rename_i hn
    rw [List.filter_eq_nil_iff.2 (fun h hh => by
      have hh := List.mem_range.1 hh
      have := loop_in ok hh
      unfold isLoop
      intro he
      have he := eq_of_beq he
      exact hn (ixB_iff.2 (by omega)))]
    rfl
theorem mem_len (s : SiteD) (d : Nat) (k : Int) : (memD s d k).length ≤ s.hosts.length := by
  unfold memD
  split
  · rw [List.length_map]
    exact Nat.le_trans (List.length_filter_le _ _) (by simp)
  · exact Nat.zero_le _
end Go.Proofs.YtbbadnlaelgmlaaGreat

namespace Go.Proofs.YtbbadnlaelgmlaaGreat
open Go.RowKit
set_option maxRecDepth 100000
set_option linter.unusedVariables false
set_option linter.unusedSimpArgs false

set_option maxHeartbeats 8000000 in
theorem c_memNeg (p : SP) (s : SiteD) (d : Nat) (n : Int) (w : World) (h : SiAt w p s) (hd : ∀ X : World, SiAt X p s → Calls Tryz.prog 127 #[siV p s, .int .u8 (d : Int)] X fun e w' => (∃ f, e = .returned (.tuple #[.int .i64 (cntD s d), f])) ∧ Below X.heap.size X w') (hn : ixB n (cntD s d) = false) :
    Calls Tryz.prog 141 #[siV p s, .int .u8 (d : Int), .int .i64 n] w fun e w' => ∃ v, e = .returned v ∧ w'.ownsRow w.heap.size 3 1 v (memD s d n).length (ints (memD s d n)) ∧ Below w.heap.size w w' := by
  have HV := Lib.hid hd
  have HM := Lib.hid (show memD s d n = [] by unfold memD; rw [hn]; rfl)
  have HN := Lib.hid hn
  clear hd hn
  unfold siV at HV
  rw [HM.out]
  unfold siV
  obtain ⟨W, hW⟩ : ∃ W, W = w.alloc (.cells #[.slice p.a1 s.feeds.length p.c1, .slice p.a2 s.brks.length p.c2, .slice p.a3 s.loops.length p.c3, .slice p.a4 s.racks.length p.c4, .int .i64 s.sw, .slice p.a5 s.links.length p.c5, .slice p.a6 s.hosts.length p.c6] 29) := ⟨_, rfl⟩
  have B0 : Below w.heap.size w W := by subst hW; exact (Below.refl _ _).alloc (Nat.le_refl _) _
  have HB0 := Lib.hid B0
  have HX := Lib.hid (show SiBox W w.heap.size p s by subst hW; exact siBox_new _ _ _)
  have HA := Lib.hid (h.on B0 (Nat.le_refl _))
  have HF := Lib.hid (fun (X : World) (hX : Below W.heap.size W X) => (let z := HX.out.on hX (Nat.le_refl _); ⟨z.c0, z.c1, z.c2, z.c3, z.c4, z.c5, z.c6⟩ : X.cell? ⟨w.heap.size, 0, none⟩ = some (.slice p.a1 s.feeds.length p.c1) ∧ X.cell? ⟨w.heap.size, 1, none⟩ = some (.slice p.a2 s.brks.length p.c2) ∧ X.cell? ⟨w.heap.size, 2, none⟩ = some (.slice p.a3 s.loops.length p.c3) ∧ X.cell? ⟨w.heap.size, 3, none⟩ = some (.slice p.a4 s.racks.length p.c4) ∧ X.cell? ⟨w.heap.size, 4, none⟩ = some (.int .i64 s.sw) ∧ X.cell? ⟨w.heap.size, 5, none⟩ = some (.slice p.a5 s.links.length p.c5) ∧ X.cell? ⟨w.heap.size, 6, none⟩ = some (.slice p.a6 s.hosts.length p.c6)))
  have m1 := h.feeds.1; have m2 := h.brks.1; have m3 := h.loops.1; have m4 := h.racks.1; have m5 := h.links.1; have m6 := h.hosts.1
  have n1 := h.feeds.2.1; have n2 := h.brks.2.1; have n3 := h.loops.2.1; have n4 := h.racks.2.1; have n5 := h.links.2.1; have n6 := h.hosts.2.1
  unfold maxLen at n1 n2 n3 n4 n5 n6
  have KW := Lib.hid (Below.refl W.heap.size W)
  have hlw : w.heap.size < W.heap.size := HX.out.lt
  clear B0 h
  obtain ⟨f0, f1, f2, f3, f4, f5, f6⟩ := HF.out W KW.out
  rw [hW] at f0 f1 f2 f3 f4 f5 f6
  go_enter Tryz.func141, Tryz.ntmps141
  go_wp2_with (fail)
  rw [← hW]
  clear hW f0 f1 f2 f3 f4 f5 f6
  go_at_call 127
  refine (HV.out W HA.out).mono ?_
  rintro e w1 ⟨⟨f, rfl⟩, b1⟩
  have K1 := Lib.hid b1
  clear b1
  obtain ⟨cc, hcc⟩ : ∃ c, cntD s d = c := ⟨_, rfl⟩
  rw [hcc] at HN ⊢
  go_wp2_with (fail)
  go_at_call 77
  refine (c_isIndex n cc false HN.out w1).mono ?_
  rintro e w2 ⟨rfl, b2⟩
  have K2 := Lib.hid (below_join K1.out b2 K1.out.size)
  clear b2
  go_wp2_with (fail)
  go_ret
  exact ⟨_, rfl, World.ownsRow_nil _ _ _ _, below_join HB0.out K2.out HB0.out.size⟩
set_option maxHeartbeats 16000000 in
theorem c_mem1 (p : SP) (s : SiteD) (hok : siteOk s = true) (n : Int) (hix : ixB n (s.hosts.length : Int) = true) (w : World) (h : SiAt w p s) :
    Calls Tryz.prog 141 #[siV p s, .int .u8 1, .int .i64 n] w fun e w' => ∃ v, e = .returned v ∧ w'.ownsRow w.heap.size 3 1 v (nats ((List.range s.hosts.length).filter (fun h => domAt s h 1 == n))).length (ints (nats ((List.range s.hosts.length).filter (fun h => domAt s h 1 == n)))) ∧ Below w.heap.size w w' := by
  have hsok := siteOk_iff.1 hok
  have hnh := hsok.nhosts
  have HV := Lib.hid (fun (X : World) (hX : SiAt X p s) => c_doms1 p s hok X hX)
  have HSOK := Lib.hid hsok
  have HIX := Lib.hid hix
  unfold siV at HV
  clear hok hsok hix
  unfold siV
  obtain ⟨W, hW⟩ : ∃ W, W = w.alloc (.cells #[.slice p.a1 s.feeds.length p.c1, .slice p.a2 s.brks.length p.c2, .slice p.a3 s.loops.length p.c3, .slice p.a4 s.racks.length p.c4, .int .i64 s.sw, .slice p.a5 s.links.length p.c5, .slice p.a6 s.hosts.length p.c6] 29) := ⟨_, rfl⟩
  have B0 : Below w.heap.size w W := by subst hW; exact (Below.refl _ _).alloc (Nat.le_refl _) _
  have HB0 := Lib.hid B0
  have HX := Lib.hid (show SiBox W w.heap.size p s by subst hW; exact siBox_new _ _ _)
  have HA := Lib.hid (h.on B0 (Nat.le_refl _))
  have HF := Lib.hid (fun (X : World) (hX : Below W.heap.size W X) => (let z := HX.out.on hX (Nat.le_refl _); ⟨z.c0, z.c1, z.c2, z.c3, z.c4, z.c5, z.c6⟩ : X.cell? ⟨w.heap.size, 0, none⟩ = some (.slice p.a1 s.feeds.length p.c1) ∧ X.cell? ⟨w.heap.size, 1, none⟩ = some (.slice p.a2 s.brks.length p.c2) ∧ X.cell? ⟨w.heap.size, 2, none⟩ = some (.slice p.a3 s.loops.length p.c3) ∧ X.cell? ⟨w.heap.size, 3, none⟩ = some (.slice p.a4 s.racks.length p.c4) ∧ X.cell? ⟨w.heap.size, 4, none⟩ = some (.int .i64 s.sw) ∧ X.cell? ⟨w.heap.size, 5, none⟩ = some (.slice p.a5 s.links.length p.c5) ∧ X.cell? ⟨w.heap.size, 6, none⟩ = some (.slice p.a6 s.hosts.length p.c6)))
  have m1 := h.feeds.1; have m2 := h.brks.1; have m3 := h.loops.1; have m4 := h.racks.1; have m5 := h.links.1; have m6 := h.hosts.1
  have n1 := h.feeds.2.1; have n2 := h.brks.2.1; have n3 := h.loops.2.1; have n4 := h.racks.2.1; have n5 := h.links.2.1; have n6 := h.hosts.2.1
  unfold maxLen at n1 n2 n3 n4 n5 n6
  have KW := Lib.hid (Below.refl W.heap.size W)
  have hlw : w.heap.size < W.heap.size := HX.out.lt
  clear B0 h
  obtain ⟨f0, f1, f2, f3, f4, f5, f6⟩ := HF.out W KW.out
  rw [hW] at f0 f1 f2 f3 f4 f5 f6
  go_enter Tryz.func141, Tryz.ntmps141
  go_wp2_with (fail)
  rw [← hW]
  clear hW f0 f1 f2 f3 f4 f5 f6
  go_at_call 127
  refine (HV.out W HA.out).mono ?_
  rintro e w1 ⟨bs, bt, rfl, hb1, ha1, hr1, b1⟩
  have K1 := Lib.hid b1
  have HB1 := Lib.hid hb1
  have HA1 := Lib.hid ha1
  have HR1 := Lib.hid hr1
  clear b1 hb1 ha1 hr1
  go_wp2_with (fail)
  go_at_call 77
  refine (c_isIndex n (s.hosts.length : Int) true HIX.out w1).mono ?_
  rintro e w2 ⟨rfl, b2⟩
  have K2 := Lib.hid (below_join K1.out b2 K1.out.size)
  have KK := Lib.hid b2
  clear b2
  have HB2 := Lib.hid (HB1.out.on KK.out (Nat.le_refl _))
  have HA2 := Lib.hid (HA1.out.on KK.out (Nat.le_refl _))
  have HR2 := Lib.hid (HR1.out.on KK.out (Nat.le_refl _))
  have HC := Lib.hid (fun (k : Nat) (hk : k < s.hosts.length) (X : World) (hb : SiBox X bs p s) (ha : SiAt X p s) (hr : RkBox X bt bs) (hsok : SiteOk s) => (show Calls Tryz.prog 152 #[.int .i64 (k : Int)] X fun e w' => e = .returned (.int .i64 (k : Int)) ∧ Below X.heap.size X w' from c_dom2 (k : Int) X))
  obtain ⟨i1, hi1, hz1, hz2, hz3⟩ := info_parts int_info
  obtain ⟨f0, f1, f2, f3, f4, f5, f6⟩ := HF.out w2 K2.out
  go_wp2_with (fail)
  clear f0 f1 f2 f3 f4 f5 f6
  go_loopw [9, 24] (fun v i wr => ∃ k : Nat, k ≤ s.hosts.length ∧ i = .int .i64 (k : Int) ∧ Hid (Below w2.heap.size w2 wr) ∧ Hid (wr.ownsRow w2.heap.size 3 1 v (nats ((List.range k).filter (fun h => domAt s h 1 == n))).length (ints (nats ((List.range k).filter (fun h => domAt s h 1 == n)))))) (fun _ i _ => s.hosts.length - (intOf i).toNat)
  case atStart => exact ⟨0, Nat.zero_le _, rfl, Lib.hid (Below.refl _ _), Lib.hid (World.ownsRow_nil _ _ _ _)⟩
  case round =>
    obtain ⟨k, hk, rfl, hB, ho⟩ := hrel
    have hki : ((k : Nat) : Int).toNat = k := by omega
    by_cases hlt : k < s.hosts.length
    · have hkl : (k : Int) < (s.hosts.length : Int) := by omega
      have hln : (nats ((List.range k).filter (fun h => domAt s h 1 == n))).length ≤ 16 := by rw [nats_len]; exact Nat.le_trans (List.length_filter_le _ _) (by rw [List.length_range]; omega)
      obtain ⟨nn, hnn⟩ : ∃ m, m = (nats ((List.range k).filter (fun h => domAt s h 1 == n))).length := ⟨_, rfl⟩
      obtain ⟨x, hx⟩ : ∃ x, x = (k : Int) := ⟨_, rfl⟩
      rw [← hnn] at ho hln
      have HNN := Lib.hid hnn
      have HXX := Lib.hid (show domAt s k 1 = x from hx.symm)
      have HC1 := Lib.hid (show Calls Tryz.prog 152 #[.int .i64 (k : Int)] wr fun e w' => e = .returned (.int .i64 x) ∧ Below wr.heap.size wr w' from (HC.out k hlt wr (HB2.out.on hB.out (Nat.le_refl _)) (HA2.out.on hB.out (Nat.le_refl _)) (HR2.out.on hB.out (Nat.le_refl _)) HSOK.out).mono (fun e w' h => ⟨by rw [hx]; exact h.1, h.2⟩))
      obtain ⟨As, cs, rfl⟩ := own_shape ho.out
      have hz3' := hB.out.size
      clear hnn hx
      go_wp2_with (fail)
      go_at_call 152
      refine HC1.out.mono ?_
      rintro e wz ⟨rfl, bz⟩
      have HBz := Lib.hid (below_join hB.out bz hB.out.size)
      have HOz := Lib.hid (own_on ho.out bz (Nat.le_refl _))
      have hz4 := bz.size
      clear bz
      rcases hf : (x == n) with _ | _
      · have HO := Lib.hid (show wz.ownsRow w2.heap.size 3 1 (.slice As nn cs) (nats ((List.range (k + 1)).filter (fun h => domAt s h 1 == n))).length (ints (nats ((List.range (k + 1)).filter (fun h => domAt s h 1 == n)))) by
          rw [range_filter, show (domAt s k 1 == n) = false by rw [HXX.out]; exact hf]
          simp only [Bool.false_eq_true, if_false, List.append_nil]
          rw [← HNN.out]; exact HOz.out)
        go_wp2_with (fail)
        go_roundw
        case rel => exact ⟨k + 1, by omega, by go_num, HBz, HO⟩
        case measure => simp only [intOf]; omega
      · have HFF := Lib.hid hf
        go_wp2_with (at_builtin; refine wpList_append_lies _ rfl _ _ 91 rfl w2.heap.size 3 i1 (.int .i64 0) 1 8 Tryz.underlying91 hi1 hz1 hz2 hz3 rfl (by decide) (.slice As nn cs) nn _ rfl (HOz.out.alloc _) ⟨wz.heap.size, 0, none⟩ 1 1 [.int .i64 (k : Int)] rfl rfl (World.news_of_block (heap_alloc_new _ _)) (by simp [Value.oneCell']) (by decide) (by unfold maxLen; omega) (by omega) (by simp; omega) (wz.heap.size + 1) (by simp) ?_; intro g4 cap4 Z hown hgrow _ _; have HBZ := Lib.hid ((HBz.out.alloc HBz.out.size _).grown hgrow (by simp; omega) (fun k hk => (ownsRow_lt HOz.out hk).1)); have HOZ := Lib.hid hown; clear hown hgrow)
        have HO := Lib.hid (show Z.ownsRow w2.heap.size 3 1 (.slice (some ⟨g4, 0, none⟩) (nn + 1) cap4) (nats ((List.range (k + 1)).filter (fun h => domAt s h 1 == n))).length (ints (nats ((List.range (k + 1)).filter (fun h => domAt s h 1 == n)))) by
          rw [range_filter, show (domAt s k 1 == n) = true by rw [HXX.out]; exact HFF.out]
          simp only [if_true]
          rw [show nats (((List.range k).filter (fun h => domAt s h 1 == n)) ++ [k]) = (nats ((List.range k).filter (fun h => domAt s h 1 == n))) ++ [(k : Int)] by simp [nats], List.length_append, List.length_singleton, ← HNN.out, ints_snoc]
          exact HOZ.out)
        go_roundw
        case rel => exact ⟨k + 1, by omega, by go_num, HBZ, HO⟩
        case measure => simp only [intOf]; omega
    · obtain rfl : k = s.hosts.length := by omega
      go_wp2_with (fail)
      go_ret
      exact ⟨_, rfl, own_mono ho.out (Nat.le_trans HB0.out.size K2.out.size), below_join HB0.out (below_join K2.out hB.out K2.out.size) HB0.out.size⟩
set_option maxHeartbeats 16000000 in
theorem c_mem2 (p : SP) (s : SiteD) (hok : siteOk s = true) (n : Int) (hix : ixB n (s.racks.length : Int) = true) (w : World) (h : SiAt w p s) :
    Calls Tryz.prog 141 #[siV p s, .int .u8 2, .int .i64 n] w fun e w' => ∃ v, e = .returned v ∧ w'.ownsRow w.heap.size 3 1 v (nats ((List.range s.hosts.length).filter (fun h => domAt s h 2 == n))).length (ints (nats ((List.range s.hosts.length).filter (fun h => domAt s h 2 == n)))) ∧ Below w.heap.size w w' := by
  have hsok := siteOk_iff.1 hok
  have hnh := hsok.nhosts
  have HV := Lib.hid (fun (X : World) (hX : SiAt X p s) => c_doms2 p s hok X hX)
  have HSOK := Lib.hid hsok
  have HIX := Lib.hid hix
  unfold siV at HV
  clear hok hsok hix
  unfold siV
  obtain ⟨W, hW⟩ : ∃ W, W = w.alloc (.cells #[.slice p.a1 s.feeds.length p.c1, .slice p.a2 s.brks.length p.c2, .slice p.a3 s.loops.length p.c3, .slice p.a4 s.racks.length p.c4, .int .i64 s.sw, .slice p.a5 s.links.length p.c5, .slice p.a6 s.hosts.length p.c6] 29) := ⟨_, rfl⟩
  have B0 : Below w.heap.size w W := by subst hW; exact (Below.refl _ _).alloc (Nat.le_refl _) _
  have HB0 := Lib.hid B0
  have HX := Lib.hid (show SiBox W w.heap.size p s by subst hW; exact siBox_new _ _ _)
  have HA := Lib.hid (h.on B0 (Nat.le_refl _))
  have HF := Lib.hid (fun (X : World) (hX : Below W.heap.size W X) => (let z := HX.out.on hX (Nat.le_refl _); ⟨z.c0, z.c1, z.c2, z.c3, z.c4, z.c5, z.c6⟩ : X.cell? ⟨w.heap.size, 0, none⟩ = some (.slice p.a1 s.feeds.length p.c1) ∧ X.cell? ⟨w.heap.size, 1, none⟩ = some (.slice p.a2 s.brks.length p.c2) ∧ X.cell? ⟨w.heap.size, 2, none⟩ = some (.slice p.a3 s.loops.length p.c3) ∧ X.cell? ⟨w.heap.size, 3, none⟩ = some (.slice p.a4 s.racks.length p.c4) ∧ X.cell? ⟨w.heap.size, 4, none⟩ = some (.int .i64 s.sw) ∧ X.cell? ⟨w.heap.size, 5, none⟩ = some (.slice p.a5 s.links.length p.c5) ∧ X.cell? ⟨w.heap.size, 6, none⟩ = some (.slice p.a6 s.hosts.length p.c6)))
  have m1 := h.feeds.1; have m2 := h.brks.1; have m3 := h.loops.1; have m4 := h.racks.1; have m5 := h.links.1; have m6 := h.hosts.1
  have n1 := h.feeds.2.1; have n2 := h.brks.2.1; have n3 := h.loops.2.1; have n4 := h.racks.2.1; have n5 := h.links.2.1; have n6 := h.hosts.2.1
  unfold maxLen at n1 n2 n3 n4 n5 n6
  have KW := Lib.hid (Below.refl W.heap.size W)
  have hlw : w.heap.size < W.heap.size := HX.out.lt
  clear B0 h
  obtain ⟨f0, f1, f2, f3, f4, f5, f6⟩ := HF.out W KW.out
  rw [hW] at f0 f1 f2 f3 f4 f5 f6
  go_enter Tryz.func141, Tryz.ntmps141
  go_wp2_with (fail)
  rw [← hW]
  clear hW f0 f1 f2 f3 f4 f5 f6
  go_at_call 127
  refine (HV.out W HA.out).mono ?_
  rintro e w1 ⟨bs, bt, rfl, hb1, ha1, hr1, b1⟩
  have K1 := Lib.hid b1
  have HB1 := Lib.hid hb1
  have HA1 := Lib.hid ha1
  have HR1 := Lib.hid hr1
  clear b1 hb1 ha1 hr1
  go_wp2_with (fail)
  go_at_call 77
  refine (c_isIndex n (s.racks.length : Int) true HIX.out w1).mono ?_
  rintro e w2 ⟨rfl, b2⟩
  have K2 := Lib.hid (below_join K1.out b2 K1.out.size)
  have KK := Lib.hid b2
  clear b2
  have HB2 := Lib.hid (HB1.out.on KK.out (Nat.le_refl _))
  have HA2 := Lib.hid (HA1.out.on KK.out (Nat.le_refl _))
  have HR2 := Lib.hid (HR1.out.on KK.out (Nat.le_refl _))
  have HC := Lib.hid (fun (k : Nat) (hk : k < s.hosts.length) (X : World) (hb : SiBox X bs p s) (ha : SiAt X p s) (hr : RkBox X bt bs) (hsok : SiteOk s) => (show Calls Tryz.prog 153 #[.int .i64 (k : Int), .pointer (some ⟨bs, 0, none⟩)] X fun e w' => e = .returned (.int .i64 (rackAt s k)) ∧ Below X.heap.size X w' from c_dom3 bs p s k hk X hb ha))
  obtain ⟨i1, hi1, hz1, hz2, hz3⟩ := info_parts int_info
  obtain ⟨f0, f1, f2, f3, f4, f5, f6⟩ := HF.out w2 K2.out
  go_wp2_with (fail)
  clear f0 f1 f2 f3 f4 f5 f6
  go_loopw [9, 24] (fun v i wr => ∃ k : Nat, k ≤ s.hosts.length ∧ i = .int .i64 (k : Int) ∧ Hid (Below w2.heap.size w2 wr) ∧ Hid (wr.ownsRow w2.heap.size 3 1 v (nats ((List.range k).filter (fun h => domAt s h 2 == n))).length (ints (nats ((List.range k).filter (fun h => domAt s h 2 == n)))))) (fun _ i _ => s.hosts.length - (intOf i).toNat)
  case atStart => exact ⟨0, Nat.zero_le _, rfl, Lib.hid (Below.refl _ _), Lib.hid (World.ownsRow_nil _ _ _ _)⟩
  case round =>
    obtain ⟨k, hk, rfl, hB, ho⟩ := hrel
    have hki : ((k : Nat) : Int).toNat = k := by omega
    by_cases hlt : k < s.hosts.length
    · have hkl : (k : Int) < (s.hosts.length : Int) := by omega
      have hln : (nats ((List.range k).filter (fun h => domAt s h 2 == n))).length ≤ 16 := by rw [nats_len]; exact Nat.le_trans (List.length_filter_le _ _) (by rw [List.length_range]; omega)
      obtain ⟨nn, hnn⟩ : ∃ m, m = (nats ((List.range k).filter (fun h => domAt s h 2 == n))).length := ⟨_, rfl⟩
      obtain ⟨x, hx⟩ : ∃ x, x = (rackAt s k) := ⟨_, rfl⟩
      rw [← hnn] at ho hln
      have HNN := Lib.hid hnn
      have HXX := Lib.hid (show domAt s k 2 = x from hx.symm)
      have HC1 := Lib.hid (show Calls Tryz.prog 153 #[.int .i64 (k : Int), .pointer (some ⟨bs, 0, none⟩)] wr fun e w' => e = .returned (.int .i64 x) ∧ Below wr.heap.size wr w' from (HC.out k hlt wr (HB2.out.on hB.out (Nat.le_refl _)) (HA2.out.on hB.out (Nat.le_refl _)) (HR2.out.on hB.out (Nat.le_refl _)) HSOK.out).mono (fun e w' h => ⟨by rw [hx]; exact h.1, h.2⟩))
      obtain ⟨As, cs, rfl⟩ := own_shape ho.out
      have hz3' := hB.out.size
      clear hnn hx
      go_wp2_with (fail)
      go_at_call 153
      refine HC1.out.mono ?_
      rintro e wz ⟨rfl, bz⟩
      have HBz := Lib.hid (below_join hB.out bz hB.out.size)
      have HOz := Lib.hid (own_on ho.out bz (Nat.le_refl _))
      have hz4 := bz.size
      clear bz
      rcases hf : (x == n) with _ | _
      · have HO := Lib.hid (show wz.ownsRow w2.heap.size 3 1 (.slice As nn cs) (nats ((List.range (k + 1)).filter (fun h => domAt s h 2 == n))).length (ints (nats ((List.range (k + 1)).filter (fun h => domAt s h 2 == n)))) by
          rw [range_filter, show (domAt s k 2 == n) = false by rw [HXX.out]; exact hf]
          simp only [Bool.false_eq_true, if_false, List.append_nil]
          rw [← HNN.out]; exact HOz.out)
        go_wp2_with (fail)
        go_roundw
        case rel => exact ⟨k + 1, by omega, by go_num, HBz, HO⟩
        case measure => simp only [intOf]; omega
      · have HFF := Lib.hid hf
        go_wp2_with (at_builtin; refine wpList_append_lies _ rfl _ _ 91 rfl w2.heap.size 3 i1 (.int .i64 0) 1 8 Tryz.underlying91 hi1 hz1 hz2 hz3 rfl (by decide) (.slice As nn cs) nn _ rfl (HOz.out.alloc _) ⟨wz.heap.size, 0, none⟩ 1 1 [.int .i64 (k : Int)] rfl rfl (World.news_of_block (heap_alloc_new _ _)) (by simp [Value.oneCell']) (by decide) (by unfold maxLen; omega) (by omega) (by simp; omega) (wz.heap.size + 1) (by simp) ?_; intro g4 cap4 Z hown hgrow _ _; have HBZ := Lib.hid ((HBz.out.alloc HBz.out.size _).grown hgrow (by simp; omega) (fun k hk => (ownsRow_lt HOz.out hk).1)); have HOZ := Lib.hid hown; clear hown hgrow)
        have HO := Lib.hid (show Z.ownsRow w2.heap.size 3 1 (.slice (some ⟨g4, 0, none⟩) (nn + 1) cap4) (nats ((List.range (k + 1)).filter (fun h => domAt s h 2 == n))).length (ints (nats ((List.range (k + 1)).filter (fun h => domAt s h 2 == n)))) by
          rw [range_filter, show (domAt s k 2 == n) = true by rw [HXX.out]; exact HFF.out]
          simp only [if_true]
          rw [show nats (((List.range k).filter (fun h => domAt s h 2 == n)) ++ [k]) = (nats ((List.range k).filter (fun h => domAt s h 2 == n))) ++ [(k : Int)] by simp [nats], List.length_append, List.length_singleton, ← HNN.out, ints_snoc]
          exact HOZ.out)
        go_roundw
        case rel => exact ⟨k + 1, by omega, by go_num, HBZ, HO⟩
        case measure => simp only [intOf]; omega
    · obtain rfl : k = s.hosts.length := by omega
      go_wp2_with (fail)
      go_ret
      exact ⟨_, rfl, own_mono ho.out (Nat.le_trans HB0.out.size K2.out.size), below_join HB0.out (below_join K2.out hB.out K2.out.size) HB0.out.size⟩
set_option maxHeartbeats 16000000 in
theorem c_mem3 (p : SP) (s : SiteD) (hok : siteOk s = true) (n : Int) (hix : ixB n 4 = true) (w : World) (h : SiAt w p s) :
    Calls Tryz.prog 141 #[siV p s, .int .u8 3, .int .i64 n] w fun e w' => ∃ v, e = .returned v ∧ w'.ownsRow w.heap.size 3 1 v (nats ((List.range s.hosts.length).filter (fun h => domAt s h 3 == n))).length (ints (nats ((List.range s.hosts.length).filter (fun h => domAt s h 3 == n)))) ∧ Below w.heap.size w w' := by
  have hsok := siteOk_iff.1 hok
  have hnh := hsok.nhosts
  have HV := Lib.hid (fun (X : World) (hX : SiAt X p s) => c_doms3 p s hok X hX)
  have HSOK := Lib.hid hsok
  have HIX := Lib.hid hix
  unfold siV at HV
  clear hok hsok hix
  unfold siV
  obtain ⟨W, hW⟩ : ∃ W, W = w.alloc (.cells #[.slice p.a1 s.feeds.length p.c1, .slice p.a2 s.brks.length p.c2, .slice p.a3 s.loops.length p.c3, .slice p.a4 s.racks.length p.c4, .int .i64 s.sw, .slice p.a5 s.links.length p.c5, .slice p.a6 s.hosts.length p.c6] 29) := ⟨_, rfl⟩
  have B0 : Below w.heap.size w W := by subst hW; exact (Below.refl _ _).alloc (Nat.le_refl _) _
  have HB0 := Lib.hid B0
  have HX := Lib.hid (show SiBox W w.heap.size p s by subst hW; exact siBox_new _ _ _)
  have HA := Lib.hid (h.on B0 (Nat.le_refl _))
  have HF := Lib.hid (fun (X : World) (hX : Below W.heap.size W X) => (let z := HX.out.on hX (Nat.le_refl _); ⟨z.c0, z.c1, z.c2, z.c3, z.c4, z.c5, z.c6⟩ : X.cell? ⟨w.heap.size, 0, none⟩ = some (.slice p.a1 s.feeds.length p.c1) ∧ X.cell? ⟨w.heap.size, 1, none⟩ = some (.slice p.a2 s.brks.length p.c2) ∧ X.cell? ⟨w.heap.size, 2, none⟩ = some (.slice p.a3 s.loops.length p.c3) ∧ X.cell? ⟨w.heap.size, 3, none⟩ = some (.slice p.a4 s.racks.length p.c4) ∧ X.cell? ⟨w.heap.size, 4, none⟩ = some (.int .i64 s.sw) ∧ X.cell? ⟨w.heap.size, 5, none⟩ = some (.slice p.a5 s.links.length p.c5) ∧ X.cell? ⟨w.heap.size, 6, none⟩ = some (.slice p.a6 s.hosts.length p.c6)))
  have m1 := h.feeds.1; have m2 := h.brks.1; have m3 := h.loops.1; have m4 := h.racks.1; have m5 := h.links.1; have m6 := h.hosts.1
  have n1 := h.feeds.2.1; have n2 := h.brks.2.1; have n3 := h.loops.2.1; have n4 := h.racks.2.1; have n5 := h.links.2.1; have n6 := h.hosts.2.1
  unfold maxLen at n1 n2 n3 n4 n5 n6
  have KW := Lib.hid (Below.refl W.heap.size W)
  have hlw : w.heap.size < W.heap.size := HX.out.lt
  clear B0 h
  obtain ⟨f0, f1, f2, f3, f4, f5, f6⟩ := HF.out W KW.out
  rw [hW] at f0 f1 f2 f3 f4 f5 f6
  go_enter Tryz.func141, Tryz.ntmps141
  go_wp2_with (fail)
  rw [← hW]
  clear hW f0 f1 f2 f3 f4 f5 f6
  go_at_call 127
  refine (HV.out W HA.out).mono ?_
  rintro e w1 ⟨bs, bt, rfl, hb1, ha1, hr1, b1⟩
  have K1 := Lib.hid b1
  have HB1 := Lib.hid hb1
  have HA1 := Lib.hid ha1
  have HR1 := Lib.hid hr1
  clear b1 hb1 ha1 hr1
  go_wp2_with (fail)
  go_at_call 77
  refine (c_isIndex n 4 true HIX.out w1).mono ?_
  rintro e w2 ⟨rfl, b2⟩
  have K2 := Lib.hid (below_join K1.out b2 K1.out.size)
  have KK := Lib.hid b2
  clear b2
  have HB2 := Lib.hid (HB1.out.on KK.out (Nat.le_refl _))
  have HA2 := Lib.hid (HA1.out.on KK.out (Nat.le_refl _))
  have HR2 := Lib.hid (HR1.out.on KK.out (Nat.le_refl _))
  have HC := Lib.hid (fun (k : Nat) (hk : k < s.hosts.length) (X : World) (hb : SiBox X bs p s) (ha : SiAt X p s) (hr : RkBox X bt bs) (hsok : SiteOk s) => (show Calls Tryz.prog 154 #[.int .i64 (k : Int), .pointer (some ⟨bt, 0, none⟩)] X fun e w' => e = .returned (.int .i64 (rkAt s k).row) ∧ Below X.heap.size X w' from c_dom4 bs bt p s hsok k hk X hb ha hr))
  obtain ⟨i1, hi1, hz1, hz2, hz3⟩ := info_parts int_info
  obtain ⟨f0, f1, f2, f3, f4, f5, f6⟩ := HF.out w2 K2.out
  go_wp2_with (fail)
  clear f0 f1 f2 f3 f4 f5 f6
  go_loopw [9, 24] (fun v i wr => ∃ k : Nat, k ≤ s.hosts.length ∧ i = .int .i64 (k : Int) ∧ Hid (Below w2.heap.size w2 wr) ∧ Hid (wr.ownsRow w2.heap.size 3 1 v (nats ((List.range k).filter (fun h => domAt s h 3 == n))).length (ints (nats ((List.range k).filter (fun h => domAt s h 3 == n)))))) (fun _ i _ => s.hosts.length - (intOf i).toNat)
  case atStart => exact ⟨0, Nat.zero_le _, rfl, Lib.hid (Below.refl _ _), Lib.hid (World.ownsRow_nil _ _ _ _)⟩
  case round =>
    obtain ⟨k, hk, rfl, hB, ho⟩ := hrel
    have hki : ((k : Nat) : Int).toNat = k := by omega
    by_cases hlt : k < s.hosts.length
    · have hkl : (k : Int) < (s.hosts.length : Int) := by omega
      have hln : (nats ((List.range k).filter (fun h => domAt s h 3 == n))).length ≤ 16 := by rw [nats_len]; exact Nat.le_trans (List.length_filter_le _ _) (by rw [List.length_range]; omega)
      obtain ⟨nn, hnn⟩ : ∃ m, m = (nats ((List.range k).filter (fun h => domAt s h 3 == n))).length := ⟨_, rfl⟩
      obtain ⟨x, hx⟩ : ∃ x, x = (rkAt s k).row := ⟨_, rfl⟩
      rw [← hnn] at ho hln
      have HNN := Lib.hid hnn
      have HXX := Lib.hid (show domAt s k 3 = x from hx.symm)
      have HC1 := Lib.hid (show Calls Tryz.prog 154 #[.int .i64 (k : Int), .pointer (some ⟨bt, 0, none⟩)] wr fun e w' => e = .returned (.int .i64 x) ∧ Below wr.heap.size wr w' from (HC.out k hlt wr (HB2.out.on hB.out (Nat.le_refl _)) (HA2.out.on hB.out (Nat.le_refl _)) (HR2.out.on hB.out (Nat.le_refl _)) HSOK.out).mono (fun e w' h => ⟨by rw [hx]; exact h.1, h.2⟩))
      obtain ⟨As, cs, rfl⟩ := own_shape ho.out
      have hz3' := hB.out.size
      clear hnn hx
      go_wp2_with (fail)
      go_at_call 154
      refine HC1.out.mono ?_
      rintro e wz ⟨rfl, bz⟩
      have HBz := Lib.hid (below_join hB.out bz hB.out.size)
      have HOz := Lib.hid (own_on ho.out bz (Nat.le_refl _))
      have hz4 := bz.size
      clear bz
      rcases hf : (x == n) with _ | _
      · have HO := Lib.hid (show wz.ownsRow w2.heap.size 3 1 (.slice As nn cs) (nats ((List.range (k + 1)).filter (fun h => domAt s h 3 == n))).length (ints (nats ((List.range (k + 1)).filter (fun h => domAt s h 3 == n)))) by
          rw [range_filter, show (domAt s k 3 == n) = false by rw [HXX.out]; exact hf]
          simp only [Bool.false_eq_true, if_false, List.append_nil]
          rw [← HNN.out]; exact HOz.out)
        go_wp2_with (fail)
        go_roundw
        case rel => exact ⟨k + 1, by omega, by go_num, HBz, HO⟩
        case measure => simp only [intOf]; omega
      · have HFF := Lib.hid hf
        go_wp2_with (at_builtin; refine wpList_append_lies _ rfl _ _ 91 rfl w2.heap.size 3 i1 (.int .i64 0) 1 8 Tryz.underlying91 hi1 hz1 hz2 hz3 rfl (by decide) (.slice As nn cs) nn _ rfl (HOz.out.alloc _) ⟨wz.heap.size, 0, none⟩ 1 1 [.int .i64 (k : Int)] rfl rfl (World.news_of_block (heap_alloc_new _ _)) (by simp [Value.oneCell']) (by decide) (by unfold maxLen; omega) (by omega) (by simp; omega) (wz.heap.size + 1) (by simp) ?_; intro g4 cap4 Z hown hgrow _ _; have HBZ := Lib.hid ((HBz.out.alloc HBz.out.size _).grown hgrow (by simp; omega) (fun k hk => (ownsRow_lt HOz.out hk).1)); have HOZ := Lib.hid hown; clear hown hgrow)
        have HO := Lib.hid (show Z.ownsRow w2.heap.size 3 1 (.slice (some ⟨g4, 0, none⟩) (nn + 1) cap4) (nats ((List.range (k + 1)).filter (fun h => domAt s h 3 == n))).length (ints (nats ((List.range (k + 1)).filter (fun h => domAt s h 3 == n)))) by
          rw [range_filter, show (domAt s k 3 == n) = true by rw [HXX.out]; exact HFF.out]
          simp only [if_true]
          rw [show nats (((List.range k).filter (fun h => domAt s h 3 == n)) ++ [k]) = (nats ((List.range k).filter (fun h => domAt s h 3 == n))) ++ [(k : Int)] by simp [nats], List.length_append, List.length_singleton, ← HNN.out, ints_snoc]
          exact HOZ.out)
        go_roundw
        case rel => exact ⟨k + 1, by omega, by go_num, HBZ, HO⟩
        case measure => simp only [intOf]; omega
    · obtain rfl : k = s.hosts.length := by omega
      go_wp2_with (fail)
      go_ret
      exact ⟨_, rfl, own_mono ho.out (Nat.le_trans HB0.out.size K2.out.size), below_join HB0.out (below_join K2.out hB.out K2.out.size) HB0.out.size⟩
set_option maxHeartbeats 16000000 in
theorem c_mem4 (p : SP) (s : SiteD) (hok : siteOk s = true) (n : Int) (hix : ixB n (s.feeds.length : Int) = true) (w : World) (h : SiAt w p s) :
    Calls Tryz.prog 141 #[siV p s, .int .u8 4, .int .i64 n] w fun e w' => ∃ v, e = .returned v ∧ w'.ownsRow w.heap.size 3 1 v (nats ((List.range s.hosts.length).filter (fun h => domAt s h 4 == n))).length (ints (nats ((List.range s.hosts.length).filter (fun h => domAt s h 4 == n)))) ∧ Below w.heap.size w w' := by
  have hsok := siteOk_iff.1 hok
  have hnh := hsok.nhosts
  have HV := Lib.hid (fun (X : World) (hX : SiAt X p s) => c_doms4 p s hok X hX)
  have HSOK := Lib.hid hsok
  have HIX := Lib.hid hix
  unfold siV at HV
  clear hok hsok hix
  unfold siV
  obtain ⟨W, hW⟩ : ∃ W, W = w.alloc (.cells #[.slice p.a1 s.feeds.length p.c1, .slice p.a2 s.brks.length p.c2, .slice p.a3 s.loops.length p.c3, .slice p.a4 s.racks.length p.c4, .int .i64 s.sw, .slice p.a5 s.links.length p.c5, .slice p.a6 s.hosts.length p.c6] 29) := ⟨_, rfl⟩
  have B0 : Below w.heap.size w W := by subst hW; exact (Below.refl _ _).alloc (Nat.le_refl _) _
  have HB0 := Lib.hid B0
  have HX := Lib.hid (show SiBox W w.heap.size p s by subst hW; exact siBox_new _ _ _)
  have HA := Lib.hid (h.on B0 (Nat.le_refl _))
  have HF := Lib.hid (fun (X : World) (hX : Below W.heap.size W X) => (let z := HX.out.on hX (Nat.le_refl _); ⟨z.c0, z.c1, z.c2, z.c3, z.c4, z.c5, z.c6⟩ : X.cell? ⟨w.heap.size, 0, none⟩ = some (.slice p.a1 s.feeds.length p.c1) ∧ X.cell? ⟨w.heap.size, 1, none⟩ = some (.slice p.a2 s.brks.length p.c2) ∧ X.cell? ⟨w.heap.size, 2, none⟩ = some (.slice p.a3 s.loops.length p.c3) ∧ X.cell? ⟨w.heap.size, 3, none⟩ = some (.slice p.a4 s.racks.length p.c4) ∧ X.cell? ⟨w.heap.size, 4, none⟩ = some (.int .i64 s.sw) ∧ X.cell? ⟨w.heap.size, 5, none⟩ = some (.slice p.a5 s.links.length p.c5) ∧ X.cell? ⟨w.heap.size, 6, none⟩ = some (.slice p.a6 s.hosts.length p.c6)))
  have m1 := h.feeds.1; have m2 := h.brks.1; have m3 := h.loops.1; have m4 := h.racks.1; have m5 := h.links.1; have m6 := h.hosts.1
  have n1 := h.feeds.2.1; have n2 := h.brks.2.1; have n3 := h.loops.2.1; have n4 := h.racks.2.1; have n5 := h.links.2.1; have n6 := h.hosts.2.1
  unfold maxLen at n1 n2 n3 n4 n5 n6
  have KW := Lib.hid (Below.refl W.heap.size W)
  have hlw : w.heap.size < W.heap.size := HX.out.lt
  clear B0 h
  obtain ⟨f0, f1, f2, f3, f4, f5, f6⟩ := HF.out W KW.out
  rw [hW] at f0 f1 f2 f3 f4 f5 f6
  go_enter Tryz.func141, Tryz.ntmps141
  go_wp2_with (fail)
  rw [← hW]
  clear hW f0 f1 f2 f3 f4 f5 f6
  go_at_call 127
  refine (HV.out W HA.out).mono ?_
  rintro e w1 ⟨bs, bt, rfl, hb1, ha1, hr1, b1⟩
  have K1 := Lib.hid b1
  have HB1 := Lib.hid hb1
  have HA1 := Lib.hid ha1
  have HR1 := Lib.hid hr1
  clear b1 hb1 ha1 hr1
  go_wp2_with (fail)
  go_at_call 77
  refine (c_isIndex n (s.feeds.length : Int) true HIX.out w1).mono ?_
  rintro e w2 ⟨rfl, b2⟩
  have K2 := Lib.hid (below_join K1.out b2 K1.out.size)
  have KK := Lib.hid b2
  clear b2
  have HB2 := Lib.hid (HB1.out.on KK.out (Nat.le_refl _))
  have HA2 := Lib.hid (HA1.out.on KK.out (Nat.le_refl _))
  have HR2 := Lib.hid (HR1.out.on KK.out (Nat.le_refl _))
  have HC := Lib.hid (fun (k : Nat) (hk : k < s.hosts.length) (X : World) (hb : SiBox X bs p s) (ha : SiAt X p s) (hr : RkBox X bt bs) (hsok : SiteOk s) => (show Calls Tryz.prog 155 #[.int .i64 (k : Int), .pointer (some ⟨bs, 0, none⟩), .pointer (some ⟨bt, 0, none⟩)] X fun e w' => e = .returned (.int .i64 (feedAt s k)) ∧ Below X.heap.size X w' from c_dom5 bs bt p s hsok k hk X hb ha hr))
  obtain ⟨i1, hi1, hz1, hz2, hz3⟩ := info_parts int_info
  obtain ⟨f0, f1, f2, f3, f4, f5, f6⟩ := HF.out w2 K2.out
  go_wp2_with (fail)
  clear f0 f1 f2 f3 f4 f5 f6
  go_loopw [9, 24] (fun v i wr => ∃ k : Nat, k ≤ s.hosts.length ∧ i = .int .i64 (k : Int) ∧ Hid (Below w2.heap.size w2 wr) ∧ Hid (wr.ownsRow w2.heap.size 3 1 v (nats ((List.range k).filter (fun h => domAt s h 4 == n))).length (ints (nats ((List.range k).filter (fun h => domAt s h 4 == n)))))) (fun _ i _ => s.hosts.length - (intOf i).toNat)
  case atStart => exact ⟨0, Nat.zero_le _, rfl, Lib.hid (Below.refl _ _), Lib.hid (World.ownsRow_nil _ _ _ _)⟩
  case round =>
    obtain ⟨k, hk, rfl, hB, ho⟩ := hrel
    have hki : ((k : Nat) : Int).toNat = k := by omega
    by_cases hlt : k < s.hosts.length
    · have hkl : (k : Int) < (s.hosts.length : Int) := by omega
      have hln : (nats ((List.range k).filter (fun h => domAt s h 4 == n))).length ≤ 16 := by rw [nats_len]; exact Nat.le_trans (List.length_filter_le _ _) (by rw [List.length_range]; omega)
      obtain ⟨nn, hnn⟩ : ∃ m, m = (nats ((List.range k).filter (fun h => domAt s h 4 == n))).length := ⟨_, rfl⟩
      obtain ⟨x, hx⟩ : ∃ x, x = (feedAt s k) := ⟨_, rfl⟩
      rw [← hnn] at ho hln
      have HNN := Lib.hid hnn
      have HXX := Lib.hid (show domAt s k 4 = x from hx.symm)
      have HC1 := Lib.hid (show Calls Tryz.prog 155 #[.int .i64 (k : Int), .pointer (some ⟨bs, 0, none⟩), .pointer (some ⟨bt, 0, none⟩)] wr fun e w' => e = .returned (.int .i64 x) ∧ Below wr.heap.size wr w' from (HC.out k hlt wr (HB2.out.on hB.out (Nat.le_refl _)) (HA2.out.on hB.out (Nat.le_refl _)) (HR2.out.on hB.out (Nat.le_refl _)) HSOK.out).mono (fun e w' h => ⟨by rw [hx]; exact h.1, h.2⟩))
      obtain ⟨As, cs, rfl⟩ := own_shape ho.out
      have hz3' := hB.out.size
      clear hnn hx
      go_wp2_with (fail)
      go_at_call 155
      refine HC1.out.mono ?_
      rintro e wz ⟨rfl, bz⟩
      have HBz := Lib.hid (below_join hB.out bz hB.out.size)
      have HOz := Lib.hid (own_on ho.out bz (Nat.le_refl _))
      have hz4 := bz.size
      clear bz
      rcases hf : (x == n) with _ | _
      · have HO := Lib.hid (show wz.ownsRow w2.heap.size 3 1 (.slice As nn cs) (nats ((List.range (k + 1)).filter (fun h => domAt s h 4 == n))).length (ints (nats ((List.range (k + 1)).filter (fun h => domAt s h 4 == n)))) by
          rw [range_filter, show (domAt s k 4 == n) = false by rw [HXX.out]; exact hf]
          simp only [Bool.false_eq_true, if_false, List.append_nil]
          rw [← HNN.out]; exact HOz.out)
        go_wp2_with (fail)
        go_roundw
        case rel => exact ⟨k + 1, by omega, by go_num, HBz, HO⟩
        case measure => simp only [intOf]; omega
      · have HFF := Lib.hid hf
        go_wp2_with (at_builtin; refine wpList_append_lies _ rfl _ _ 91 rfl w2.heap.size 3 i1 (.int .i64 0) 1 8 Tryz.underlying91 hi1 hz1 hz2 hz3 rfl (by decide) (.slice As nn cs) nn _ rfl (HOz.out.alloc _) ⟨wz.heap.size, 0, none⟩ 1 1 [.int .i64 (k : Int)] rfl rfl (World.news_of_block (heap_alloc_new _ _)) (by simp [Value.oneCell']) (by decide) (by unfold maxLen; omega) (by omega) (by simp; omega) (wz.heap.size + 1) (by simp) ?_; intro g4 cap4 Z hown hgrow _ _; have HBZ := Lib.hid ((HBz.out.alloc HBz.out.size _).grown hgrow (by simp; omega) (fun k hk => (ownsRow_lt HOz.out hk).1)); have HOZ := Lib.hid hown; clear hown hgrow)
        have HO := Lib.hid (show Z.ownsRow w2.heap.size 3 1 (.slice (some ⟨g4, 0, none⟩) (nn + 1) cap4) (nats ((List.range (k + 1)).filter (fun h => domAt s h 4 == n))).length (ints (nats ((List.range (k + 1)).filter (fun h => domAt s h 4 == n)))) by
          rw [range_filter, show (domAt s k 4 == n) = true by rw [HXX.out]; exact HFF.out]
          simp only [if_true]
          rw [show nats (((List.range k).filter (fun h => domAt s h 4 == n)) ++ [k]) = (nats ((List.range k).filter (fun h => domAt s h 4 == n))) ++ [(k : Int)] by simp [nats], List.length_append, List.length_singleton, ← HNN.out, ints_snoc]
          exact HOZ.out)
        go_roundw
        case rel => exact ⟨k + 1, by omega, by go_num, HBZ, HO⟩
        case measure => simp only [intOf]; omega
    · obtain rfl : k = s.hosts.length := by omega
      go_wp2_with (fail)
      go_ret
      exact ⟨_, rfl, own_mono ho.out (Nat.le_trans HB0.out.size K2.out.size), below_join HB0.out (below_join K2.out hB.out K2.out.size) HB0.out.size⟩
set_option maxHeartbeats 16000000 in
theorem c_mem5 (p : SP) (s : SiteD) (hok : siteOk s = true) (n : Int) (hix : ixB n (s.loops.length : Int) = true) (w : World) (h : SiAt w p s) :
    Calls Tryz.prog 141 #[siV p s, .int .u8 5, .int .i64 n] w fun e w' => ∃ v, e = .returned v ∧ w'.ownsRow w.heap.size 3 1 v (nats ((List.range s.hosts.length).filter (fun h => domAt s h 5 == n))).length (ints (nats ((List.range s.hosts.length).filter (fun h => domAt s h 5 == n)))) ∧ Below w.heap.size w w' := by
  have hsok := siteOk_iff.1 hok
  have hnh := hsok.nhosts
  have HV := Lib.hid (fun (X : World) (hX : SiAt X p s) => c_doms5 p s hok X hX)
  have HSOK := Lib.hid hsok
  have HIX := Lib.hid hix
  unfold siV at HV
  clear hok hsok hix
  unfold siV
  obtain ⟨W, hW⟩ : ∃ W, W = w.alloc (.cells #[.slice p.a1 s.feeds.length p.c1, .slice p.a2 s.brks.length p.c2, .slice p.a3 s.loops.length p.c3, .slice p.a4 s.racks.length p.c4, .int .i64 s.sw, .slice p.a5 s.links.length p.c5, .slice p.a6 s.hosts.length p.c6] 29) := ⟨_, rfl⟩
  have B0 : Below w.heap.size w W := by subst hW; exact (Below.refl _ _).alloc (Nat.le_refl _) _
  have HB0 := Lib.hid B0
  have HX := Lib.hid (show SiBox W w.heap.size p s by subst hW; exact siBox_new _ _ _)
  have HA := Lib.hid (h.on B0 (Nat.le_refl _))
  have HF := Lib.hid (fun (X : World) (hX : Below W.heap.size W X) => (let z := HX.out.on hX (Nat.le_refl _); ⟨z.c0, z.c1, z.c2, z.c3, z.c4, z.c5, z.c6⟩ : X.cell? ⟨w.heap.size, 0, none⟩ = some (.slice p.a1 s.feeds.length p.c1) ∧ X.cell? ⟨w.heap.size, 1, none⟩ = some (.slice p.a2 s.brks.length p.c2) ∧ X.cell? ⟨w.heap.size, 2, none⟩ = some (.slice p.a3 s.loops.length p.c3) ∧ X.cell? ⟨w.heap.size, 3, none⟩ = some (.slice p.a4 s.racks.length p.c4) ∧ X.cell? ⟨w.heap.size, 4, none⟩ = some (.int .i64 s.sw) ∧ X.cell? ⟨w.heap.size, 5, none⟩ = some (.slice p.a5 s.links.length p.c5) ∧ X.cell? ⟨w.heap.size, 6, none⟩ = some (.slice p.a6 s.hosts.length p.c6)))
  have m1 := h.feeds.1; have m2 := h.brks.1; have m3 := h.loops.1; have m4 := h.racks.1; have m5 := h.links.1; have m6 := h.hosts.1
  have n1 := h.feeds.2.1; have n2 := h.brks.2.1; have n3 := h.loops.2.1; have n4 := h.racks.2.1; have n5 := h.links.2.1; have n6 := h.hosts.2.1
  unfold maxLen at n1 n2 n3 n4 n5 n6
  have KW := Lib.hid (Below.refl W.heap.size W)
  have hlw : w.heap.size < W.heap.size := HX.out.lt
  clear B0 h
  obtain ⟨f0, f1, f2, f3, f4, f5, f6⟩ := HF.out W KW.out
  rw [hW] at f0 f1 f2 f3 f4 f5 f6
  go_enter Tryz.func141, Tryz.ntmps141
  go_wp2_with (fail)
  rw [← hW]
  clear hW f0 f1 f2 f3 f4 f5 f6
  go_at_call 127
  refine (HV.out W HA.out).mono ?_
  rintro e w1 ⟨bs, bt, rfl, hb1, ha1, hr1, b1⟩
  have K1 := Lib.hid b1
  have HB1 := Lib.hid hb1
  have HA1 := Lib.hid ha1
  have HR1 := Lib.hid hr1
  clear b1 hb1 ha1 hr1
  go_wp2_with (fail)
  go_at_call 77
  refine (c_isIndex n (s.loops.length : Int) true HIX.out w1).mono ?_
  rintro e w2 ⟨rfl, b2⟩
  have K2 := Lib.hid (below_join K1.out b2 K1.out.size)
  have KK := Lib.hid b2
  clear b2
  have HB2 := Lib.hid (HB1.out.on KK.out (Nat.le_refl _))
  have HA2 := Lib.hid (HA1.out.on KK.out (Nat.le_refl _))
  have HR2 := Lib.hid (HR1.out.on KK.out (Nat.le_refl _))
  have HC := Lib.hid (fun (k : Nat) (hk : k < s.hosts.length) (X : World) (hb : SiBox X bs p s) (ha : SiAt X p s) (hr : RkBox X bt bs) (hsok : SiteOk s) => (show Calls Tryz.prog 156 #[.int .i64 (k : Int), .pointer (some ⟨bt, 0, none⟩)] X fun e w' => e = .returned (.int .i64 (rkAt s k).loop) ∧ Below X.heap.size X w' from c_dom6 bs bt p s hsok k hk X hb ha hr))
  obtain ⟨i1, hi1, hz1, hz2, hz3⟩ := info_parts int_info
  obtain ⟨f0, f1, f2, f3, f4, f5, f6⟩ := HF.out w2 K2.out
  go_wp2_with (fail)
  clear f0 f1 f2 f3 f4 f5 f6
  go_loopw [9, 24] (fun v i wr => ∃ k : Nat, k ≤ s.hosts.length ∧ i = .int .i64 (k : Int) ∧ Hid (Below w2.heap.size w2 wr) ∧ Hid (wr.ownsRow w2.heap.size 3 1 v (nats ((List.range k).filter (fun h => domAt s h 5 == n))).length (ints (nats ((List.range k).filter (fun h => domAt s h 5 == n)))))) (fun _ i _ => s.hosts.length - (intOf i).toNat)
  case atStart => exact ⟨0, Nat.zero_le _, rfl, Lib.hid (Below.refl _ _), Lib.hid (World.ownsRow_nil _ _ _ _)⟩
  case round =>
    obtain ⟨k, hk, rfl, hB, ho⟩ := hrel
    have hki : ((k : Nat) : Int).toNat = k := by omega
    by_cases hlt : k < s.hosts.length
    · have hkl : (k : Int) < (s.hosts.length : Int) := by omega
      have hln : (nats ((List.range k).filter (fun h => domAt s h 5 == n))).length ≤ 16 := by rw [nats_len]; exact Nat.le_trans (List.length_filter_le _ _) (by rw [List.length_range]; omega)
      obtain ⟨nn, hnn⟩ : ∃ m, m = (nats ((List.range k).filter (fun h => domAt s h 5 == n))).length := ⟨_, rfl⟩
      obtain ⟨x, hx⟩ : ∃ x, x = (rkAt s k).loop := ⟨_, rfl⟩
      rw [← hnn] at ho hln
      have HNN := Lib.hid hnn
      have HXX := Lib.hid (show domAt s k 5 = x from hx.symm)
      have HC1 := Lib.hid (show Calls Tryz.prog 156 #[.int .i64 (k : Int), .pointer (some ⟨bt, 0, none⟩)] wr fun e w' => e = .returned (.int .i64 x) ∧ Below wr.heap.size wr w' from (HC.out k hlt wr (HB2.out.on hB.out (Nat.le_refl _)) (HA2.out.on hB.out (Nat.le_refl _)) (HR2.out.on hB.out (Nat.le_refl _)) HSOK.out).mono (fun e w' h => ⟨by rw [hx]; exact h.1, h.2⟩))
      obtain ⟨As, cs, rfl⟩ := own_shape ho.out
      have hz3' := hB.out.size
      clear hnn hx
      go_wp2_with (fail)
      go_at_call 156
      refine HC1.out.mono ?_
      rintro e wz ⟨rfl, bz⟩
      have HBz := Lib.hid (below_join hB.out bz hB.out.size)
      have HOz := Lib.hid (own_on ho.out bz (Nat.le_refl _))
      have hz4 := bz.size
      clear bz
      rcases hf : (x == n) with _ | _
      · have HO := Lib.hid (show wz.ownsRow w2.heap.size 3 1 (.slice As nn cs) (nats ((List.range (k + 1)).filter (fun h => domAt s h 5 == n))).length (ints (nats ((List.range (k + 1)).filter (fun h => domAt s h 5 == n)))) by
          rw [range_filter, show (domAt s k 5 == n) = false by rw [HXX.out]; exact hf]
          simp only [Bool.false_eq_true, if_false, List.append_nil]
          rw [← HNN.out]; exact HOz.out)
        go_wp2_with (fail)
        go_roundw
        case rel => exact ⟨k + 1, by omega, by go_num, HBz, HO⟩
        case measure => simp only [intOf]; omega
      · have HFF := Lib.hid hf
        go_wp2_with (at_builtin; refine wpList_append_lies _ rfl _ _ 91 rfl w2.heap.size 3 i1 (.int .i64 0) 1 8 Tryz.underlying91 hi1 hz1 hz2 hz3 rfl (by decide) (.slice As nn cs) nn _ rfl (HOz.out.alloc _) ⟨wz.heap.size, 0, none⟩ 1 1 [.int .i64 (k : Int)] rfl rfl (World.news_of_block (heap_alloc_new _ _)) (by simp [Value.oneCell']) (by decide) (by unfold maxLen; omega) (by omega) (by simp; omega) (wz.heap.size + 1) (by simp) ?_; intro g4 cap4 Z hown hgrow _ _; have HBZ := Lib.hid ((HBz.out.alloc HBz.out.size _).grown hgrow (by simp; omega) (fun k hk => (ownsRow_lt HOz.out hk).1)); have HOZ := Lib.hid hown; clear hown hgrow)
        have HO := Lib.hid (show Z.ownsRow w2.heap.size 3 1 (.slice (some ⟨g4, 0, none⟩) (nn + 1) cap4) (nats ((List.range (k + 1)).filter (fun h => domAt s h 5 == n))).length (ints (nats ((List.range (k + 1)).filter (fun h => domAt s h 5 == n)))) by
          rw [range_filter, show (domAt s k 5 == n) = true by rw [HXX.out]; exact HFF.out]
          simp only [if_true]
          rw [show nats (((List.range k).filter (fun h => domAt s h 5 == n)) ++ [k]) = (nats ((List.range k).filter (fun h => domAt s h 5 == n))) ++ [(k : Int)] by simp [nats], List.length_append, List.length_singleton, ← HNN.out, ints_snoc]
          exact HOZ.out)
        go_roundw
        case rel => exact ⟨k + 1, by omega, by go_num, HBZ, HO⟩
        case measure => simp only [intOf]; omega
    · obtain rfl : k = s.hosts.length := by omega
      go_wp2_with (fail)
      go_ret
      exact ⟨_, rfl, own_mono ho.out (Nat.le_trans HB0.out.size K2.out.size), below_join HB0.out (below_join K2.out hB.out K2.out.size) HB0.out.size⟩
theorem c_Members (p : SP) (s : SiteD) (d : Nat) (hd : d < 256) (n : Int) (w : World) (h : SiAt w p s) :
    Calls Tryz.prog 141 #[siV p s, .int .u8 (d : Int), .int .i64 n] w fun e w' => ∃ v, e = .returned v ∧ w'.ownsRow w.heap.size 3 1 v (memD s d n).length (ints (memD s d n)) ∧ Below w.heap.size w w' := by
  rcases hix : ixB n (cntD s d) with _ | _
  · exact c_memNeg p s d n w h (fun X hX => c_doms p s d hd X hX) hix
  · have hm : memD s d n = nats ((List.range s.hosts.length).filter (fun h => domAt s h d == n)) := by unfold memD; rw [hix]; rfl
    rw [hm]
    rcases hok : siteOk s with _ | _
    · exfalso
      have := ixB_iff.1 hix
      unfold cntD at this
      rw [hok] at this
      simp at this
      omega
    · have hc : cntD s d = cntOf s d := by unfold cntD; rw [hok]; rfl
      rw [hc] at hix
      by_cases hno : 1 ≤ d ∧ d ≤ 5
      · rcases (by omega : d = 1 ∨ d = 2 ∨ d = 3 ∨ d = 4 ∨ d = 5) with rfl | rfl | rfl | rfl | rfl
        · exact c_mem1 p s hok n hix w h
        · exact c_mem2 p s hok n hix w h
        · exact c_mem3 p s hok n hix w h
        · exact c_mem4 p s hok n hix w h
        · exact c_mem5 p s hok n hix w h
      · exfalso
        have h0 : cntOf s d = 0 := by unfold cntOf; split <;> first | rfl | (exfalso; omega)
        rw [h0] at hix
        have := ixB_iff.1 hix
        omega
end Go.Proofs.YtbbadnlaelgmlaaGreat

namespace Go.Proofs.YtbbadnlaelgmlaaGreat
open Go.RowKit
set_option maxRecDepth 100000
set_option linter.unusedVariables false
set_option linter.unusedSimpArgs false

def wtV (z : Sn) (r0 : Bool) (x : Int) : Int := pwV z r0 (isHost x)
def heatV (z : Sn) (r0 : Bool) (k : Int) : Int := pwV z r0 (isLoop z.s k)
def hotS (z : Sn) (r0 : Bool) (k : Int) (j : Nat) : Int := (((memD z.s 5 k).take j).map (wtV z r0)).sum
theorem wtV_bd {z : Sn} {r0 : Bool} (hr0 : r0 = true ↔ z.Ok) (x : Int) : 0 ≤ wtV z r0 x ∧ wtV z r0 x ≤ 24160000 := by
  unfold wtV pwV
  cases r0
  · simp
  · rw [if_pos rfl]; exact load_bd (hr0.1 rfl) _
theorem hot_step {z : Sn} {r0 : Bool} {k x : Int} {j : Nat} (h : (memD z.s 5 k)[j]? = some x) : hotS z r0 k (j + 1) = hotS z r0 k j + wtV z r0 x := by
  unfold hotS
  rw [List.take_add_one, h]
  simp
theorem hot_false {z : Sn} {k : Int} (j : Nat) : hotS z false k j = 0 := by
  unfold hotS
  induction ((memD z.s 5 k).take j) with
  | nil => rfl
  | cons a l ih => rw [List.map_cons, List.sum_cons, ih]; rfl
theorem hot_is {z : Sn} {r0 : Bool} (hr0 : r0 = true ↔ z.Ok) (k : Int) : hotS z r0 k (memD z.s 5 k).length = heatV z r0 k := by
  cases r0
  · rw [hot_false]; rfl
  · unfold hotS
    rw [List.take_length]
    exact heat_mem (hr0.1 rfl) k
theorem sum_le16 {f : Int → Int} (hf : ∀ x, 0 ≤ f x ∧ f x ≤ 24160000) : ∀ l : List Int, 0 ≤ (l.map f).sum ∧ (l.map f).sum ≤ 24160000 * (l.length : Int) := by
  intro l
  induction l with
  | nil => simp
  | cons a l ih =>
    have := hf a
    rw [List.map_cons, List.sum_cons, List.length_cons]
    omega
theorem hot_bd {z : Sn} {r0 : Bool} (hr0 : r0 = true ↔ z.Ok) (k : Int) (j : Nat) : 0 ≤ hotS z r0 k j ∧ hotS z r0 k j ≤ 400000000 := by
  cases r0
  · rw [hot_false]; omega
  · have h := sum_le16 (wtV_bd hr0) ((memD z.s 5 k).take j)
    have h1 := mem_len z.s 5 k
    have h2 := (siteOk_iff.1 (hr0.1 rfl).1).nhosts
    have h3 : ((memD z.s 5 k).take j).length ≤ (memD z.s 5 k).length := by rw [List.length_take]; omega
    unfold hotS
    omega
theorem SnBx.but {w w' : World} {z : Sn} {b g : Nat} (h : SnBx w b z) (k : v6.But g w w') (h0 : b ≠ g) (h1 : b + 1 ≠ g) (h2 : b + 1 + 1 ≠ g) : SnBx w' b z := ⟨k.same _ _ h0 h.b1, k.same _ _ h1 h.b2, k.same _ _ h2 h.b3⟩
set_option maxHeartbeats 8000000 in
theorem c_heat1 (z : Sn) (r0 : Bool) (hr0 : r0 = true ↔ z.Ok) (g b : Nat) (x S : Int) (w : World) (hz : SnAt w z) (hx : SnBx w b z) (hg : w.heap[g]? = some (.cells #[.int .i64 S] 3 (0, 0))) (v : Int) (hv : pwV z r0 (isHost x) = v) (S2 : Int) (hS2 : IntKind.i64.wrap (S + v) = S2) :
    Calls Tryz.prog 139 #[.int .i64 x, .pointer (some ⟨g, 0, none⟩), .pointer (some ⟨b, 0, none⟩), .pointer (some ⟨b + 1, 0, none⟩), .pointer (some ⟨b + 1 + 1, 0, none⟩)] w fun e w' => e = .returned (.tuple #[]) ∧ v6.But g w w' ∧ w'.heap[g]? = some (.cells #[.int .i64 S2] 3 (0, 0)) := by
  have HC := Lib.hid (fun (X : World) (hX : SnAt X z) => c_pwWatts z r0 hr0 x X hX v hv)
  have HSS := Lib.hid (fun (X : World) (h : Below w.heap.size w X) => (by
    obtain ⟨f0, f1, f2, f3, f4, f5, f6, g0, g1, g2⟩ := (hx.on h (Nat.le_refl _)).cells
    exact ⟨f0, f1, f2, f3, f4, f5, f6, g0, g1, g2, cell_of (box_on hg h (Nat.le_refl _)) rfl⟩ : (fun (X : World) => X.cell? ⟨b, 0, none⟩ = some (.slice z.p.a1 z.s.feeds.length z.p.c1) ∧ X.cell? ⟨b, 1, none⟩ = some (.slice z.p.a2 z.s.brks.length z.p.c2) ∧ X.cell? ⟨b, 2, none⟩ = some (.slice z.p.a3 z.s.loops.length z.p.c3) ∧ X.cell? ⟨b, 3, none⟩ = some (.slice z.p.a4 z.s.racks.length z.p.c4) ∧ X.cell? ⟨b, 4, none⟩ = some (.int .i64 z.s.sw) ∧ X.cell? ⟨b, 5, none⟩ = some (.slice z.p.a5 z.s.links.length z.p.c5) ∧ X.cell? ⟨b, 6, none⟩ = some (.slice z.p.a6 z.s.hosts.length z.p.c6) ∧ X.cell? ⟨b + 1, 0, none⟩ = some (.slice z.A z.xs.length z.c) ∧ X.cell? ⟨b + 1 + 1, 0, none⟩ = some (.slice z.q.a1 z.d.hosts.length z.q.c1) ∧ X.cell? ⟨b + 1 + 1, 1, none⟩ = some (.slice z.q.a2 z.d.reps.length z.q.c2) ∧ X.cell? ⟨g, 0, none⟩ = some (.int .i64 S)) X))
  have HZ := Lib.hid (fun (X : World) (h : Below w.heap.size w X) => hz.on h (Nat.le_refl _))
  have HG := Lib.hid (fun (X : World) (h : Below w.heap.size w X) => box_on hg h (Nat.le_refl _))
  have HS2 := Lib.hid hS2
  have HKw := Lib.hid (Below.refl w.heap.size w)
  have hfm : Tryz.prog.follows Departure.mixedOrders = true := by kernel_rfl
  obtain ⟨n1, n2, n3, n4, n5, n6, n7, n8⟩ := hz.bounds
  clear hz hx hg hS2 hv hr0
  go_enter Tryz.func139, Tryz.ntmps139
  go_wp2_with (fail)
  refine v5.region_z 7 hfm (S := fun (X : World) => X.cell? ⟨b, 0, none⟩ = some (.slice z.p.a1 z.s.feeds.length z.p.c1) ∧ X.cell? ⟨b, 1, none⟩ = some (.slice z.p.a2 z.s.brks.length z.p.c2) ∧ X.cell? ⟨b, 2, none⟩ = some (.slice z.p.a3 z.s.loops.length z.p.c3) ∧ X.cell? ⟨b, 3, none⟩ = some (.slice z.p.a4 z.s.racks.length z.p.c4) ∧ X.cell? ⟨b, 4, none⟩ = some (.int .i64 z.s.sw) ∧ X.cell? ⟨b, 5, none⟩ = some (.slice z.p.a5 z.s.links.length z.p.c5) ∧ X.cell? ⟨b, 6, none⟩ = some (.slice z.p.a6 z.s.hosts.length z.p.c6) ∧ X.cell? ⟨b + 1, 0, none⟩ = some (.slice z.A z.xs.length z.c) ∧ X.cell? ⟨b + 1 + 1, 0, none⟩ = some (.slice z.q.a1 z.d.hosts.length z.q.c1) ∧ X.cell? ⟨b + 1 + 1, 1, none⟩ = some (.slice z.q.a2 z.d.reps.length z.q.c2) ∧ X.cell? ⟨g, 0, none⟩ = some (.int .i64 S)) (HSS.out w.drew HKw.out.drew) (fun hHeld => ?_)
  refine v5.takeZ 0 (some 6) (by kernel_rfl) rfl rfl (by kernel_rfl) (by kernel_rfl) (by kernel_rfl) (fun _ _ _ h => h) (by rfl) (by intro w ⟨g0, g1, g2, g3, g4, g5, g6, g7, g8, g9, g10⟩; go_simp; try with_reducible rfl) hHeld ?_
  simp only [Act.put, List.setIfInBounds_toArray, List.set_cons_zero, List.set_cons_succ]
  refine v5.takeZ 1 (some 7) (by kernel_rfl) rfl rfl (by kernel_rfl) (by kernel_rfl) (by kernel_rfl) (fun _ _ _ h => h) (by rfl) (by intro w ⟨g0, g1, g2, g3, g4, g5, g6, g7, g8, g9, g10⟩; go_simp; try with_reducible rfl) hHeld ?_
  simp only [Act.put, List.setIfInBounds_toArray, List.set_cons_zero, List.set_cons_succ]
  refine v5.takeZ 2 (some 8) (by kernel_rfl) rfl rfl (by kernel_rfl) (by kernel_rfl) (by kernel_rfl) (fun _ _ _ h => h) (by rfl) (by intro w ⟨g0, g1, g2, g3, g4, g5, g6, g7, g8, g9, g10⟩; go_simp; try with_reducible rfl) hHeld ?_
  simp only [Act.put, List.setIfInBounds_toArray, List.set_cons_zero, List.set_cons_succ]
  refine v5.takeZ 3 (some 9) (by kernel_rfl) rfl rfl (by kernel_rfl) (by kernel_rfl) (by kernel_rfl) (fun _ _ _ h => h) (by rfl) (by intro w ⟨g0, g1, g2, g3, g4, g5, g6, g7, g8, g9, g10⟩; go_simp; try with_reducible rfl) hHeld ?_
  simp only [Act.put, List.setIfInBounds_toArray, List.set_cons_zero, List.set_cons_succ]
  refine v5.takeZ 4 (some 10) (by kernel_rfl) rfl rfl (by kernel_rfl) (by kernel_rfl) (by kernel_rfl) (fun _ _ _ h => h) (by rfl) (by intro w ⟨g0, g1, g2, g3, g4, g5, g6, g7, g8, g9, g10⟩; go_simp; try with_reducible rfl) hHeld ?_
  simp only [Act.put, List.setIfInBounds_toArray, List.set_cons_zero, List.set_cons_succ]
  refine v5.oneZ 5 rfl (by kernel_rfl) (fun K hK => ?_)
  go_simp
  go_at_call 140
  refine (HC.out w.drew (HZ.out w.drew HKw.out.drew)).mono ?_
  rintro e v2 ⟨rfl, bb0⟩
  have bb := below_join (Below.refl w.heap.size w).drew bb0 (Nat.le_refl _)
  have HK2 := Lib.hid bb
  clear hHeld bb bb0
  have hHeld := HSS.out v2 HK2.out
  refine hK.out _ _ (.inr hHeld) ?_
  clear hK K
  try simp only [Act.put, List.setIfInBounds_toArray, List.set_cons_zero, List.set_cons_succ]
  refine v5.takeZ 6 (some 12) (by kernel_rfl) rfl rfl (by kernel_rfl) (by kernel_rfl) (by kernel_rfl) (fun _ _ _ h => h) (by rfl) (by intro w ⟨g0, g1, g2, g3, g4, g5, g6, g7, g8, g9, g10⟩; go_simp; try with_reducible rfl) hHeld ?_
  simp only [Act.put, List.setIfInBounds_toArray, List.set_cons_zero, List.set_cons_succ]
  rw [HS2.out]
  have fg : v2.cell? ⟨g, 0, none⟩ = some (.int .i64 S) := cell_of (HG.out v2 HK2.out) rfl
  have fz : v2.frozen? ⟨g, 0, none⟩ = false := frz (HG.out v2 HK2.out) 0
  clear hHeld
  refine v5.oneZ 7 rfl (by kernel_rfl) (fun K hK => ?_)
  go_simp
  refine hK.out _ _ (.inl rfl) ?_
  clear hK K
  refine v5.doneZ (by kernel_rfl) ?_ _
  go_wp2_with (fail)
  go_end0
  exact ⟨rfl, (v6.But.of_below HK2.out (Nat.le_refl _)).trans (v6.But.store _ _), set_field (HG.out v2 HK2.out) _⟩
end Go.Proofs.YtbbadnlaelgmlaaGreat
