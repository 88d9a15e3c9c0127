/-
  The law PowerCarries (written by gen/power_H.py).
-/
import Derived.Test.YtidpiokkfnhobaaGreatHA
set_option linter.unusedVariables false
set_option linter.unusedSimpArgs false
namespace Go.Proofs.YtidpiokkfnhobaaGreat
open Go.RowKit
set_option maxRecDepth 100000
set_option linter.unusedVariables false
set_option linter.unusedSimpArgs false

def KO (z : Sn) (k : Nat) : Prop := ∀ f, f < k → (∀ b, b < z.s.brks.length → bkF z.s b = (f : Int) → ldB z.s z.ss z.d b ≤ bkL z.s b) ∧ ldF z.s z.ss z.d f ≤ fdL z.s f
def KI (z : Sn) (k j : Nat) : Prop := KO z k ∧ ∀ b, b < j → bkF z.s b = (k : Int) → ldB z.s z.ss z.d b ≤ bkL z.s b
theorem KO_zero (z : Sn) : KO z 0 := fun f hf => absurd hf (by omega)
theorem KI_zero {z : Sn} {k : Nat} : KI z k 0 ↔ KO z k := ⟨fun h => h.1, fun h => ⟨h, fun b hb => absurd hb (by omega)⟩⟩
theorem KI_no {z : Sn} {k j : Nat} (h : bkF z.s j ≠ (k : Int)) : KI z k (j + 1) ↔ KI z k j := by
  constructor
  · exact fun g => ⟨g.1, fun b hb => g.2 b (by omega)⟩
  · refine fun g => ⟨g.1, fun b hb e => ?_⟩
    rcases Nat.lt_or_ge b j with h1 | h1
    · exact g.2 b h1 e
    · obtain rfl : b = j := by omega
      exact absurd e h
theorem KI_yes {z : Sn} {k j : Nat} (h : bkF z.s j = (k : Int)) : KI z k (j + 1) ↔ KI z k j ∧ ldB z.s z.ss z.d j ≤ bkL z.s j := by
  constructor
  · exact fun g => ⟨⟨g.1, fun b hb => g.2 b (by omega)⟩, g.2 j (by omega) h⟩
  · refine fun g => ⟨g.1.1, fun b hb e => ?_⟩
    rcases Nat.lt_or_ge b j with h1 | h1
    · exact g.1.2 b h1 e
    · obtain rfl : b = j := by omega
      exact g.2
theorem KO_succ {z : Sn} {k : Nat} : KO z (k + 1) ↔ KI z k z.s.brks.length ∧ ldF z.s z.ss z.d k ≤ fdL z.s k := by
  constructor
  · exact fun g => ⟨⟨fun f hf => g f (by omega), fun b hb e => (g k (by omega)).1 b hb e⟩, (g k (by omega)).2⟩
  · refine fun g f hf => ?_
    rcases Nat.lt_or_ge f k with h1 | h1
    · exact g.1.1 f h1
    · obtain rfl : f = k := by omega
      exact ⟨fun b hb e => g.1.2 b hb e, g.2⟩
theorem KO_all {z : Sn} (ok : z.Ok) : KO z z.s.feeds.length ↔ KeptP z.s z.ss z.d := by
  constructor
  · refine fun g => ⟨fun b hb => ?_, fun f hf => (g f hf).2⟩
    have h := (brk_at ok hb).1
    exact (g (bkF z.s b).toNat (by have : nF z.s = z.s.feeds.length := rfl; omega)).1 b hb (by omega)
  · exact fun g f hf => ⟨fun b hb _ => g.1 b hb, g.2 f hf⟩
def pS (z : Sn) (f j : Nat) : Int := sumN (fun b => if bkF z.s b = (f : Int) then min (ldB z.s z.ss z.d b) (bkL z.s b) else 0) j
def cS (z : Sn) (k : Nat) : Int := sumN (fun f => min (pS z f z.s.brks.length) (fdL z.s f)) k
def wS (z : Sn) (k : Nat) : Int := sumN (fun h => watN z.s z.ss z.d h) k
theorem pS_bd {z : Sn} (ok : z.Ok) (f : Nat) {j : Nat} (hj : j ≤ z.s.brks.length) : 0 ≤ pS z f j ∧ pS z f j ≤ 1000000 * j := by
  unfold pS
  refine sumN_bound fun i hi => ?_
  have h1 := brk_at ok (show i < nB z.s from Nat.lt_of_lt_of_le hi hj)
  have h2 := load_bd ok (isBrk z.s (i : Int))
  unfold ldB
  split <;> omega
theorem cS_bd {z : Sn} (ok : z.Ok) {k : Nat} (hk : k ≤ z.s.feeds.length) : 0 ≤ cS z k ∧ cS z k ≤ 1000000 * k := by
  unfold cS
  refine sumN_bound fun i hi => ?_
  have h1 := fdL_at ok (show i < nF z.s from Nat.lt_of_lt_of_le hi hk)
  have h2 := pS_bd ok i (Nat.le_refl z.s.brks.length)
  omega
theorem wS_bd {z : Sn} (ok : z.Ok) {k : Nat} (hk : k ≤ z.s.hosts.length) : 0 ≤ wS z k ∧ wS z k ≤ 24010000 * k := by
  unfold wS
  refine sumN_bound fun i hi => ?_
  have := wat_bd ok (h := i) (by omega)
  omega
theorem pS_no {z : Sn} {f j : Nat} (h : bkF z.s j ≠ (f : Int)) : pS z f (j + 1) = pS z f j := by unfold pS; rw [sumN, if_neg h]; omega
theorem pS_yes {z : Sn} {f j : Nat} (h : bkF z.s j = (f : Int)) : pS z f (j + 1) = pS z f j + min (ldB z.s z.ss z.d j) (bkL z.s j) := by unfold pS; rw [sumN, if_pos h]
theorem car_is {z : Sn} : carV z true = cS z z.s.feeds.length := rfl
theorem all_is {z : Sn} (ok : z.Ok) : cS z z.s.feeds.length = wS z z.s.hosts.length ↔ KO z z.s.feeds.length := (carry_all ok).trans (KO_all ok).symm
theorem wat_is {z : Sn} {k : Nat} (hk : k < z.s.hosts.length) : pwV z true (isHost (k : Int)) = watN z.s z.ss z.d k := by
  show loadN z.s z.ss z.d _ = _
  rw [load_host, if_pos (by omega), Int.toNat_natCast]
set_option maxHeartbeats 32000000 in
theorem w_PowerCarries (z : Sn) (w : World) (hz : SnAt w z) :
    Calls Tryz.prog 5 #[.agg #[.slice z.p.a1 z.s.feeds.length z.p.c1, .slice z.p.a2 z.s.brks.length z.p.c2, .slice z.p.a3 z.s.loops.length z.p.c3, .slice z.p.a4 z.s.racks.length z.p.c4, .int .i64 z.s.sw, .slice z.p.a5 z.s.links.length z.p.c5, .slice z.p.a6 z.s.hosts.length z.p.c6], .agg #[.slice z.A z.xs.length z.c], .agg #[.slice z.q.a1 z.d.hosts.length z.q.c1, .slice z.q.a2 z.d.reps.length z.q.c2]] w fun e w' => e = .returned (.bool true) ∧ Below w.heap.size w w' := by
  have HLV := Lib.hid (fun (X : World) => c_live X)
  obtain ⟨W1, h1⟩ : ∃ W, W = w.alloc (.cells #[.slice z.p.a1 z.s.feeds.length z.p.c1, .slice z.p.a2 z.s.brks.length z.p.c2, .slice z.p.a3 z.s.loops.length z.p.c3, .slice z.p.a4 z.s.racks.length z.p.c4, .int .i64 z.s.sw, .slice z.p.a5 z.s.links.length z.p.c5, .slice z.p.a6 z.s.hosts.length z.p.c6] 29) := ⟨_, rfl⟩
  obtain ⟨W2, h2⟩ : ∃ W, W = W1.alloc (.cells #[.slice z.A z.xs.length z.c] 32) := ⟨_, rfl⟩
  obtain ⟨W, h3⟩ : ∃ W, W = W2.alloc (.cells #[.slice z.q.a1 z.d.hosts.length z.q.c1, .slice z.q.a2 z.d.reps.length z.q.c2] 36) := ⟨_, rfl⟩
  obtain ⟨B0, X1⟩ := sn_boxes h1 h2 h3
  have z3 : W.heap.size = w.heap.size + 1 + 1 + 1 := sn_size h1 h2 h3
  have HB := Lib.hid B0
  have Z0 := hz.on B0 (Nat.le_refl _)
  have HZ := Lib.hid (fun (X : World) (hX : Below W.heap.size W X) => Z0.on hX (Nat.le_refl _))
  have HF := Lib.hid (fun (X : World) (hX : Below W.heap.size W X) => ((X1.on hX (Nat.le_refl _)).cells : X.cell? ⟨w.heap.size, 0, none⟩ = some (.slice z.p.a1 z.s.feeds.length z.p.c1) ∧ X.cell? ⟨w.heap.size, 1, none⟩ = some (.slice z.p.a2 z.s.brks.length z.p.c2) ∧ X.cell? ⟨w.heap.size, 2, none⟩ = some (.slice z.p.a3 z.s.loops.length z.p.c3) ∧ X.cell? ⟨w.heap.size, 3, none⟩ = some (.slice z.p.a4 z.s.racks.length z.p.c4) ∧ X.cell? ⟨w.heap.size, 4, none⟩ = some (.int .i64 z.s.sw) ∧ X.cell? ⟨w.heap.size, 5, none⟩ = some (.slice z.p.a5 z.s.links.length z.p.c5) ∧ X.cell? ⟨w.heap.size, 6, none⟩ = some (.slice z.p.a6 z.s.hosts.length z.p.c6) ∧ X.cell? ⟨w.heap.size + 1, 0, none⟩ = some (.slice z.A z.xs.length z.c) ∧ X.cell? ⟨w.heap.size + 1 + 1, 0, none⟩ = some (.slice z.q.a1 z.d.hosts.length z.q.c1) ∧ X.cell? ⟨w.heap.size + 1 + 1, 1, none⟩ = some (.slice z.q.a2 z.d.reps.length z.q.c2)))
  have HX := Lib.hid (fun (X : World) (hX : Below W.heap.size W X) => X1.on hX (Nat.le_refl _))
  have HKW := Lib.hid (Below.refl W.heap.size W)
  have hle := HB.out.size
  obtain ⟨n1, n2, n3, n4, n5, n6, n7, n8⟩ := hz.bounds
  clear hz B0 X1 z3 Z0
  obtain ⟨f0, f1, f2, f3, f4, f5, f6, g0, g1, g2⟩ := HF.out W HKW.out
  rw [h3, h2, h1] at f0 f1 f2 f3 f4 f5 f6 g0 g1 g2
  generalize hBB : w.heap.size = B at *
  go_enter Tryz.func5, Tryz.ntmps5
  go_wp2_with (fail)
  rw [← h1, ← h2, ← h3]
  clear h1 h2 h3 f0 f1 f2 f3 f4 f5 f6 g0 g1 g2
  obtain ⟨r, hr⟩ := bool_of (FewZ z)
  have HR := Lib.hid hr
  obtain ⟨r0, hr0⟩ := bool_of z.Ok
  have HR0 := Lib.hid hr0
  clear hr hr0
  go_at_call 8
  refine (c_fewZ z r HR.out W (HZ.out W HKW.out)).mono ?_
  rintro e v1 ⟨rfl, bb⟩
  have HKv1 := Lib.hid (below_join HKW.out bb HKW.out.size)
  clear bb
  cases r
  · skip
    go_wp2_with (fail)
    go_at_call 9
    refine (HLV.out v1).mono ?_
    rintro e v102 ⟨rfl, bb⟩
    have HKv102 := Lib.hid (below_join HKv1.out bb HKv1.out.size)
    clear bb
    go_wp2_with (fail)
    go_ret
    exact ⟨rfl, below_join HB.out HKv102.out hle⟩
  obtain ⟨f0, f1, f2, f3, f4, f5, f6, g0, g1, g2⟩ := HF.out v1 HKv1.out
  go_wp2_with (fail)
  clear f0 f1 f2 f3 f4 f5 f6 g0 g1 g2
  go_at_call 25
  refine (c_wvTo z r0 HR0.out v1 (HZ.out v1 HKv1.out)).mono ?_
  rintro e v153 ⟨rfl, bb⟩
  have HKv153 := Lib.hid (below_join HKv1.out bb HKv1.out.size)
  clear bb
  cases r0
  · skip
    go_wp2_with (fail)
    go_at_call 9
    refine (HLV.out v153).mono ?_
    rintro e v254 ⟨rfl, bb⟩
    have HKv254 := Lib.hid (below_join HKv153.out bb HKv153.out.size)
    clear bb
    go_wp2_with (fail)
    go_ret
    exact ⟨rfl, below_join HB.out HKv254.out hle⟩
  have HOK := Lib.hid (HR0.out.1 (by trivial))
  obtain ⟨⟨k1, k2⟩, ⟨k3, k4⟩, ⟨k5, k6⟩⟩ : (1 ≤ z.s.feeds.length ∧ z.s.feeds.length ≤ 4) ∧ (1 ≤ z.s.brks.length ∧ z.s.brks.length ≤ 8) ∧ (1 ≤ z.s.hosts.length ∧ z.s.hosts.length ≤ 16) := by
    have h := siteOk_iff.1 HOK.out.1
    exact ⟨h.nfeeds, h.nbrks, h.nhosts⟩
  go_wp2_with (fail)
  go_loopw [7, 9, 10] (fun sm kp i wr => ∃ (k : Nat) (q : Bool), k ≤ z.s.feeds.length ∧ sm = .int .i64 (cS z k) ∧ kp = .bool q ∧ i = .int .i64 (k : Int) ∧ Hid (q = true ↔ KO z k) ∧ Hid (Below W.heap.size W wr)) (fun _ _ i _ => z.s.feeds.length - (intOf i).toNat)
  case atStart => exact ⟨0, true, Nat.zero_le _, rfl, rfl, rfl, Lib.hid ⟨fun _ => KO_zero z, fun _ => rfl⟩, HKv153⟩
  case round =>
    obtain ⟨k, q, hk, rfl, rfl, rfl, hq, HKwr⟩ := hrel
    have hki : ((k : Nat) : Int).toNat = k := by omega
    obtain ⟨CS, hCS⟩ : ∃ t, cS z k = t := ⟨_, rfl⟩
    have HCS := Lib.hid hCS
    have bCS := cS_bd HOK.out hk
    rw [hCS] at bCS ⊢
    clear hCS
    obtain ⟨f0, f1, f2, f3, f4, f5, f6, g0, g1, g2⟩ := HF.out wr HKwr.out
    by_cases hlt : k < z.s.feeds.length
    · obtain ⟨fx, hfx⟩ : ∃ x, z.s.feeds[k]? = some x := ⟨_, List.getElem?_eq_getElem hlt⟩
      have HFX := Lib.hid hfx
      obtain ⟨pf, pfo, ef, hpf, xf⟩ := fd_at (HZ.out W HKW.out) hfx
      have HXF := Lib.hid (fun (X : World) (h : Below W.heap.size W X) => ((h.cell (p := ⟨pf, pfo + k, none⟩) hpf).trans xf : X.cell? ⟨pf, pfo + k, none⟩ = some (.int .i64 fx)))
      have HEF := Lib.hid ef
      have hfb := fdL_at HOK.out (show k < nF z.s from hlt)
      have hfl : fdL z.s k = fx := by unfold fdL; rw [hfx]; rfl
      have HFL := Lib.hid hfl
      rw [hfl] at hfb
      have hki2 : (k : Int) < (z.s.feeds.length : Int) := by omega
      clear hfx xf ef hfl
      have HQ0 := Lib.hid (show q = true ↔ KI z k 0 from hq.out.trans KI_zero.symm)
      clear hq
      go_wp2_with (fail)
      clear f0 f1 f2 f3 f4 f5 f6 g0 g1 g2
      obtain ⟨wA, hwA⟩ : ∃ X, X = wr := ⟨_, rfl⟩
      subst hwA
      have HKA := HKwr
      go_loopw [9, 11, 12] (fun kp pt j wr => ∃ (m : Nat) (q : Bool), m ≤ z.s.brks.length ∧ pt = .int .i64 (pS z k m) ∧ kp = .bool q ∧ j = .int .i64 (m : Int) ∧ Hid (q = true ↔ KI z k m) ∧ Hid (Below W.heap.size W wr)) (fun _ _ j _ => z.s.brks.length - (intOf j).toNat)
      case atStart => exact ⟨0, q, Nat.zero_le _, rfl, rfl, rfl, HQ0, HKA⟩
      case round =>
        obtain ⟨m, q2, hm, rfl, rfl, rfl, hq2, HKwr⟩ := hrel
        have hmi : ((m : Nat) : Int).toNat = m := by omega
        obtain ⟨PS, hPS⟩ : ∃ t, pS z k m = t := ⟨_, rfl⟩
        have HPS := Lib.hid hPS
        have bPS := pS_bd HOK.out k hm
        rw [hPS] at bPS ⊢
        clear hPS
        obtain ⟨f0, f1, f2, f3, f4, f5, f6, g0, g1, g2⟩ := HF.out wr HKwr.out
        by_cases hlt2 : m < z.s.brks.length
        · obtain ⟨x, hx⟩ : ∃ x, z.s.brks[m]? = some x := ⟨_, List.getElem?_eq_getElem hlt2⟩
          have HXX := Lib.hid hx
          obtain ⟨pb, po, e1, hpb, x0, x1, -, -⟩ := bk_at (HZ.out W HKW.out) hx
          have HX1 := Lib.hid (fun (X : World) (h : Below W.heap.size W X) => (⟨(h.cell (p := ⟨pb, po + m * 4, none⟩) hpb).trans x0, (h.cell (p := ⟨pb, po + m * 4 + 1, none⟩) hpb).trans x1⟩ : X.cell? ⟨pb, po + m * 4, none⟩ = some (.int .i64 x.feed) ∧ X.cell? ⟨pb, po + m * 4 + 1, none⟩ = some (.int .i64 x.limit)))
          have HE1 := Lib.hid e1
          have hmi2 : (m : Int) < (z.s.brks.length : Int) := by omega
          have hbx := brk_at HOK.out (show m < nB z.s from hlt2)
          have hbf : bkF z.s m = x.feed := by unfold bkF; rw [hx]; rfl
          have hbl : bkL z.s m = x.limit := by unfold bkL; rw [hx]; rfl
          have HBF := Lib.hid hbf
          have HBL := Lib.hid hbl
          rw [hbf, hbl] at hbx
          rw [e1] at f1
          obtain ⟨x0, x1⟩ := HX1.out wr HKwr.out
          clear hx e1 hbf hbl
          rcases hp : (x.feed == (k : Int)) with _ | _
          · have hpn : bkF z.s m ≠ (k : Int) := by rw [HBF.out]; exact fun e => by rw [e] at hp; simp at hp
            have HPN := Lib.hid (pS_no (z := z) hpn)
            have HKN := Lib.hid (hq2.out.trans (KI_no hpn).symm)
            clear hpn
            go_wp2_with (fail)
            go_roundw
            case rel => exact ⟨m + 1, q2, by omega, by rw [HPN.out, HPS.out], rfl, by go_num, HKN, HKwr⟩
            case measure => simp only [intOf]; omega
          · have hpy : bkF z.s m = (k : Int) := by rw [HBF.out]; exact eq_of_beq hp
            obtain ⟨ld, hld⟩ : ∃ t, ldB z.s z.ss z.d m = t := ⟨_, rfl⟩
            have HLD := Lib.hid (show pwV z true (isBrk z.s (m : Int)) = ld from hld)
            have bld : 0 ≤ ld := by rw [← hld]; exact (load_bd HOK.out (isBrk z.s (m : Int))).1
            obtain ⟨mn, hmn⟩ : ∃ t, min ld x.limit = t := ⟨_, rfl⟩
            have bmn : 0 ≤ mn ∧ mn ≤ 1000000 := by omega
            have HPY := Lib.hid (show pS z k (m + 1) = PS + mn by rw [pS_yes hpy, HPS.out, hld, HBL.out, hmn])
            have HKY := Lib.hid (show KI z k (m + 1) ↔ KI z k m ∧ ld ≤ x.limit by rw [KI_yes hpy, hld, HBL.out])
            have HCO := Lib.hid (fun (X : World) (h : Below W.heap.size W X) => c_pwOfBreaker z true (okT HOK.out) (m : Int) X (HZ.out X h) ld HLD.out)
            rw [HE1.out] at HCO
            clear hpy hld
            go_wp2_with (fail)
            go_at_call 14
            refine (HCO.out wr HKwr.out).mono ?_
            rintro e v2 ⟨rfl, bb⟩
            have HKv2 := Lib.hid (below_join HKwr.out bb HKwr.out.size)
            clear bb x0 x1 f0 f1 f2 f3 f4 f5 f6 g0 g1 g2
            obtain ⟨f0, f1, f2, f3, f4, f5, f6, g0, g1, g2⟩ := HF.out v2 HKv2.out
            obtain ⟨x0, x1⟩ := HX1.out v2 HKv2.out
            rw [HE1.out] at f1
            cases q2
            · have HKN := Lib.hid (show false = true ↔ KI z k (m + 1) from ⟨fun h => (by cases h), fun h => hq2.out.2 (HKY.out.1 h).1⟩)
              go_wp2_with (fail)
              go_roundw
              case rel => exact ⟨m + 1, false, by omega, by rw [HPY.out], rfl, by go_num, HKN, HKv2⟩
              case measure => simp only [intOf]; omega
            · obtain ⟨q3, hq3⟩ : ∃ q3, decide (ld ≤ x.limit) = q3 := ⟨_, rfl⟩
              have HQ3 := Lib.hid hq3
              have HKN := Lib.hid (show q3 = true ↔ KI z k (m + 1) by
                rw [HKY.out, ← HQ3.out, decide_eq_true_iff]
                exact ⟨fun h => ⟨hq2.out.1 (by trivial), h⟩, fun h => h.2⟩)
              go_wp2_with (fail)
              go_roundw
              case rel => exact ⟨m + 1, q3, by omega, by rw [HPY.out], (by first | rfl | rw [HQ3.out] | simp), by go_num, HKN, HKv2⟩
              case measure => simp only [intOf]; omega
        · obtain rfl : m = z.s.brks.length := by omega
          obtain ⟨ld, hld⟩ : ∃ t, ldF z.s z.ss z.d k = t := ⟨_, rfl⟩
          have HLD := Lib.hid (show pwV z true (isFeed z.s (k : Int)) = ld from hld)
          obtain ⟨mn, hmn⟩ : ∃ t, min PS fx = t := ⟨_, rfl⟩
          have bmn : 0 ≤ mn ∧ mn ≤ 1000000 := by omega
          have HCY := Lib.hid (show cS z (k + 1) = CS + mn by unfold cS; rw [sumN]; show cS z k + min (pS z k z.s.brks.length) (fdL z.s k) = _; rw [HCS.out, HPS.out, HFL.out, hmn])
          have HOY := Lib.hid (show KO z (k + 1) ↔ KI z k z.s.brks.length ∧ ld ≤ fx by rw [KO_succ, hld, HFL.out])
          have HCF := Lib.hid (fun (X : World) (h : Below W.heap.size W X) => c_pwOfFeed z true (okT HOK.out) (k : Int) X (HZ.out X h) ld HLD.out)
          rw [HEF.out] at HCF
          have HFF := Lib.hid (fun (X : World) (h : Below W.heap.size W X) => (by rw [← HEF.out]; exact ⟨HF.out X h, HXF.out X h⟩ : (X.cell? ⟨B, 0, none⟩ = some (.slice (some ⟨pf, pfo, none⟩) z.s.feeds.length z.p.c1) ∧ X.cell? ⟨B, 1, none⟩ = some (.slice z.p.a2 z.s.brks.length z.p.c2) ∧ X.cell? ⟨B, 2, none⟩ = some (.slice z.p.a3 z.s.loops.length z.p.c3) ∧ X.cell? ⟨B, 3, none⟩ = some (.slice z.p.a4 z.s.racks.length z.p.c4) ∧ X.cell? ⟨B, 4, none⟩ = some (.int .i64 z.s.sw) ∧ X.cell? ⟨B, 5, none⟩ = some (.slice z.p.a5 z.s.links.length z.p.c5) ∧ X.cell? ⟨B, 6, none⟩ = some (.slice z.p.a6 z.s.hosts.length z.p.c6) ∧ X.cell? ⟨B + 1, 0, none⟩ = some (.slice z.A z.xs.length z.c) ∧ X.cell? ⟨B + 1 + 1, 0, none⟩ = some (.slice z.q.a1 z.d.hosts.length z.q.c1) ∧ X.cell? ⟨B + 1 + 1, 1, none⟩ = some (.slice z.q.a2 z.d.reps.length z.q.c2)) ∧ X.cell? ⟨pf, pfo + k, none⟩ = some (.int .i64 fx)))
          clear hld f0 f1 f2 f3 f4 f5 f6 g0 g1 g2
          obtain ⟨⟨f0, f1, f2, f3, f4, f5, f6, g0, g1, g2⟩, xf⟩ := HFF.out wr HKwr.out
          cases q2
          · have HKN := Lib.hid (show false = true ↔ KO z (k + 1) from ⟨fun h => (by cases h), fun h => hq2.out.2 (HOY.out.1 h).1⟩)
            go_wp2_with (fail)
            go_region
            go_wp2_with (fail)
            go_roundw
            case rel => exact ⟨k + 1, false, by omega, by rw [HCY.out], rfl, by go_num, HKN, Lib.hid (below_drewN HKwr.out)⟩
            case measure => simp only [intOf]; omega
          · obtain ⟨q3, hq3⟩ : ∃ q3, decide (ld ≤ fx) = q3 := ⟨_, rfl⟩
            have HQ3 := Lib.hid hq3
            have HKN := Lib.hid (show q3 = true ↔ KO z (k + 1) by
              rw [HOY.out, ← HQ3.out, decide_eq_true_iff]
              exact ⟨fun h => ⟨hq2.out.1 (by trivial), h⟩, fun h => h.2⟩)
            go_wp2_with (fail)
            go_region_held3 (fun X => (X.cell? ⟨B, 0, none⟩ = some (.slice (some ⟨pf, pfo, none⟩) z.s.feeds.length z.p.c1) ∧ X.cell? ⟨B, 1, none⟩ = some (.slice z.p.a2 z.s.brks.length z.p.c2) ∧ X.cell? ⟨B, 2, none⟩ = some (.slice z.p.a3 z.s.loops.length z.p.c3) ∧ X.cell? ⟨B, 3, none⟩ = some (.slice z.p.a4 z.s.racks.length z.p.c4) ∧ X.cell? ⟨B, 4, none⟩ = some (.int .i64 z.s.sw) ∧ X.cell? ⟨B, 5, none⟩ = some (.slice z.p.a5 z.s.links.length z.p.c5) ∧ X.cell? ⟨B, 6, none⟩ = some (.slice z.p.a6 z.s.hosts.length z.p.c6) ∧ X.cell? ⟨B + 1, 0, none⟩ = some (.slice z.A z.xs.length z.c) ∧ X.cell? ⟨B + 1 + 1, 0, none⟩ = some (.slice z.q.a1 z.d.hosts.length z.q.c1) ∧ X.cell? ⟨B + 1 + 1, 1, none⟩ = some (.slice z.q.a2 z.d.reps.length z.q.c2)) ∧ X.cell? ⟨pf, pfo + k, none⟩ = some (.int .i64 fx))
              (first | exact HFF.out v901 HKv901.out | exact HFF.out wr HKwr.out | fail)
              (first
                | (go_at_call 16; (with_reducible refine (HCF.out wr.drew HKwr.out.drew).mono ?_); rintro e v901 ⟨rfl, bb0⟩; have bb := below_join (Below.refl wr.heap.size wr).drew bb0 (Nat.le_refl _); have HKv901 := Lib.hid (below_join HKwr.out bb HKwr.out.size); clear bb bb0)
                | fail)
            go_wp2_with (fail)
            go_roundw
            case rel => exact ⟨k + 1, q3, by omega, by rw [HCY.out], (by first | rfl | rw [HQ3.out] | simp), by go_num, HKN, HKv901⟩
            case measure => simp only [intOf]; omega
    · obtain rfl : k = z.s.feeds.length := by omega
      go_wp2_with (fail)
      clear f0 f1 f2 f3 f4 f5 f6 g0 g1 g2
      obtain ⟨wA, hwA⟩ : ∃ X, X = wr := ⟨_, rfl⟩
      subst hwA
      have HKA := HKwr
      go_loopw [8, 14] (fun sm i wr => ∃ m : Nat, m ≤ z.s.hosts.length ∧ sm = .int .i64 (wS z m) ∧ i = .int .i64 (m : Int) ∧ Hid (Below W.heap.size W wr)) (fun _ i _ => z.s.hosts.length - (intOf i).toNat)
      case atStart => exact ⟨0, Nat.zero_le _, rfl, rfl, HKA⟩
      case round =>
        obtain ⟨m, hm, rfl, rfl, HKwr⟩ := hrel
        have hmi : ((m : Nat) : Int).toNat = m := by omega
        obtain ⟨WS, hWS⟩ : ∃ t, wS z m = t := ⟨_, rfl⟩
        have HWS := Lib.hid hWS
        have bWS := wS_bd HOK.out hm
        rw [hWS] at bWS ⊢
        clear hWS
        obtain ⟨f0, f1, f2, f3, f4, f5, f6, g0, g1, g2⟩ := HF.out wr HKwr.out
        by_cases hlt2 : m < z.s.hosts.length
        · have hmi2 : (m : Int) < (z.s.hosts.length : Int) := by omega
          obtain ⟨wt, hwt⟩ : ∃ t, watN z.s z.ss z.d m = t := ⟨_, rfl⟩
          have bwt := wat_bd HOK.out hlt2
          rw [show watN z.s (Sn.ss z) z.d m = wt from hwt] at bwt
          have HWT := Lib.hid (show pwV z true (isHost (m : Int)) = wt by rw [wat_is hlt2, hwt])
          have HWY := Lib.hid (show wS z (m + 1) = WS + wt by unfold wS; rw [sumN]; show wS z m + _ = _; rw [HWS.out, hwt])
          obtain ⟨b1, -, b2⟩ := bwt
          clear hwt
          go_wp2_with (fail)
          clear f0 f1 f2 f3 f4 f5 f6 g0 g1 g2
          go_at_call 10
          refine (c_pwWatts z true (okT HOK.out) (m : Int) wr (HZ.out wr HKwr.out) wt HWT.out).mono ?_
          rintro e v2 ⟨rfl, bb⟩
          have HKv2 := Lib.hid (below_join HKwr.out bb HKwr.out.size)
          clear bb
          go_wp2_with (fail)
          go_roundw
          case rel => exact ⟨m + 1, by omega, by rw [HWY.out], by go_num, HKv2⟩
          case measure => simp only [intOf]; omega
        · obtain rfl : m = z.s.hosts.length := by omega
          have HEQ := Lib.hid (show (CS == WS) = q by
            have h1 := all_is HOK.out
            rw [HCS.out, HWS.out] at h1
            have h2 := hq.out
            cases q
            · rw [beq_eq_false_iff_ne]; exact fun e => by have := h2.2 (h1.1 e); cases this
            · rw [beq_iff_eq]; exact h1.2 (h2.1 rfl))
          go_wp2_with (fail)
          clear f0 f1 f2 f3 f4 f5 f6 g0 g1 g2
          go_at_call 21
          refine (c_pwCarried z true (okT HOK.out) wr (HZ.out wr HKwr.out) CS (by rw [car_is, HCS.out])).mono ?_
          rintro e v2 ⟨rfl, bb⟩
          have HKv2 := Lib.hid (below_join HKwr.out bb HKwr.out.size)
          have heq := HEQ.out
          clear bb
          go_wp2_with (fail)
          go_at_call 9
          refine (HLV.out v2).mono ?_
          rintro e v3 ⟨rfl, bb⟩
          have HKv3 := Lib.hid (below_join HKv2.out bb HKv2.out.size)
          clear bb
          go_wp2_with (fail)
          go_ret
          exact ⟨rfl, below_join HB.out HKv3.out hle⟩
theorem row_PowerCarries (w : World) (p : SP) (s : SiteD) (hs : SiAt w p s) (A : Option Addr) (c : Nat) (xs : List (Svc × SvA)) (hx : WiAt w A c xs) (q : WP) (d : WorldD) (hd : WoAt w q d) :
    Calls Tryz.prog 5 #[siV p s, .agg #[.slice A xs.length c], .agg #[.slice q.a1 d.hosts.length q.c1, .slice q.a2 d.reps.length q.c2]] w fun e w' => e = .returned (.bool true) ∧ Below w.heap.size w w' := w_PowerCarries ⟨p, s, A, c, xs, q, d⟩ w ⟨hs, hx, hd⟩
end Go.Proofs.YtidpiokkfnhobaaGreat
