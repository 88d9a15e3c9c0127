/-
  DERIVED. Several texts in one.
-/
import Derived.Test.YtbbadnlaelgmlaaGreatPZB3
import Derived.Test.YtbbadnlaelgmlaaGreatPZN1
import Derived.WalkMore
import Derived.Test.YtbbadnlaelgmlaaGreatPZA3
import Derived.Test.YtbbadnlaelgmlaaGreatPZB2
set_option linter.unusedVariables false
set_option linter.unusedSimpArgs false

namespace Go.Proofs.YtbbadnlaelgmlaaGreat
open Go.RowKit
set_option maxRecDepth 100000
set_option linter.unusedVariables false
set_option linter.unusedSimpArgs false

theorem own_rwT {w : World} {base : Nat} {v : Value} {l : List Int} (h : w.ownsRow base 3 1 v l.length (ints l)) : ∃ A c, v = .slice A l.length c ∧ l.length ≤ c ∧ c ≤ maxLen ∧ ∀ X : World, (∀ (k : Nat) (o : Obj), base ≤ k → w.heap[k]? = some o → X.heap[k]? = some o) → Rw 1 inF X A c l := by
  obtain ⟨A, c, hv, hr⟩ := own_rw h
  refine ⟨A, c, hv, hr.1, hr.2.1, fun X hX => ?_⟩
  have h2 : X.ownsRow base 3 1 v l.length (ints l) := by
    obtain ⟨k1, ⟨e, e2⟩ | ⟨g, cap, cur, e, k3, k4, k⟩⟩ := h
    · exact ⟨k1, .inl ⟨e, e2⟩⟩
    · exact ⟨k1, .inr ⟨g, cap, cur, e, k3, hX _ _ k3 k4, k⟩⟩
  obtain ⟨A2, c2, hv2, hr2⟩ := own_rw h2
  rw [hv] at hv2
  injection hv2 with e1 _ e2
  subst e1 e2
  exact hr2
set_option maxHeartbeats 8000000 in
theorem c_coHeat (z : Sn) (r0 : Bool) (hr0 : r0 = true ↔ z.Ok) (k : Int) (w : World) (hz : SnAt w z) (v : Int) (hv : heatV z r0 k = v) :
    Calls Tryz.prog 107 #[.agg #[.slice z.p.a1 z.s.feeds.length z.p.c1, .slice z.p.a2 z.s.brks.length z.p.c2, .slice z.p.a3 z.s.loops.length z.p.c3, .slice z.p.a4 z.s.racks.length z.p.c4, .int .i64 z.s.sw, .slice z.p.a5 z.s.links.length z.p.c5, .slice z.p.a6 z.s.hosts.length z.p.c6], .agg #[.slice z.A z.xs.length z.c], .agg #[.slice z.q.a1 z.d.hosts.length z.q.c1, .slice z.q.a2 z.d.reps.length z.q.c2], .int .i64 k] w fun e w' => e = .returned (.int .i64 v) ∧ Below w.heap.size w w' := by
  obtain ⟨W1, h1⟩ : ∃ W, W = w.alloc (.cells #[.slice z.p.a1 z.s.feeds.length z.p.c1, .slice z.p.a2 z.s.brks.length z.p.c2, .slice z.p.a3 z.s.loops.length z.p.c3, .slice z.p.a4 z.s.racks.length z.p.c4, .int .i64 z.s.sw, .slice z.p.a5 z.s.links.length z.p.c5, .slice z.p.a6 z.s.hosts.length z.p.c6] 29) := ⟨_, rfl⟩
  obtain ⟨W2, h2⟩ : ∃ W, W = W1.alloc (.cells #[.slice z.A z.xs.length z.c] 32) := ⟨_, rfl⟩
  obtain ⟨W3, h3⟩ : ∃ W, W = W2.alloc (.cells #[.slice z.q.a1 z.d.hosts.length z.q.c1, .slice z.q.a2 z.d.reps.length z.q.c2] 36) := ⟨_, rfl⟩
  obtain ⟨B0, X1⟩ := sn_boxes h1 h2 h3
  have z3 : W3.heap.size = w.heap.size + 1 + 1 + 1 := sn_size h1 h2 h3
  obtain ⟨W, h4⟩ : ∃ W, W = W3.alloc (.cells #[.int .i64 0] 3) := ⟨_, rfl⟩
  have B1 : Below w.heap.size w W := by rw [h4]; exact B0.alloc B0.size _
  have M0 : W.heap[w.heap.size + 1 + 1 + 1]? = some (.cells #[.int .i64 0] 3 (0, 0)) := by rw [h4, ← z3]; exact box_new _ _ _
  have z4 : W.heap.size = w.heap.size + 1 + 1 + 1 + 1 := by rw [h4, World.size_alloc, z3]
  have X2 : SnBx W w.heap.size z := by rw [h4]; exact X1.alloc _
  have HB := Lib.hid B1
  have Z0 := hz.on B1 (Nat.le_refl _)
  have HZ := Lib.hid (fun (X : World) (hX : Below W.heap.size W X) => Z0.on hX (Nat.le_refl _))
  have HF := Lib.hid (fun (X : World) (hX : Below W.heap.size W X) => ((X2.on hX (Nat.le_refl _)).cells : X.cell? ⟨w.heap.size, 0, none⟩ = some (.slice z.p.a1 z.s.feeds.length z.p.c1) ∧ X.cell? ⟨w.heap.size, 1, none⟩ = some (.slice z.p.a2 z.s.brks.length z.p.c2) ∧ X.cell? ⟨w.heap.size, 2, none⟩ = some (.slice z.p.a3 z.s.loops.length z.p.c3) ∧ X.cell? ⟨w.heap.size, 3, none⟩ = some (.slice z.p.a4 z.s.racks.length z.p.c4) ∧ X.cell? ⟨w.heap.size, 4, none⟩ = some (.int .i64 z.s.sw) ∧ X.cell? ⟨w.heap.size, 5, none⟩ = some (.slice z.p.a5 z.s.links.length z.p.c5) ∧ X.cell? ⟨w.heap.size, 6, none⟩ = some (.slice z.p.a6 z.s.hosts.length z.p.c6) ∧ X.cell? ⟨w.heap.size + 1, 0, none⟩ = some (.slice z.A z.xs.length z.c) ∧ X.cell? ⟨w.heap.size + 1 + 1, 0, none⟩ = some (.slice z.q.a1 z.d.hosts.length z.q.c1) ∧ X.cell? ⟨w.heap.size + 1 + 1, 1, none⟩ = some (.slice z.q.a2 z.d.reps.length z.q.c2)))
  have HX := Lib.hid (fun (X : World) (hX : Below W.heap.size W X) => X2.on hX (Nat.le_refl _))
  have HM0 := Lib.hid (fun (X : World) (hX : Below W.heap.size W X) => (box_on M0 hX (Nat.le_refl _) : X.heap[w.heap.size + 1 + 1 + 1]? = some (.cells #[.int .i64 0] 3 (0, 0))))
  have HKW := Lib.hid (Below.refl W.heap.size W)
  have hle := HB.out.size
  obtain ⟨n1, n2, n3, n4, n5, n6, n7, n8⟩ := hz.bounds
  have HC1 := Lib.hid (fun (g b : Nat) (x S : Int) (X : World) (h1 : SnAt X z) (h2 : SnBx X b z) (h3 : X.heap[g]? = some (.cells #[.int .i64 S] 3 (0, 0))) (v : Int) (hv : pwV z r0 (isHost x) = v) (S2 : Int) (hS2 : IntKind.i64.wrap (S + v) = S2) => c_heat1 z r0 hr0 g b x S X h1 h2 h3 v hv S2 hS2)
  have HCM := Lib.hid (fun (X : World) (h : SnAt X z) => c_Members z.p z.s 5 (by decide) k X h.si)
  unfold siV at HCM
  have HBD := Lib.hid (fun j => hot_bd hr0 k j)
  have HEND := Lib.hid (hot_is hr0 k)
  have HVV := Lib.hid hv
  have HX0 := Lib.hid X2
  have HM00 := Lib.hid M0
  have HZW := Lib.hid (fun (X : World) (h : Below w.heap.size w X) => hz.on h (Nat.le_refl _))
  have HZ4 := Lib.hid z4
  clear hr0 hv
  clear hz B0 X1 z3 Z0 B1 M0 z4 X2
  obtain ⟨f0, f1, f2, f3, f4, f5, f6, g0, g1, g2⟩ := HF.out W HKW.out
  have m00 := cell_of (HM0.out W HKW.out) (o := 0) rfl
  rw [h4, h3, h2, h1] at f0 f1 f2 f3 f4 f5 f6 g0 g1 g2 m00
  generalize hBB : w.heap.size = B at *
  go_enter Tryz.func107, Tryz.ntmps107
  go_wp2_with (fail)
  rw [← h1, ← h2, ← h3, ← h4]
  clear h1 h2 h3 h4 f0 f1 f2 f3 f4 f5 f6 g0 g1 g2 m00
  go_at_call 141
  refine (HCM.out W (HZ.out W HKW.out)).mono ?_
  rintro e v1 ⟨vv, rfl, ho, bb⟩
  obtain ⟨A, c, rfl, hlc, hcm, HRW0⟩ := own_rwT ho
  have HRW := Lib.hid HRW0
  obtain ⟨l, hl⟩ : ∃ l, memD z.s 5 k = l := ⟨_, rfl⟩
  have HL := Lib.hid hl
  have hll : l.length ≤ z.s.hosts.length := by rw [← hl]; exact mem_len _ _ _
  have HKv1 := Lib.hid (below_join HKW.out bb HKW.out.size)
  have HSTEP := Lib.hid (fun (j : Nat) (x : Int) (hj : l[j]? = some x) => hot_step (z := z) (r0 := r0) (k := k) (j := j) (x := x) (by rw [hl]; exact hj))
  have HE2 := Lib.hid (show hotS z r0 k l.length = v by rw [← hl, HEND.out, HVV.out])
  have HS0 := Lib.hid (show hotS z r0 k 0 = 0 from rfl)
  rw [hl] at HRW hlc ⊢
  have HG0 := Lib.hid (show v1.heap[B + 1 + 1 + 1]? = some (.cells #[.int .i64 (hotS z r0 k 0)] 3 (0, 0)) from HM0.out v1 HKv1.out)
  have hBz := HZ4.out
  have HBx := Lib.hid (HX.out v1 HKv1.out)
  have HWv := Lib.hid (below_join HB.out HKv1.out hle)
  have HFR := Lib.hid (fun (X : World) (h : v6.But (B + 1 + 1 + 1) v1 X) => (⟨by rw [← hBB]; exact h.below (by rw [hBB]; exact HWv.out) (by omega), HBx.out.but h (by omega) (by omega) (by omega), HRW.out X (fun k o hk ho => h.same k o (by omega) ho)⟩ : Below B w X ∧ SnBx X B z ∧ Rw 1 inF X A c l))
  obtain ⟨g, hg⟩ : ∃ g, B + 1 + 1 + 1 = g := ⟨_, rfl⟩
  rw [hg] at HG0 HFR ⊢
  clear ho bb HRW0 hl hg
  go_wp2_with (fail)
  go_loopw [18] (fun i wr => ∃ j : Nat, j ≤ l.length ∧ i = .int .i64 (j : Int) ∧ Hid (v6.But g v1 wr) ∧ Hid (wr.heap[g]? = some (.cells #[.int .i64 (hotS z r0 k j)] 3 (0, 0)))) (fun i _ => l.length - (intOf i).toNat)
  case atStart => exact ⟨0, Nat.zero_le _, rfl, Lib.hid (v6.But.refl _), HG0⟩
  case round =>
    obtain ⟨j, hj, rfl, HBT, HGR⟩ := hrel
    have hji : ((j : Nat) : Int).toNat = j := by omega
    obtain ⟨S, hS⟩ : ∃ t, hotS z r0 k j = t := ⟨_, rfl⟩
    have HSS := Lib.hid hS
    have bS := HBD.out j
    rw [hS] at HGR bS
    clear hS
    obtain ⟨bw, bx, brw⟩ := HFR.out wr HBT.out
    have HBW := Lib.hid bw
    have HBX := Lib.hid bx
    by_cases hlt : j < l.length
    · obtain ⟨x, hx⟩ : ∃ x, l[j]? = some x := ⟨_, List.getElem?_eq_getElem hlt⟩
      have HST := Lib.hid (HSTEP.out j x hx)
      obtain ⟨pb, po, e1, hpb, x0⟩ := brw.at_ hx
      have x0 := x0 0 (by omega)
      rw [show po + j * 1 + 0 = po + j by omega] at x0
      subst e1
      have hlt2 : (j : Int) < (l.length : Int) := by omega
      have bS2 := HBD.out (j + 1)
      have x1 : wr.cell? ⟨pb, po + j, none⟩ = some (.int .i64 x) := x0
      clear x0 hx bw bx brw
      go_wp2_with (fail)
      go_at_call 139
      refine (HC1.out g B x S wr (HZW.out wr HBW.out) HBX.out HGR.out (wtV z r0 x) rfl (hotS z r0 k (j + 1)) (by have := HST.out; rw [HSS.out] at this; rw [← this]; exact wrap_in (by omega) (by omega))).mono ?_
      rintro e w2 ⟨rfl, hb2, hg2⟩
      have HB2 := Lib.hid (HBT.out.trans hb2)
      have HG2 := Lib.hid hg2
      clear hb2 hg2
      go_wp2_with (fail)
      go_roundw
      case rel => exact ⟨j + 1, by omega, by go_num, HB2, HG2⟩
      case measure => simp only [intOf]; omega
    · obtain rfl : j = l.length := by omega
      have HVS := Lib.hid (show S = v by rw [← HE2.out, HSS.out])
      have g0 : wr.cell? ⟨g, 0, none⟩ = some (.int .i64 S) := cell_of HGR.out rfl
      clear bw bx brw
      go_wp2_with (fail)
      go_ret
      exact ⟨(show Ending.returned (.int .i64 S) = .returned (.int .i64 v) by rw [HVS.out]), HBW.out⟩
end Go.Proofs.YtbbadnlaelgmlaaGreat

namespace Go.Proofs.YtbbadnlaelgmlaaGreat
open Go.RowKit
set_option maxRecDepth 100000
set_option linter.unusedVariables false
set_option linter.unusedSimpArgs false

noncomputable def wyS (s : SiteD) (a b : Nat) : List Nat := a :: wayV (nS s) (lkN s) a b
theorem next_find {n : Nat} {L : Nat → Nat → Int} {dd : Nat → Int} {u k x : Nat} (h : nextOf n L dd u = some x) (hk : k < n) (h1 : ∀ y, y < k → isNext L dd u y = false) (h2 : isNext L dd u k = true) : x = k := by
  unfold nextOf at h
  rw [List.find?_eq_some_iff_getElem] at h
  obtain ⟨h3, i, hi, e1, e2⟩ := h
  rw [List.getElem_range] at e1
  subst e1
  have g : ¬ i < k := fun g => by have := h1 i g; rw [h3] at this; cases this
  have g2 : ¬ k < i := fun g => by
    have := e2 k g
    rw [List.getElem_range, h2] at this
    cases this
  omega
theorem next_some {n : Nat} {L : Nat → Nat → Int} {dd : Nat → Int} {u x : Nat} (h : nextOf n L dd u = some x) : x < n ∧ isNext L dd u x = true := by
  unfold nextOf at h
  exact ⟨List.mem_range.1 (List.mem_of_find?_eq_some h), List.find?_some h⟩
/-- The way so far: done behind a, rest to come. -/
structure WySt (s : SiteD) (a b u : Nat) (done rest : List Nat) : Prop where
  all : wayV (nS s) (lkN s) a b = done ++ rest
  grd : Grd (nS s) (lkN s) (fun x => dV (nS s) (lkN s) x b) b u rest
  lt : u < nS s
  dd : 0 ≤ dS s u b
  len : done.length ≤ 7000000
theorem WySt.start {s : SiteD} (hs : siteOk s = true) {a b : Nat} (ha : a < nS s) (hb : b < nS s) (hd : 0 ≤ dS s a b) : WySt s a b a [] (wayV (nS s) (lkN s) a b) :=
  ⟨rfl, way_grd (sk hs).1 ha hb hd, ha, hd, by simp⟩
theorem WySt.next {s : SiteD} (hs : siteOk s = true) {a b u k : Nat} {done rest : List Nat} (ha : a < nS s) (hb : b < nS s) (hd : 0 ≤ dS s a b) (h : WySt s a b u done rest) (hne : u ≠ b) (hk : k < nS s) (h1 : ∀ y, y < k → isNext (lkN s) (fun x => dS s x b) u y = false) (h2 : isNext (lkN s) (fun x => dS s x b) u k = true) : ∃ r2, rest = k :: r2 ∧ WySt s a b k (done ++ [k]) r2 ∧ dS s k b < dS s u b := by
  obtain ⟨e, g, l, d, n⟩ := h
  cases rest with
  | nil => exact absurd g hne
  | cons x r2 =>
    obtain ⟨-, g2, g3⟩ := g
    obtain rfl : k = x := (next_find g2 hk h1 h2).symm
    obtain ⟨i1, i2, i3⟩ := isNext_iff.1 h2
    have hp := (sk hs).1.pos u k i1
    refine ⟨r2, rfl, ⟨by rw [e]; simp, g3, hk, i2, ?_⟩, ?_⟩
    rotate_left
    · have i4 : ∀ z : Int, z = dS s k b → lkN s u k + z = dS s u b := fun z hz => by rw [hz]; exact i3
      have := i4 _ rfl
      omega
    have hw := way_ok (sk hs).1 ha hb hd
    have hl := wlen_pos (sk hs).1.pos hw.1
    have hf := dS_ge hs a b
    rw [hw.2.2, e] at hl
    have : (dV (nS s) (lkN s) a b) = dS s a b := rfl
    rw [List.length_append, List.length_cons] at hl
    rw [List.length_append, List.length_singleton]
    omega
theorem WySt.some {s : SiteD} {a b u : Nat} {done rest : List Nat} (h : WySt s a b u done rest) (hne : u ≠ b) : ∃ x, x < nS s ∧ isNext (lkN s) (fun x => dS s x b) u x = true := by
  obtain ⟨e, g, l, d, n⟩ := h
  cases rest with
  | nil => exact absurd g hne
  | cons x r2 => exact ⟨x, next_some g.2.1⟩
theorem WySt.end_ {s : SiteD} {a b : Nat} {done rest : List Nat} (h : WySt s a b b done rest) : wyS s a b = a :: done := by
  obtain ⟨e, g, l, d, n⟩ := h
  unfold wyS
  rw [e]
  cases rest with
  | nil => rw [List.append_nil]
  | cons x r2 => exact absurd rfl g.1
end Go.Proofs.YtbbadnlaelgmlaaGreat

namespace Go.Proofs.YtbbadnlaelgmlaaGreat
open Go.RowKit
set_option maxRecDepth 100000
set_option linter.unusedVariables false
set_option linter.unusedSimpArgs false

structure WyOk (n f : Nat) (pre : List Nat) (u : Nat) (len : Int) : Prop where
  nd : (pre ++ [u]).Nodup
  lt : ∀ v ∈ pre ++ [u], v < n
  fu : n ≤ pre.length + 1 + f
  l0 : 0 ≤ len
  l1 : len ≤ 1000000 * (pre.length : Int)
  n8 : n ≤ 8
theorem WyOk.len {n f u : Nat} {pre : List Nat} {len : Int} (h : WyOk n f pre u len) : pre.length < 8 := by
  have h1 : u ∉ pre := fun hu => by
    have := List.nodup_append.1 h.nd
    exact this.2.2 u hu u (by simp) rfl
  have := nodup_full (N := n) (l := pre) (List.nodup_append.1 h.nd).1 (fun x hx => h.lt x (by simp [hx])) (h.lt u (by simp)) h1
  have := h.n8
  omega
theorem WyOk.next {n f u k : Nat} {pre : List Nat} {len st : Int} (h : WyOk n (f + 1) pre u len) (hk : k < n) (hn : k ∉ pre ++ [u]) (h0 : 0 ≤ st) (h1 : st ≤ 1000000) : WyOk n f (pre ++ [u]) k (len + st) := by
  refine ⟨?_, ?_, ?_, ?_, ?_, h.n8⟩
  · rw [List.nodup_append]
    exact ⟨h.nd, by simp, fun a ha b hb => by simp at hb; subst hb; exact fun e => hn (e ▸ ha)⟩
  · intro v hv
    rw [List.mem_append] at hv
    rcases hv with hv | hv
    · exact h.lt v hv
    · simp at hv; omega
  · have := h.fu; simp; omega
  · have := h.l0; omega
  · have := h.l1; simp; omega
end Go.Proofs.YtbbadnlaelgmlaaGreat

namespace Go.Proofs.YtbbadnlaelgmlaaGreat
open Go.RowKit
set_option maxRecDepth 100000
set_option linter.unusedVariables false
set_option linter.unusedSimpArgs false

theorem ret2w' {fn : Func} {a : Act} {W : World} {R : Ending → World → Prop} {b i : Nat} {x0 x1 : Value} (hfn : fn.results = #[.cell i 36]) (hp : a.tmps[i]?.getD undef = .pointer (some ⟨b, 0, none⟩)) (hd : a.defers = [])
    (h : W.heap[b]? = some (.cells #[x0, x1] 36 (0, 0))) (hR : R (.returned (.agg #[x0, x1])) W) : bodyPost Tryz.prog fn R .ret a W := by
  have c0 : W.cell? ⟨b, 0, none⟩ = some x0 := cell_of h rfl
  have c1 : W.cell? ⟨b, 1, none⟩ = some x1 := cell_of h rfl
  exact bodyPost_ret (v := .agg #[x0, x1]) (by simp [results, hfn, hp, go_sem, c0, c1]) hd hR
theorem OwnW.set {base g : Nat} {w : World} {p : WP} {d : WorldD} (h : OwnW base w p d) (hg : g < base) (x0 x1 : Value) : OwnW base ((w.setCell ⟨g, 0, none⟩ x0).setCell ⟨g, 1, none⟩ x1) p d :=
  ⟨ownsRow_setCell_below (ownsRow_setCell_below h.1 (a := ⟨g, 0, none⟩) hg _) (a := ⟨g, 1, none⟩) hg _, ownsRow_setCell_below (ownsRow_setCell_below h.2 (a := ⟨g, 0, none⟩) hg _) (a := ⟨g, 1, none⟩) hg _⟩
set_option maxHeartbeats 16000000 in
theorem c_Copy (p : WP) (d : WorldD) (hm : d.reps.length ≤ 1000) (hm2 : d.hosts.length ≤ 1000) (w : World) (h : WoAt w p d) :
    Calls Tryz.prog 38 #[.agg (woA p d)] w fun e w' => ∃ p', e = .returned (.agg (woA p' d)) ∧ OwnW w.heap.size w' p' d ∧ Below w.heap.size w w' := by
  unfold woA
  obtain ⟨ih, hih, hh0, hh1, hh2⟩ := info_parts hst_info
  obtain ⟨ir, hir, hr0, hr1, hr2⟩ := info_parts rep_info
  obtain ⟨W1, h1⟩ : ∃ W, W = w.alloc (.cells (woA p d) 36) := ⟨_, rfl⟩
  obtain ⟨W2, h2⟩ : ∃ W, W = W1.alloc (.cells #[.slice none 0 0, .slice none 0 0] 36) := ⟨_, rfl⟩
  obtain ⟨W, h3⟩ : ∃ W, W = W2.alloc (.cells #[.slice none 0 0, .slice none 0 0] 36) := ⟨_, rfl⟩
  obtain ⟨B0, b1, b2, b3⟩ := three_boxes h1 h2 h3
  have HB := Lib.hid B0
  have HW := Lib.hid (at_lt b3)
  have HF := Lib.hid (fun (X : World) (hX : Below (w.heap.size + 1 + 1) W X) => (⟨cell_of ((hX.block _ (by omega)).trans b1) rfl, cell_of ((hX.block _ (by omega)).trans b1) rfl, cell_of ((hX.block _ (by omega)).trans b2) rfl, cell_of ((hX.block _ (by omega)).trans b2) rfl, frz ((hX.block _ (by omega)).trans b2) 0, frz ((hX.block _ (by omega)).trans b2) 1⟩ : X.cell? ⟨w.heap.size, 0, none⟩ = some (.slice p.a1 d.hosts.length p.c1) ∧ X.cell? ⟨w.heap.size, 1, none⟩ = some (.slice p.a2 d.reps.length p.c2) ∧ X.cell? ⟨w.heap.size + 1, 0, none⟩ = some (.slice none 0 0) ∧ X.cell? ⟨w.heap.size + 1, 1, none⟩ = some (.slice none 0 0) ∧ X.frozen? ⟨w.heap.size + 1, 0, none⟩ = false ∧ X.frozen? ⟨w.heap.size + 1, 1, none⟩ = false))
  have HRB := Lib.hid (fun (X : World) (hX : Below (w.heap.size + 1 + 1) W X) => (hX.block _ (by omega)).trans b2)
  have HO := Lib.hid b3
  have H := Lib.hid (fun (X : World) (hX : Below w.heap.size w X) => h.on hX (Nat.le_refl _))
  have n1 := h.hosts.1; have n2 := h.hosts.2.1; have n3 := h.reps.1; have n4 := h.reps.2.1
  unfold maxLen at n2 n4
  have hA1 : p.a1 = none → d.hosts.length = 0 ∧ p.c1 = 0 := fun e => by have h1 := h.hosts; rw [e] at h1; have := h1.none_nil; exact ⟨by rw [this.1]; rfl, this.2⟩
  have hA2 : p.a2 = none → d.reps.length = 0 ∧ p.c2 = 0 := fun e => by have h1 := h.reps; rw [e] at h1; have := h1.none_nil; exact ⟨by rw [this.1]; rfl, this.2⟩
  have HA1 := Lib.hid hA1
  have HA2 := Lib.hid hA2
  obtain ⟨f0, f1, r0, r1, u0, u1⟩ := HF.out W (Below.refl _ _)
  have o0 : W.cell? ⟨w.heap.size + 1 + 1, 0, none⟩ = some (.slice none 0 0) := cell_of b3 rfl
  clear h B0 b1 b2 b3 hA1 hA2
  unfold woA at h1
  rw [h3, h2, h1] at f0 f1 r0 r1 u0 u1 o0
  generalize hA : w.heap.size = B at *
  go_enter Tryz.func38, Tryz.ntmps38
  go_wp2_with first
    | (at_builtin; rw [← h1, ← h2, ← h3]; clear h1 h2 h3 f0 f1 r0 r1 u0 u1 o0; refine wpList_append_any _ rfl _ _ 33 rfl W.heap.size 58 ih (.agg #[.int .u8 0, .int .i64 0]) 2 16 Tryz.underlying33 hih hh0 hh1 hh2 rfl (by omega) (.slice none 0 0) 0 [] rfl (World.ownsRow_nil _ _ _ _) p.a1 d.hosts.length p.c1 (cellsV 2 hstV d.hosts) rfl HA1.out (cellsV_len _) ((H.out W HB.out).hosts.cells (by omega)) (cellsV_one hst_one _) (by unfold maxLen; omega) (by omega) (Nat.le_refl _) ?_; intro z1 Z1 hown1 hgrow1; obtain ⟨A1, c1, rfl⟩ := own_shape hown1; have HK1 := Lib.hid ((Below.refl W.heap.size W).grown hgrow1 (Nat.le_refl _) (fun k hk => by cases hk)); have HO1 := Lib.hid (show Z1.ownsRow W.heap.size 58 2 (.slice A1 d.hosts.length c1) d.hosts.length (cellsV 2 hstV d.hosts) by simpa using hown1); clear hown1 hgrow1; have ob1 := box_on HO.out HK1.out (Nat.le_refl _); have o0 : Z1.cell? ⟨B + 1 + 1, 0, none⟩ = some (.slice none 0 0) := cell_of ob1 rfl; have q0 := frz ob1 0; obtain ⟨Y1, hY1⟩ : ∃ Y, Y = Z1.setCell ⟨B + 1 + 1, 0, none⟩ (.slice A1 d.hosts.length c1) := ⟨_, rfl⟩; have KZ1 : Below (B + 1 + 1) W Z1 := HK1.out.mono (by have := HW.out; omega); have KY1 := KZ1.setCell (p := ⟨B + 1 + 1, 0, none⟩) (Nat.le_refl _) (.slice A1 d.hosts.length c1); rw [← hY1] at KY1; have KY1 := Lib.hid KY1; clear KZ1; have OY1 := Lib.hid (show Y1.ownsRow W.heap.size 58 2 (.slice A1 d.hosts.length c1) d.hosts.length (cellsV 2 hstV d.hosts) by rw [hY1]; exact ownsRow_setCell_below HO1.out (a := ⟨B + 1 + 1, 0, none⟩) HW.out _); have BY1 := Lib.hid (show Y1.heap[B + 1 + 1]? = some (.cells #[.slice A1 d.hosts.length c1, .slice none 0 0] 36 (0, 0)) by rw [hY1]; exact set_field ob1 _); have SY1 := Lib.hid (show W.heap.size ≤ Y1.heap.size by rw [hY1]; simpa [World.setCell] using HK1.out.size); obtain ⟨f0, f1, -, -, -, -⟩ := HF.out Y1 KY1.out; have o1 : Y1.cell? ⟨B + 1 + 1, 1, none⟩ = some (.slice none 0 0) := cell_of BY1.out rfl; rw [hY1] at f0 f1 o1; have HE1 := Lib.hid hY1; clear ob1 hY1)
    | (at_builtin; rw [← HE1.out]; clear f0 f1 o1; refine wpList_append_any _ rfl _ _ 34 rfl Y1.heap.size 53 ir (.agg #[.int .i64 0, .int .i64 0]) 2 16 Tryz.underlying34 hir hr0 hr1 hr2 rfl (by omega) (.slice none 0 0) 0 [] rfl (World.ownsRow_nil _ _ _ _) p.a2 d.reps.length p.c2 (cellsV 2 repV d.reps) rfl HA2.out (cellsV_len _) ((H.out Y1 (below_join HB.out (KY1.out.mono (Nat.le_refl _)) (by have h1 := HB.out.size; have h2 := HW.out; omega))).reps.cells (by omega)) (cellsV_one rep_one _) (by unfold maxLen; omega) (by omega) (Nat.le_refl _) ?_; intro z2 Z2 hown2 hgrow2; obtain ⟨A2, c2, rfl⟩ := own_shape hown2; have HK2 := Lib.hid ((Below.refl Y1.heap.size Y1).grown hgrow2 (Nat.le_refl _) (fun k hk => by cases hk)); have HO2 := Lib.hid (show Z2.ownsRow Y1.heap.size 53 2 (.slice A2 d.reps.length c2) d.reps.length (cellsV 2 repV d.reps) by simpa using hown2); have OZ2 := Lib.hid (own_on OY1.out HK2.out (Nat.le_refl _)); clear hown2 hgrow2; have ob2 := box_on BY1.out HK2.out (Nat.le_refl _); have o1 : Z2.cell? ⟨B + 1 + 1, 1, none⟩ = some (.slice none 0 0) := cell_of ob2 rfl; have q1 := frz ob2 1; obtain ⟨Y2, hY2⟩ : ∃ Y, Y = Z2.setCell ⟨B + 1 + 1, 1, none⟩ (.slice A2 d.reps.length c2) := ⟨_, rfl⟩; have KZ2 : Below (B + 1 + 1) Y1 Z2 := HK2.out.mono (by have h1 := HW.out; have h2 := SY1.out; omega); have KY2 := (KY1.out.trans KZ2).setCell (p := ⟨B + 1 + 1, 1, none⟩) (Nat.le_refl _) (.slice A2 d.reps.length c2); rw [← hY2] at KY2; have KY2 := Lib.hid KY2; clear KZ2; have OY2 := Lib.hid (show OwnW W.heap.size Y2 ⟨A1, c1, A2, c2⟩ d by rw [hY2]; exact ⟨ownsRow_setCell_below OZ2.out (a := ⟨B + 1 + 1, 1, none⟩) HW.out _, ownsRow_setCell_below (own_mono HO2.out SY1.out) (a := ⟨B + 1 + 1, 1, none⟩) HW.out _⟩); have BY2 := Lib.hid (show Y2.heap[B + 1 + 1]? = some (.cells #[.slice A1 d.hosts.length c1, .slice A2 d.reps.length c2] 36 (0, 0)) by rw [hY2]; exact set_field ob2 _); have o2 : Y2.cell? ⟨B + 1 + 1, 0, none⟩ = some (.slice A1 d.hosts.length c1) := cell_of BY2.out rfl; have o3 : Y2.cell? ⟨B + 1 + 1, 1, none⟩ = some (.slice A2 d.reps.length c2) := cell_of BY2.out rfl; obtain ⟨-, -, r0, r1, u0, u1⟩ := HF.out Y2 KY2.out; rw [hY2] at o2 o3 r0 r1 u0 u1; have HE2 := Lib.hid hY2; clear ob2 hY2)
  rw [← HE2.out]
  refine ret2w' (i := 2) (b := B + 1) rfl rfl rfl (row_store2 (HRB.out Y2 KY2.out) _ _) ⟨⟨A1, c1, A2, c2⟩, rfl, ?_, ?_⟩
  · exact (OY2.out.set (by have := HW.out; omega) _ _).mono (by have := HB.out.size; omega)
  · exact ends2 (below_join HB.out (KY2.out.mono (Nat.le_refl _)) (by have h1 := HB.out.size; have h2 := HW.out; omega)) (by omega) _ _
end Go.Proofs.YtbbadnlaelgmlaaGreat

namespace Go.Proofs.YtbbadnlaelgmlaaGreat
open Go.RowKit
set_option maxRecDepth 100000
set_option linter.unusedVariables false
set_option linter.unusedSimpArgs false

theorem c_CopyTo (p : WP) (d : WorldD) (hm : d.reps.length ≤ 1000) (hm2 : d.hosts.length ≤ 1000) (w : World) (h : WoAt w p d) :
    Calls Tryz.prog 38 #[.agg #[.slice p.a1 d.hosts.length p.c1, .slice p.a2 d.reps.length p.c2]] w fun e w' => ∃ A1 c1 A2 c2, e = .returned (.agg #[.slice A1 d.hosts.length c1, .slice A2 d.reps.length c2]) ∧ OwnW w.heap.size w' ⟨A1, c1, A2, c2⟩ d ∧ Below w.heap.size w w' :=
  (c_Copy p d hm hm2 w h).mono fun e w' ⟨p', h1, h2, h3⟩ => ⟨p'.a1, p'.c1, p'.a2, p'.c2, h1, h2, h3⟩
end Go.Proofs.YtbbadnlaelgmlaaGreat

namespace Go.Proofs.YtbbadnlaelgmlaaGreat
open Go.RowKit
set_option maxRecDepth 100000
set_option linter.unusedVariables false
set_option linter.unusedSimpArgs false

/-- A box at g: a world whose replicas a walk is making. -/
def OutAt (g : Nat) (V wr : World) (hs : Value) (A : Option Addr) (c : Nat) (l : List Rep) : Prop :=
  Below g V wr ∧ wr.heap[g]? = some (.cells #[hs, .slice A l.length c] 36 (0, 0)) ∧ wr.ownsRow (g + 1) 53 2 (.slice A l.length c) l.length (cellsV 2 repV l)
theorem OutAt.drew {g : Nat} {V wr : World} {hs : Value} {A : Option Addr} {c : Nat} {l : List Rep} (h : OutAt g V wr hs A c l) : OutAt g V wr.drew hs A c l := ⟨h.1.drew, h.2.1, h.2.2⟩
theorem OutAt.drewN {g : Nat} {V wr : World} {hs : Value} {A : Option Addr} {c : Nat} {l : List Rep} (h : OutAt g V wr hs A c l) (n : Nat) : OutAt g V (wr.drewN n) hs A c l := ⟨below_drewN h.1, h.2.1, h.2.2⟩
theorem OutAt.push {g : Nat} {V wr Z : World} {hs : Value} {A : Option Addr} {c g4 cap : Nat} {l : List Rep} (h : OutAt g V wr hs A c l) (x : Rep)
    (hown : Z.ownsRow (g + 1) 53 2 (.slice (some ⟨g4, 0, none⟩) (l.length + 1) cap) (l.length + 1) (cellsV 2 repV l ++ [.int .i64 x.svc, .int .i64 x.host]))
    (hgrow : (wr.alloc (.cells #[.int .i64 x.svc, .int .i64 x.host] 53)).grownBy Z (Value.ownBlock (.slice A l.length c))) :
    OutAt g V (Z.setCell ⟨g, 1, none⟩ (.slice (some ⟨g4, 0, none⟩) (l.length + 1) cap)) hs (some ⟨g4, 0, none⟩) cap (l ++ [x]) := by
  have hlt := at_lt h.2.1
  have hZ : Below (g + 1) wr Z := ((Below.refl (g + 1) wr).alloc (by omega) _).grown hgrow (by simp; omega) (fun k hk => (ownsRow_lt h.2.2 hk).1)
  have e : (l ++ [x]).length = l.length + 1 := by simp
  have hZ' : Below g wr Z := hZ.mono (Nat.le_succ g)
  refine ⟨h.1.trans (hZ'.setCell (p := ⟨g, 1, none⟩) (Nat.le_refl _) _), ?_, ?_⟩
  · rw [e]
    exact set_field (o := 1) ((hZ.block g (by omega)).trans h.2.1) _
  · rw [e, cellsV_append]
    exact ownsRow_setCell_below hown (a := ⟨g, 1, none⟩) (by show g < g + 1; omega) _
theorem filter_take {l : List Rep} {k : Nat} {x z : Rep} (h : l[k]? = some z) : (l.take (k + 1)).filter (fun y => decide (y ≠ x)) = (l.take k).filter (fun y => decide (y ≠ x)) ++ if z = x then [] else [z] := by
  rw [List.take_add_one, h, List.filter_append]
  by_cases e : z = x <;> simp [e]
theorem filter_take_len (l : List Rep) (k : Nat) (x : Rep) : ((l.take k).filter (fun y => decide (y ≠ x))).length ≤ l.length :=
  Nat.le_trans (List.length_filter_le _ _) (by rw [List.length_take]; omega)
set_option maxHeartbeats 16000000 in
theorem c_wrStop (p : WP) (d : WorldD) (x : Rep) (hm : d.reps.length ≤ 1000) (hm2 : d.hosts.length ≤ 1000) (w : World) (h : WoAt w p d) :
    Calls Tryz.prog 22 #[.agg (woA p d), .agg #[.int .i64 x.svc, .int .i64 x.host]] w (ResW w (stopP d x)) := by
  unfold woA
  obtain ⟨W1, h1⟩ : ∃ W, W = w.alloc (.cells (woA p d) 36) := ⟨_, rfl⟩
  obtain ⟨W2, h2⟩ : ∃ W, W = W1.alloc (.cells #[.int .i64 x.svc, .int .i64 x.host] 53) := ⟨_, rfl⟩
  obtain ⟨W, h3⟩ : ∃ W, W = W2.alloc (.cells #[.slice none 0 0, .slice none 0 0] 36) := ⟨_, rfl⟩
  obtain ⟨B0, b1, b2, b3⟩ := three_boxes h1 h2 h3
  have HB := Lib.hid B0
  have hle := B0.size
  have HF := Lib.hid (fun (X : World) (hX : Below W.heap.size W X) => (⟨cell_of (box_on b1 hX (Nat.le_refl _)) rfl, cell_of (box_on b1 hX (Nat.le_refl _)) rfl, cell_of (box_on b2 hX (Nat.le_refl _)) rfl, cell_of (box_on b2 hX (Nat.le_refl _)) rfl, cell_of (box_on b3 hX (Nat.le_refl _)) rfl, cell_of (box_on b3 hX (Nat.le_refl _)) rfl, frz (box_on b3 hX (Nat.le_refl _)) 0, frz (box_on b3 hX (Nat.le_refl _)) 1⟩ : X.cell? ⟨w.heap.size, 0, none⟩ = some (.slice p.a1 d.hosts.length p.c1) ∧ X.cell? ⟨w.heap.size, 1, none⟩ = some (.slice p.a2 d.reps.length p.c2) ∧ X.cell? ⟨w.heap.size + 1, 0, none⟩ = some (.int .i64 x.svc) ∧ X.cell? ⟨w.heap.size + 1, 1, none⟩ = some (.int .i64 x.host) ∧ X.cell? ⟨w.heap.size + 1 + 1, 0, none⟩ = some (.slice none 0 0) ∧ X.cell? ⟨w.heap.size + 1 + 1, 1, none⟩ = some (.slice none 0 0) ∧ X.frozen? ⟨w.heap.size + 1 + 1, 0, none⟩ = false ∧ X.frozen? ⟨w.heap.size + 1 + 1, 1, none⟩ = false))
  have HV := Lib.hid (fun (X : World) (hX : Below W.heap.size W X) => box_on b3 hX (Nat.le_refl _))
  have H := Lib.hid (h.on B0 (Nat.le_refl _))
  have n1 := h.hosts.1; have n2 := h.hosts.2.1; have n3 := h.reps.1; have n4 := h.reps.2.1
  unfold maxLen at n2 n4
  have KW := Lib.hid (Below.refl W.heap.size W)
  obtain ⟨f0, f1, y0, y1, v0, v1, u0, u1⟩ := HF.out W KW.out
  clear h B0 b1 b2 b3
  unfold woA at h1
  rw [h3, h2, h1] at f0 f1 y0 y1 v0 v1 u0 u1
  have HZZ := Lib.hid (show ∀ (n : Int) (X : World), stopP d x = (zeroD, n) → Below W.heap.size W X → ResW w (stopP d x) (.returned (.tuple #[.agg #[.slice none 0 0, .slice none 0 0], .int .i64 n])) ((X.setCell ⟨w.heap.size + 1 + 1, 0, none⟩ (.slice none 0 0)).setCell ⟨w.heap.size + 1 + 1, 1, none⟩ (.slice none 0 0)) from fun n X hq hX => resW_zero hq (ends2 (below_join HB.out hX HB.out.size) (by omega) _ _))
  obtain ⟨R, hR⟩ : ∃ R, R = ResW w (stopP d x) := ⟨_, rfl⟩
  rw [← hR] at HZZ ⊢
  have HRR := Lib.hid hR
  clear hR
  obtain ⟨r1, hr1⟩ : ∃ b, ascB d.reps = b := ⟨_, rfl⟩
  have Q1 := Lib.hid hr1
  clear hr1
  generalize hA : w.heap.size = B at *
  go_enter Tryz.func22, Tryz.ntmps22
  go_wp2_with (fail)
  rw [← h1, ← h2, ← h3] at f0 f1 y0 y1 v0 v1 u0 u1 ⊢
  clear h1 h2 h3
  go_at_call 36
  refine (c_Ascending p.a2 p.c2 d.reps r1 Q1.out W H.out.reps).mono ?_
  rintro e w1 ⟨rfl, b1⟩
  have K1 := Lib.hid b1
  clear b1 f0 f1 y0 y1 v0 v1 u0 u1
  obtain ⟨f0, f1, y0, y1, v0, v1, u0, u1⟩ := HF.out w1 K1.out
  cases r1
  · go_wp2_with (fail)
    refine ret2t (i := 4) (b := B + 1 + 1) (j := 5) rfl rfl rfl rfl (row_store2 (HV.out w1 K1.out) _ _) ?_
    exact HZZ.out 1 w1 (by unfold stopP; rw [Q1.out]; rfl) K1.out
  go_wp2_with (fail)
  obtain ⟨r2, hr2⟩ : ∃ b, hasB d.reps x = b := ⟨_, rfl⟩
  have Q2 := Lib.hid hr2
  clear hr2
  go_at_call 37
  refine (show Calls Tryz.prog 37 #[.agg #[.slice p.a1 d.hosts.length p.c1, .slice p.a2 d.reps.length p.c2], .agg #[.int .i64 x.svc, .int .i64 x.host]] w1 _ from c_wrHas p d x r2 Q2.out w1 (H.out.on K1.out (Nat.le_refl _))).mono ?_
  rintro e w2 ⟨rfl, b2⟩
  have K2 := Lib.hid (below_join K1.out b2 K1.out.size)
  clear b2 f0 f1 y0 y1 v0 v1 u0 u1
  obtain ⟨f0, f1, y0, y1, v0, v1, u0, u1⟩ := HF.out w2 K2.out
  cases r2
  · go_wp2_with (fail)
    refine ret2t (i := 4) (b := B + 1 + 1) (j := 5) rfl rfl rfl rfl (row_store2 (HV.out w2 K2.out) _ _) ?_
    exact HZZ.out 7 w2 (by unfold stopP; rw [Q1.out, Q2.out]; rfl) K2.out
  go_wp2_with (fail)
  go_at_call 38
  refine (c_CopyTo p d hm hm2 w2 (H.out.on K2.out (Nat.le_refl _))).mono ?_
  rintro e w3 ⟨A1, c1, A2, c2, rfl, o3, b3⟩
  have K3 := Lib.hid (below_join K2.out b3 K2.out.size)
  have O3 := Lib.hid o3.1
  have HLT := Lib.hid (at_lt (HV.out w2 K2.out))
  have HW23 := Lib.hid b3.size
  have HWW2 := Lib.hid (show W.heap.size ≤ w2.heap.size from K2.out.size)
  clear b3 o3 f0 f1 y0 y1 v0 v1 u0 u1
  obtain ⟨f0, f1, y0, y1, v0, v1, u0, u1⟩ := HF.out w3 K3.out
  obtain ⟨ir, hir, hr0, hr1, hr2⟩ := info_parts rep_info
  obtain ⟨g, hg⟩ : ∃ g, w3.heap.size = g := ⟨_, rfl⟩
  have HGE := Lib.hid hg
  have HO0 := Lib.hid (show OutAt g w3 (w3.alloc (.cells #[.slice A1 d.hosts.length c1, .slice none 0 0] 36)) (.slice A1 d.hosts.length c1) none 0 ([] : List Rep) from ⟨by rw [← hg]; exact (Below.refl _ _).alloc (Nat.le_refl _) _, by rw [← hg]; exact box_new _ _ _, World.ownsRow_nil _ _ _ _⟩)
  go_wp2_with (fail)
  clear hg f0 f1 y0 y1 v0 v1 u0 u1
  go_loopw [7] (fun i wr => ∃ k : Nat, k ≤ d.reps.length ∧ i = .int .i64 (k : Int) ∧ ∃ A c, Hid (OutAt g w3 wr (.slice A1 d.hosts.length c1) A c ((d.reps.take k).filter (fun y => decide (y ≠ x))))) (fun i _ => d.reps.length - (intOf i).toNat)
  case atStart => exact ⟨0, Nat.zero_le _, rfl, _, _, HO0⟩
  case round =>
    obtain ⟨k, hk, rfl, A, c, hO⟩ := hrel
    have hki : ((k : Nat) : Int).toNat = k := by omega
    have hK := Lib.hid (below_join K3.out hO.out.1 (by rw [← HGE.out]; exact K3.out.size))
    obtain ⟨f0, f1, y0, y1, v0, v1, u0, u1⟩ := HF.out wr hK.out
    by_cases hlt : k < d.reps.length
    · obtain ⟨z, hz⟩ : ∃ z, d.reps[k]? = some z := ⟨_, List.getElem?_eq_getElem hlt⟩
      have HK := (H.out.on hK.out (Nat.le_refl _)).reps
      obtain ⟨b, oo, e0, -, -⟩ := HK.at_ hz
      rw [e0] at HK f1
      obtain ⟨z0, z1⟩ := rep_at HK hz
      have HZ := Lib.hid hz
      have hkl : (k : Int) < ((d.reps.length : Nat) : Int) := by omega
      have hln := filter_take_len d.reps k x
      have hft := Lib.hid (filter_take (x := x) hz)
      have HE0 := Lib.hid e0
      clear hz HK e0
      have g1 := guardRp
      have g2 := neqRp
      rcases hxz : ((z.svc == x.svc) && (z.host == x.host)) with _ | _
      · have hne : z ≠ x := by rintro rfl; simp at hxz
        have hO2 := Lib.hid (show (d.reps.take (k + 1)).filter (fun y => decide (y ≠ x)) = (d.reps.take k).filter (fun y => decide (y ≠ x)) ++ [z] by rw [hft.out, if_neg hne])
        obtain ⟨l, hl⟩ : ∃ l, (d.reps.take k).filter (fun y => decide (y ≠ x)) = l := ⟨_, rfl⟩
        rw [hl] at hO2 hO hln
        clear hl hne
        have m0 := cell_of hO.out.2.1 (o := 0) rfl
        have m1 := cell_of hO.out.2.1 (o := 1) rfl
        have q0 := frz hO.out.2.1 0
        have q1 := frz hO.out.2.1 1
        have hgl := at_lt hO.out.2.1
        go_wp2_with (fail)
        go_quiet (fail)
        go_wp2_with (fail)
        have hOD := Lib.hid (hO.out.drewN (nq + 1))
        have ma : ((wr.drewN (nq + 1)).alloc (.cells #[.int .i64 z.svc, .int .i64 z.host] 53)).cell? ⟨g, 1, none⟩ = some (.slice A l.length c) := cell_of (old_heap _ hOD.out.2.1) rfl
        clear f0 v0 v1 u0 u1 y0 y1
        go_region_law (refine step_append_lies _ rfl (.tmp 36) (.tmp 42) 34 rfl (g + 1) 53 ir (.agg #[.int .i64 0, .int .i64 0]) 2 16 Tryz.underlying34 hir hr0 hr1 hr2 rfl (by decide) (.slice A l.length c) l.length (cellsV 2 repV l) (by simp [Act.eval, Act.put]) (hOD.out.2.2.alloc _) ⟨wr.heap.size, 0, none⟩ 1 1 [.int .i64 z.svc, .int .i64 z.host] (by simp [Act.eval, Act.put]) rfl (World.news_of_block (heap_alloc_new _ _)) (by intro u hu; simp at hu; rcases hu with rfl | rfl <;> rfl) (by omega) (by unfold maxLen; omega) (by omega) (by (try simp) <;> omega) _ rfl ?_; intro g4 cap4 Z hown hgrow _ _; have HP := Lib.hid (hOD.out.push z hown hgrow); have k6 := (hgrow.block g (by (try simp) <;> omega) (fun e => by have := (ownsRow_lt hOD.out.2.2 e.symm).1; omega)).trans (old_heap _ hOD.out.2.1); have d0 := cell_of k6 (o := 1) rfl; have d1 := frz k6 1; clear hown hgrow k6)
        all_goals go_wp2_with (fail)
        all_goals (refine ⟨⟨k + 1, by omega, by go_num, some ⟨g4, 0, none⟩, cap4, Lib.hid ?_⟩, by simp only [intOf]; omega⟩; rw [hO2.out]; exact HP.out)
      · have hzx : z = x := by rw [rep_beq] at hxz; exact of_decide_eq_true hxz
        have hO2 := Lib.hid (show OutAt g w3 wr (.slice A1 d.hosts.length c1) A c ((d.reps.take (k + 1)).filter (fun y => decide (y ≠ x))) by rw [hft.out, if_pos hzx, List.append_nil]; exact hO.out)
        go_wp2_with (fail)
        go_quiet (fail)
        go_wp2_with (fail)
        go_roundw
        case rel => exact ⟨k + 1, by omega, by go_num, A, c, Lib.hid (hO2.out.drewN _)⟩
        case measure => simp only [intOf]; omega
    · obtain rfl : k = d.reps.length := by omega
      have hO2 := Lib.hid (show OutAt g w3 wr (.slice A1 d.hosts.length c1) A c (stopL d.reps x) by
        have := hO.out
        rwa [List.take_length, stopL_filter (asc_iff.1 Q1.out) (of_decide_eq_true (show decide (x ∈ d.reps) = true from Q2.out))] at this)
      have m0 := cell_of hO2.out.2.1 (o := 0) rfl
      have m1 := cell_of hO2.out.2.1 (o := 1) rfl
      go_wp2_with (fail)
      refine ret2t (i := 4) (b := B + 1 + 1) (j := 5) rfl rfl rfl rfl (row_store2 (HV.out wr hK.out) _ _) ?_
      rw [HRR.out]
      have hq : stopP d x = (⟨d.hosts, stopL d.reps x⟩, 0) := by unfold stopP; rw [Q1.out, Q2.out, if_pos (by rfl), if_pos (by rfl)]
      rw [hq]
      have e1 := HLT.out
      have e2 := HW23.out
      have e3 := HWW2.out
      have e5 := HGE.out
      have e6 : World.ownsRow wr w2.heap.size 58 2 (.slice A1 d.hosts.length c1) d.hosts.length (cellsV 2 hstV d.hosts) := own_on O3.out hO2.out.1 (by omega)
      refine ⟨⟨A1, c1, A, c⟩, rfl, ⟨?_, ?_⟩, ?_⟩
      · exact own_mono (ownsRow_setCell_below (ownsRow_setCell_below e6 (a := ⟨B + 1 + 1, 0, none⟩) (by show B + 1 + 1 < _; omega) _) (a := ⟨B + 1 + 1, 1, none⟩) (by show B + 1 + 1 < _; omega) _) (by omega)
      · exact own_mono (ownsRow_setCell_below (ownsRow_setCell_below hO2.out.2.2 (a := ⟨B + 1 + 1, 0, none⟩) (by show B + 1 + 1 < _; omega) _) (a := ⟨B + 1 + 1, 1, none⟩) (by show B + 1 + 1 < _; omega) _) (by omega)
      · rw [hA]; exact ends2 (below_join HB.out hK.out hle) (by omega) _ _
end Go.Proofs.YtbbadnlaelgmlaaGreat

namespace Go.Proofs.YtbbadnlaelgmlaaGreat
open Go.RowKit
set_option maxRecDepth 100000
set_option linter.unusedVariables false
set_option linter.unusedSimpArgs false

theorem OutAt.on {g : Nat} {V wr X : World} {hs : Value} {A : Option Addr} {c : Nat} {l : List Rep} (h : OutAt g V wr hs A c l) (hb : Below wr.heap.size wr X) : OutAt g V X hs A c l :=
  ⟨below_join h.1 hb (by have := at_lt h.2.1; omega), box_on h.2.1 hb (Nat.le_refl _), own_on h.2.2 hb (Nat.le_refl _)⟩
theorem OutAt.eq {g : Nat} {V wr : World} {hs : Value} {A : Option Addr} {c : Nat} {l m : List Rep} (h : OutAt g V wr hs A c l) (e : l = m) : OutAt g V wr hs A c m := e ▸ h
theorem mid_take {l : List Rep} {P t : Nat} {x z : Rep} (h : l[P + t]? = some z) : l.take P ++ x :: (l.drop P).take (t + 1) = (l.take P ++ x :: (l.drop P).take t) ++ [z] := by
  rw [List.take_add_one, List.getElem?_drop, h]; simp
set_option maxHeartbeats 16000000 in
theorem c_wrStart (p : WP) (d : WorldD) (x : Rep) (hm : d.reps.length ≤ 1000) (hm2 : d.hosts.length ≤ 1000) (w : World) (h : WoAt w p d) :
    Calls Tryz.prog 23 #[.agg (woA p d), .agg #[.int .i64 x.svc, .int .i64 x.host]] w (ResW w (startP d x)) := by
  unfold woA
  obtain ⟨W1, h1⟩ : ∃ W, W = w.alloc (.cells (woA p d) 36) := ⟨_, rfl⟩
  obtain ⟨W2, h2⟩ : ∃ W, W = W1.alloc (.cells #[.int .i64 x.svc, .int .i64 x.host] 53) := ⟨_, rfl⟩
  obtain ⟨W, h3⟩ : ∃ W, W = W2.alloc (.cells #[.slice none 0 0, .slice none 0 0] 36) := ⟨_, rfl⟩
  obtain ⟨B0, b1, b2, b3⟩ := three_boxes h1 h2 h3
  have HB := Lib.hid B0
  have hle := B0.size
  have HF := Lib.hid (fun (X : World) (hX : Below W.heap.size W X) => (⟨cell_of (box_on b1 hX (Nat.le_refl _)) rfl, cell_of (box_on b1 hX (Nat.le_refl _)) rfl, cell_of (box_on b2 hX (Nat.le_refl _)) rfl, cell_of (box_on b2 hX (Nat.le_refl _)) rfl, cell_of (box_on b3 hX (Nat.le_refl _)) rfl, cell_of (box_on b3 hX (Nat.le_refl _)) rfl, frz (box_on b3 hX (Nat.le_refl _)) 0, frz (box_on b3 hX (Nat.le_refl _)) 1⟩ : X.cell? ⟨w.heap.size, 0, none⟩ = some (.slice p.a1 d.hosts.length p.c1) ∧ X.cell? ⟨w.heap.size, 1, none⟩ = some (.slice p.a2 d.reps.length p.c2) ∧ X.cell? ⟨w.heap.size + 1, 0, none⟩ = some (.int .i64 x.svc) ∧ X.cell? ⟨w.heap.size + 1, 1, none⟩ = some (.int .i64 x.host) ∧ X.cell? ⟨w.heap.size + 1 + 1, 0, none⟩ = some (.slice none 0 0) ∧ X.cell? ⟨w.heap.size + 1 + 1, 1, none⟩ = some (.slice none 0 0) ∧ X.frozen? ⟨w.heap.size + 1 + 1, 0, none⟩ = false ∧ X.frozen? ⟨w.heap.size + 1 + 1, 1, none⟩ = false))
  have HV := Lib.hid (fun (X : World) (hX : Below W.heap.size W X) => box_on b3 hX (Nat.le_refl _))
  have H := Lib.hid (h.on B0 (Nat.le_refl _))
  have n1 := h.hosts.1; have n2 := h.hosts.2.1; have n3 := h.reps.1; have n4 := h.reps.2.1
  unfold maxLen at n2 n4
  have KW := Lib.hid (Below.refl W.heap.size W)
  obtain ⟨f0, f1, y0, y1, v0, v1, u0, u1⟩ := HF.out W KW.out
  clear h B0 b1 b2 b3
  unfold woA at h1
  rw [h3, h2, h1] at f0 f1 y0 y1 v0 v1 u0 u1
  have HZZ := Lib.hid (show ∀ (n : Int) (X : World), startP d x = (zeroD, n) → Below W.heap.size W X → ResW w (startP d x) (.returned (.tuple #[.agg #[.slice none 0 0, .slice none 0 0], .int .i64 n])) ((X.setCell ⟨w.heap.size + 1 + 1, 0, none⟩ (.slice none 0 0)).setCell ⟨w.heap.size + 1 + 1, 1, none⟩ (.slice none 0 0)) from fun n X hq hX => resW_zero hq (ends2 (below_join HB.out hX HB.out.size) (by omega) _ _))
  obtain ⟨R, hR⟩ : ∃ R, R = ResW w (startP d x) := ⟨_, rfl⟩
  rw [← hR] at HZZ ⊢
  have HRR := Lib.hid hR
  clear hR
  obtain ⟨r1, hr1⟩ : ∃ b, ascB d.reps = b := ⟨_, rfl⟩
  have Q1 := Lib.hid hr1
  clear hr1
  generalize hA : w.heap.size = B at *
  go_enter Tryz.func23, Tryz.ntmps23
  go_wp2_with (fail)
  rw [← h1, ← h2, ← h3] at f0 f1 y0 y1 v0 v1 u0 u1 ⊢
  clear h1 h2 h3
  go_at_call 36
  refine (c_Ascending p.a2 p.c2 d.reps r1 Q1.out W H.out.reps).mono ?_
  rintro e w1 ⟨rfl, b1⟩
  have K1 := Lib.hid b1
  clear b1 f0 f1 y0 y1 v0 v1 u0 u1
  obtain ⟨f0, f1, y0, y1, v0, v1, u0, u1⟩ := HF.out w1 K1.out
  cases r1
  · go_wp2_with (fail)
    refine ret2t (i := 4) (b := B + 1 + 1) (j := 5) rfl rfl rfl rfl (row_store2 (HV.out w1 K1.out) _ _) ?_
    exact HZZ.out 1 w1 (by unfold startP; rw [Q1.out]; rfl) K1.out
  rcases hs : decide (x.svc < 0) with _ | _
  rotate_left
  · have HS := Lib.hid hs
    go_wp2_with (fail)
    refine ret2t (i := 4) (b := B + 1 + 1) (j := 5) rfl rfl rfl rfl (row_store2 (HV.out w1 K1.out) _ _) ?_
    exact HZZ.out 1 w1 (by unfold startP; rw [HS.out, Q1.out]; rfl) K1.out
  rcases ht : decide (x.host < 0) with _ | _
  rotate_left
  · have HT := Lib.hid ht
    go_wp2_with (fail)
    refine ret2t (i := 4) (b := B + 1 + 1) (j := 5) rfl rfl rfl rfl (row_store2 (HV.out w1 K1.out) _ _) ?_
    exact HZZ.out 1 w1 (by unfold startP; rw [HT.out]; simp) K1.out
  have HS := Lib.hid hs
  have HT := Lib.hid ht
  go_wp2_with (fail)
  clear hs ht
  obtain ⟨r2, hr2⟩ : ∃ b, hasB d.reps x = b := ⟨_, rfl⟩
  have Q2 := Lib.hid hr2
  clear hr2
  go_at_call 37
  refine (show Calls Tryz.prog 37 #[.agg #[.slice p.a1 d.hosts.length p.c1, .slice p.a2 d.reps.length p.c2], .agg #[.int .i64 x.svc, .int .i64 x.host]] w1 _ from c_wrHas p d x r2 Q2.out w1 (H.out.on K1.out (Nat.le_refl _))).mono ?_
  rintro e w2 ⟨rfl, b2⟩
  have K2 := Lib.hid (below_join K1.out b2 K1.out.size)
  clear b2 f0 f1 y0 y1 v0 v1 u0 u1
  obtain ⟨f0, f1, y0, y1, v0, v1, u0, u1⟩ := HF.out w2 K2.out
  cases r2
  rotate_left
  · go_wp2_with (fail)
    refine ret2t (i := 4) (b := B + 1 + 1) (j := 5) rfl rfl rfl rfl (row_store2 (HV.out w2 K2.out) _ _) ?_
    exact HZZ.out 6 w2 (by unfold startP; rw [Q1.out, Q2.out, HS.out, HT.out]; rfl) K2.out
  by_cases hl : 24 ≤ d.reps.length
  · have hd : decide ((24 : Int) ≤ (d.reps.length : Int)) = true := decide_eq_true (by omega)
    have HL := Lib.hid hl
    clear hl
    go_wp2_with (fail)
    refine ret2t (i := 4) (b := B + 1 + 1) (j := 5) rfl rfl rfl rfl (row_store2 (HV.out w2 K2.out) _ _) ?_
    exact HZZ.out 9 w2 (by unfold startP; rw [Q1.out, Q2.out, HS.out, HT.out, if_pos (by rfl), if_neg (by simp), if_pos HL.out]) K2.out
  have hd : decide ((24 : Int) ≤ (d.reps.length : Int)) = false := decide_eq_false (by omega)
  have HL := Lib.hid hl
  clear hl
  go_wp2_with (fail)
  go_at_call 38
  refine (c_CopyTo p d hm hm2 w2 (H.out.on K2.out (Nat.le_refl _))).mono ?_
  rintro e w3 ⟨A1, c1, A2, c2, rfl, o3, b3⟩
  have K3 := Lib.hid (below_join K2.out b3 K2.out.size)
  have O3 := Lib.hid o3.1
  have HLT := Lib.hid (at_lt (HV.out w2 K2.out))
  have HW23 := Lib.hid b3.size
  have HWW2 := Lib.hid (show W.heap.size ≤ w2.heap.size from K2.out.size)
  clear b3 o3 f0 f1 y0 y1 v0 v1 u0 u1 hd
  obtain ⟨f0, f1, y0, y1, v0, v1, u0, u1⟩ := HF.out w3 K3.out
  obtain ⟨ir, hir, hr0, hr1, hr2⟩ := info_parts rep_info
  obtain ⟨g, hg⟩ : ∃ g, w3.heap.size = g := ⟨_, rfl⟩
  have HGE := Lib.hid hg
  have HO0 := Lib.hid (show OutAt g w3 (w3.alloc (.cells #[.slice A1 d.hosts.length c1, .slice none 0 0] 36)) (.slice A1 d.hosts.length c1) none 0 ([] : List Rep) from ⟨by rw [← hg]; exact (Below.refl _ _).alloc (Nat.le_refl _) _, by rw [← hg]; exact box_new _ _ _, World.ownsRow_nil _ _ _ _⟩)
  go_wp2_with (fail)
  clear hg f0 f1 y0 y1 v0 v1 u0 u1
  obtain ⟨P, hPD⟩ : ∃ P, plc d.reps x = P := ⟨_, rfl⟩
  have hPl : P ≤ d.reps.length := by rw [← hPD]; exact plc_le _ _
  have HPD := Lib.hid hPD
  have HPB := Lib.hid (show ∀ (k : Nat) (z : Rep), d.reps[k]? = some z → k ≤ P → lessR z x = decide (k < P) from fun k z hz hk => by
    by_cases h : k < P
    · rw [decide_eq_true h]; exact plc_below (by rw [hPD]; exact h) hz
    · rw [decide_eq_false h]; exact plc_above (asc_iff.1 Q1.out) (by rw [hPD]; omega) hz)
  clear hPD
  go_loopw [7] (fun i wr => ∃ k : Nat, k ≤ P ∧ i = .int .i64 (k : Int) ∧ ∃ A c, Hid (OutAt g w3 wr (.slice A1 d.hosts.length c1) A c (d.reps.take k))) (fun i _ => d.reps.length - (intOf i).toNat)
  case atStart => exact ⟨0, Nat.zero_le _, rfl, _, _, HO0⟩
  case round =>
    obtain ⟨k, hk, rfl, A, c, hO⟩ := hrel
    have hki : ((k : Nat) : Int).toNat = k := by omega
    have hK := Lib.hid (below_join K3.out hO.out.1 (by rw [← HGE.out]; exact K3.out.size))
    obtain ⟨f0, f1, y0, y1, v0, v1, u0, u1⟩ := HF.out wr hK.out
    by_cases hlt : k < d.reps.length
    · obtain ⟨z, hz⟩ : ∃ z, d.reps[k]? = some z := ⟨_, List.getElem?_eq_getElem hlt⟩
      have HK := (H.out.on hK.out (Nat.le_refl _)).reps
      obtain ⟨b, oo, e0, -, -⟩ := HK.at_ hz
      have HRP := Lib.hid (fun (X : World) (hX : Below W.heap.size W X) => (⟨by have := (HF.out X hX).2.1; rwa [e0] at this, (rep_at (by have := (H.out.on hX (Nat.le_refl _)).reps; rwa [e0] at this) hz).1, (rep_at (by have := (H.out.on hX (Nat.le_refl _)).reps; rwa [e0] at this) hz).2, (HF.out X hX).2.2.1, (HF.out X hX).2.2.2.1⟩ : X.cell? ⟨B, 1, none⟩ = some (.slice (some ⟨b, oo, none⟩) d.reps.length p.c2) ∧ X.cell? ⟨b, oo + k * 2, none⟩ = some (.int .i64 z.svc) ∧ X.cell? ⟨b, oo + k * 2 + 1, none⟩ = some (.int .i64 z.host) ∧ X.cell? ⟨B + 1, 0, none⟩ = some (.int .i64 x.svc) ∧ X.cell? ⟨B + 1, 1, none⟩ = some (.int .i64 x.host)))
      have hkl : (k : Int) < ((d.reps.length : Nat) : Int) := by omega
      have hO2 := Lib.hid (show d.reps.take (k + 1) = d.reps.take k ++ [z] by rw [List.take_add_one, hz]; rfl)
      obtain ⟨rr, hrr⟩ : ∃ b, lessR z x = b := ⟨_, rfl⟩
      have HRD := Lib.hid (show rr = decide (k < P) by rw [← hrr]; exact HPB.out k z hz hk)
      have HRE := Lib.hid hrr
      clear hz HK e0 hrr f0 f1 y0 y1 v0 v1 u0 u1
      obtain ⟨f1, z0, z1, y0, y1⟩ := HRP.out wr hK.out
      go_wp2_with (fail)
      go_region_held3 (fun X => X.cell? ⟨B, 1, none⟩ = some (.slice (some ⟨b, oo, none⟩) d.reps.length p.c2) ∧ X.cell? ⟨b, oo + k * 2, none⟩ = some (.int .i64 z.svc) ∧ X.cell? ⟨b, oo + k * 2 + 1, none⟩ = some (.int .i64 z.host) ∧ X.cell? ⟨B + 1, 0, none⟩ = some (.int .i64 x.svc) ∧ X.cell? ⟨B + 1, 1, none⟩ = some (.int .i64 x.host))
        (first | exact HRP.out w4 HK4.out | exact HRP.out wr hK.out | fail)
        (first
          | (go_at_call 39; (with_reducible refine (c_Less z x rr HRE.out wr.drew).mono ?_); rintro e w4 ⟨rfl, bb0⟩; have bb := below_join (Below.refl wr.heap.size wr).drew bb0 (Nat.le_refl _); have HK4 := Lib.hid (below_join hK.out bb hK.out.size); have HO4 := Lib.hid (hO.out.on bb); clear bb bb0)
          | fail)
      clear f1 z0 z1 y0 y1
      cases rr
      · obtain rfl : P = k := by have := of_decide_eq_false HRD.out.symm; omega
        have hds : (World.drew wr).heap.size = wr.heap.size := rfl
        have hll : (d.reps.take P).length = P := by rw [List.length_take]; omega
        have HO1 := Lib.hid (show OutAt g w3 w4 (.slice A1 d.hosts.length c1) A c (d.reps.take P) from HO4.out)
        have HKK := Lib.hid (show Below W.heap.size W w4 from HK4.out)
        obtain ⟨lp, hlp⟩ : ∃ lp, lp = d.reps.take P := ⟨_, rfl⟩
        rw [← hlp] at HO1 hll
        have HLP := Lib.hid hlp
        have m0 := cell_of HO1.out.2.1 (o := 0) rfl
        have m1 := cell_of HO1.out.2.1 (o := 1) rfl
        rw [hll] at m1
        have q1 := frz HO1.out.2.1 1
        have hgl := at_lt HO1.out.2.1
        have HWS := Lib.hid hgl
        obtain ⟨f0, f1, y0, y1, v0, v1, u0, u1⟩ := HF.out w4 HKK.out
        clear hlp f0 f1 v0 v1 u0 u1
        go_wp2_with (at_builtin; refine wpList_append_lies _ rfl _ _ 34 rfl (g + 1) 53 ir (.agg #[.int .i64 0, .int .i64 0]) 2 16 Tryz.underlying34 hir hr0 hr1 hr2 rfl (by decide) (.slice A P c) P (cellsV 2 repV lp) rfl (by have := HO1.out.2.2; rw [hll] at this; exact this.alloc _) ⟨World.heap w4 |>.size, 0, none⟩ 1 1 [.int .i64 x.svc, .int .i64 x.host] rfl rfl (World.news_of_block (heap_alloc_new _ _)) (by intro u hu; simp at hu; rcases hu with rfl | rfl <;> rfl) (by decide) (by unfold maxLen; omega) (by omega) (by (try simp) <;> omega) _ rfl ?_; intro g5 cap5 Z5 hown hgrow _ _; have HP5 := Lib.hid (HO1.out.push x (by rw [hll]; exact hown) (by rw [hll]; exact hgrow)); have k6 := (hgrow.block g (by (try simp) <;> omega) (fun e => by have := (ownsRow_lt HO1.out.2.2 (by rw [hll]; exact e.symm)).1; omega)).trans (old_heap _ HO1.out.2.1); have d0 := cell_of k6 (o := 1) rfl; have d1 := frz k6 1; clear hown hgrow k6 m0 m1 q1 y0 y1)
        go_loopw [9] (fun j wr => ∃ t : Nat, P + t ≤ d.reps.length ∧ j = .int .i64 ((P + t : Nat) : Int) ∧ ∃ A c, Hid (OutAt g w3 wr (.slice A1 d.hosts.length c1) A c (d.reps.take P ++ x :: (d.reps.drop P).take t))) (fun j _ => d.reps.length - (intOf j).toNat)
        case atStart => exact ⟨0, by omega, rfl, _, _, Lib.hid (OutAt.eq (by have := HP5.out; rw [hll] at this; exact this) (by rw [HLP.out]; simp))⟩
        case round =>
          obtain ⟨t, ht, rfl, A, c, hO⟩ := hrel
          obtain ⟨k, hkt⟩ : ∃ k, P + t = k := ⟨_, rfl⟩
          have HKT := Lib.hid hkt
          rw [hkt] at ht ⊢
          clear hkt
          have hki : ((k : Nat) : Int).toNat = k := by omega
          have hK := Lib.hid (below_join K3.out hO.out.1 (by rw [← HGE.out]; exact K3.out.size))
          obtain ⟨f0, f1, y0, y1, v0, v1, u0, u1⟩ := HF.out wr hK.out
          by_cases hlt : k < d.reps.length
          · obtain ⟨z, hz⟩ : ∃ z, d.reps[k]? = some z := ⟨_, List.getElem?_eq_getElem hlt⟩
            have HK := (H.out.on hK.out (Nat.le_refl _)).reps
            obtain ⟨b, oo, e0, -, -⟩ := HK.at_ hz
            rw [e0] at HK f1
            obtain ⟨z0, z1⟩ := rep_at HK hz
            have hkl : (k : Int) < ((d.reps.length : Nat) : Int) := by omega
            have hO2 := Lib.hid (mid_take (x := x) (P := P) (t := t) (z := z) (by rw [HKT.out]; exact hz))
            obtain ⟨l, hl⟩ : ∃ l, d.reps.take P ++ x :: (d.reps.drop P).take t = l := ⟨_, rfl⟩
            have hln : l.length ≤ 2000 := by rw [← hl]; simp; omega
            rw [hl] at hO2 hO
            clear hl hz HK e0
            have m0 := cell_of hO.out.2.1 (o := 0) rfl
            have m1 := cell_of hO.out.2.1 (o := 1) rfl
            have q1 := frz hO.out.2.1 1
            have hgl := at_lt hO.out.2.1
            have hOD := Lib.hid (hO.out.drew)
            have ma : (World.drew wr |>.alloc (.cells #[.int .i64 z.svc, .int .i64 z.host] 53)).cell? ⟨g, 1, none⟩ = some (.slice A l.length c) := cell_of (old_heap _ hOD.out.2.1) rfl
            clear f0 v0 v1 u0 u1 y0 y1
            go_wp2_with (fail)
            go_region_law (refine step_append_lies _ rfl (.tmp 81) (.tmp 87) 34 rfl (g + 1) 53 ir (.agg #[.int .i64 0, .int .i64 0]) 2 16 Tryz.underlying34 hir hr0 hr1 hr2 rfl (by decide) (.slice A l.length c) l.length (cellsV 2 repV l) (by simp [Act.eval, Act.put]) (hOD.out.2.2.alloc _) ⟨wr.heap.size, 0, none⟩ 1 1 [.int .i64 z.svc, .int .i64 z.host] (by simp [Act.eval, Act.put]) rfl (World.news_of_block (heap_alloc_new _ _)) (by intro u hu; simp at hu; rcases hu with rfl | rfl <;> rfl) (by omega) (by unfold maxLen; omega) (by omega) (by (try simp) <;> omega) _ rfl ?_; intro g4 cap4 Z hown hgrow _ _; have HP := Lib.hid (hOD.out.push z hown hgrow); have k6 := (hgrow.block g (by (try simp) <;> omega) (fun e => by have := (ownsRow_lt hOD.out.2.2 e.symm).1; omega)).trans (old_heap _ hOD.out.2.1); have d0 := cell_of k6 (o := 1) rfl; have d1 := frz k6 1; clear hown hgrow k6)
            all_goals go_wp2_with (fail)
            all_goals (refine ⟨⟨t + 1, by have := HKT.out; omega, by have := HKT.out; go_num, some ⟨g4, 0, none⟩, cap4, Lib.hid ?_⟩, by simp only [intOf]; omega⟩; rw [hO2.out]; exact HP.out)
          · obtain rfl : k = d.reps.length := by omega
            have hO2 := Lib.hid (show OutAt g w3 wr (.slice A1 d.hosts.length c1) A c (startL d.reps x) by
              have h1 := hO.out
              have h2 := HKT.out
              refine OutAt.eq h1 ?_
              unfold startL
              rw [HPD.out, List.take_of_length_le (i := t) (by rw [List.length_drop]; omega)])
            have m0 := cell_of hO2.out.2.1 (o := 0) rfl
            have m1 := cell_of hO2.out.2.1 (o := 1) rfl
            go_wp2_with (fail)
            refine ret2t (i := 4) (b := B + 1 + 1) (j := 5) rfl rfl rfl rfl (row_store2 (HV.out wr hK.out) _ _) ?_
            rw [HRR.out]
            have hq : startP d x = (⟨d.hosts, startL d.reps x⟩, 0) := by unfold startP; rw [Q1.out, Q2.out, HS.out, HT.out, if_pos (by rfl), if_neg (by simp), if_neg HL.out]
            rw [hq]
            have e1 := HLT.out
            have e2 := HW23.out
            have e3 := HWW2.out
            have e5 := HGE.out
            have e6 : World.ownsRow wr w2.heap.size 58 2 (.slice A1 d.hosts.length c1) d.hosts.length (cellsV 2 hstV d.hosts) := own_on O3.out hO2.out.1 (by omega)
            refine ⟨⟨A1, c1, A, c⟩, rfl, ⟨?_, ?_⟩, ?_⟩
            · exact own_mono (ownsRow_setCell_below (ownsRow_setCell_below e6 (a := ⟨B + 1 + 1, 0, none⟩) (by show B + 1 + 1 < _; omega) _) (a := ⟨B + 1 + 1, 1, none⟩) (by show B + 1 + 1 < _; omega) _) (by omega)
            · exact own_mono (ownsRow_setCell_below (ownsRow_setCell_below hO2.out.2.2 (a := ⟨B + 1 + 1, 0, none⟩) (by show B + 1 + 1 < _; omega) _) (a := ⟨B + 1 + 1, 1, none⟩) (by show B + 1 + 1 < _; omega) _) (by omega)
            · rw [hA]; exact ends2 (below_join HB.out hK.out hle) (by omega) _ _
      · have hkP : k < P := of_decide_eq_true HRD.out.symm
        obtain ⟨l, hl⟩ : ∃ l, d.reps.take k = l := ⟨_, rfl⟩
        have hln : l.length ≤ 2000 := by rw [← hl, List.length_take]; omega
        rw [hl] at hO2 HO4
        clear hl
        obtain ⟨f1, z0, z1, y0, y1⟩ := HRP.out w4 HK4.out
        have m0 := cell_of HO4.out.2.1 (o := 0) rfl
        have m1 := cell_of HO4.out.2.1 (o := 1) rfl
        have q1 := frz HO4.out.2.1 1
        have hgl := at_lt HO4.out.2.1
        have hOD := Lib.hid (HO4.out.drew)
        have ma : (World.drew w4 |>.alloc (.cells #[.int .i64 z.svc, .int .i64 z.host] 53)).cell? ⟨g, 1, none⟩ = some (.slice A l.length c) := cell_of (old_heap _ hOD.out.2.1) rfl
        clear y0 y1
        go_wp2_with (fail)
        go_region_law (refine step_append_lies _ rfl (.tmp 54) (.tmp 60) 34 rfl (g + 1) 53 ir (.agg #[.int .i64 0, .int .i64 0]) 2 16 Tryz.underlying34 hir hr0 hr1 hr2 rfl (by decide) (.slice A l.length c) l.length (cellsV 2 repV l) (by simp [Act.eval, Act.put]) (hOD.out.2.2.alloc _) ⟨w4.heap.size, 0, none⟩ 1 1 [.int .i64 z.svc, .int .i64 z.host] (by simp [Act.eval, Act.put]) rfl (World.news_of_block (heap_alloc_new _ _)) (by intro u hu; simp at hu; rcases hu with rfl | rfl <;> rfl) (by omega) (by unfold maxLen; omega) (by omega) (by (try simp) <;> omega) _ rfl ?_; intro g4 cap4 Z hown hgrow _ _; have HP := Lib.hid (hOD.out.push z hown hgrow); have k6 := (hgrow.block g (by (try simp) <;> omega) (fun e => by have := (ownsRow_lt hOD.out.2.2 e.symm).1; omega)).trans (old_heap _ hOD.out.2.1); have d0 := cell_of k6 (o := 1) rfl; have d1 := frz k6 1; clear hown hgrow k6)
        all_goals go_wp2_with (fail)
        all_goals (refine ⟨⟨k + 1, by omega, by go_num, some ⟨g4, 0, none⟩, cap4, Lib.hid ?_⟩, by simp only [intOf]; omega⟩; rw [hO2.out]; exact HP.out)
    · obtain rfl : P = k := by omega
      have hkl : decide ((P : Int) < ((d.reps.length : Nat) : Int)) = false := decide_eq_false (by omega)
      clear f0 y0 y1 v0 v1 u0 u1
      go_wp2_with (fail)
      go_region
      have hds : (World.drew wr).heap.size = wr.heap.size := rfl
      have hll : (d.reps.take P).length = P := by rw [List.length_take]; omega
      have HO1 := Lib.hid (show OutAt g w3 (World.drew wr) (.slice A1 d.hosts.length c1) A c (d.reps.take P) from hO.out.drew)
      have HKK := Lib.hid (show Below W.heap.size W (World.drew wr) from hK.out.drew)
      obtain ⟨lp, hlp⟩ : ∃ lp, lp = d.reps.take P := ⟨_, rfl⟩
      rw [← hlp] at HO1 hll
      have HLP := Lib.hid hlp
      have m0 := cell_of HO1.out.2.1 (o := 0) rfl
      have m1 := cell_of HO1.out.2.1 (o := 1) rfl
      rw [hll] at m1
      have q1 := frz HO1.out.2.1 1
      have hgl := at_lt HO1.out.2.1
      have HWS := Lib.hid hgl
      obtain ⟨f0, f1, y0, y1, v0, v1, u0, u1⟩ := HF.out (World.drew wr) HKK.out
      clear hlp f0 f1 v0 v1 u0 u1
      go_wp2_with (at_builtin; refine wpList_append_lies _ rfl _ _ 34 rfl (g + 1) 53 ir (.agg #[.int .i64 0, .int .i64 0]) 2 16 Tryz.underlying34 hir hr0 hr1 hr2 rfl (by decide) (.slice A P c) P (cellsV 2 repV lp) rfl (by have := HO1.out.2.2; rw [hll] at this; exact this.alloc _) ⟨World.heap (World.drew wr) |>.size, 0, none⟩ 1 1 [.int .i64 x.svc, .int .i64 x.host] rfl rfl (World.news_of_block (heap_alloc_new _ _)) (by intro u hu; simp at hu; rcases hu with rfl | rfl <;> rfl) (by decide) (by unfold maxLen; omega) (by omega) (by (try simp) <;> omega) _ rfl ?_; intro g5 cap5 Z5 hown hgrow _ _; have HP5 := Lib.hid (HO1.out.push x (by rw [hll]; exact hown) (by rw [hll]; exact hgrow)); have k6 := (hgrow.block g (by (try simp) <;> omega) (fun e => by have := (ownsRow_lt HO1.out.2.2 (by rw [hll]; exact e.symm)).1; omega)).trans (old_heap _ HO1.out.2.1); have d0 := cell_of k6 (o := 1) rfl; have d1 := frz k6 1; clear hown hgrow k6 m0 m1 q1 y0 y1)
      go_loopw [9] (fun j wr => ∃ t : Nat, P + t ≤ d.reps.length ∧ j = .int .i64 ((P + t : Nat) : Int) ∧ ∃ A c, Hid (OutAt g w3 wr (.slice A1 d.hosts.length c1) A c (d.reps.take P ++ x :: (d.reps.drop P).take t))) (fun j _ => d.reps.length - (intOf j).toNat)
      case atStart => exact ⟨0, by omega, rfl, _, _, Lib.hid (OutAt.eq (by have := HP5.out; rw [hll] at this; exact this) (by rw [HLP.out]; simp))⟩
      case round =>
        obtain ⟨t, ht, rfl, A, c, hO⟩ := hrel
        obtain ⟨k, hkt⟩ : ∃ k, P + t = k := ⟨_, rfl⟩
        have HKT := Lib.hid hkt
        rw [hkt] at ht ⊢
        clear hkt
        have hki : ((k : Nat) : Int).toNat = k := by omega
        have hK := Lib.hid (below_join K3.out hO.out.1 (by rw [← HGE.out]; exact K3.out.size))
        obtain ⟨f0, f1, y0, y1, v0, v1, u0, u1⟩ := HF.out wr hK.out
        by_cases hlt : k < d.reps.length
        · obtain ⟨z, hz⟩ : ∃ z, d.reps[k]? = some z := ⟨_, List.getElem?_eq_getElem hlt⟩
          have HK := (H.out.on hK.out (Nat.le_refl _)).reps
          obtain ⟨b, oo, e0, -, -⟩ := HK.at_ hz
          rw [e0] at HK f1
          obtain ⟨z0, z1⟩ := rep_at HK hz
          have hkl : (k : Int) < ((d.reps.length : Nat) : Int) := by omega
          have hO2 := Lib.hid (mid_take (x := x) (P := P) (t := t) (z := z) (by rw [HKT.out]; exact hz))
          obtain ⟨l, hl⟩ : ∃ l, d.reps.take P ++ x :: (d.reps.drop P).take t = l := ⟨_, rfl⟩
          have hln : l.length ≤ 2000 := by rw [← hl]; simp; omega
          rw [hl] at hO2 hO
          clear hl hz HK e0
          have m0 := cell_of hO.out.2.1 (o := 0) rfl
          have m1 := cell_of hO.out.2.1 (o := 1) rfl
          have q1 := frz hO.out.2.1 1
          have hgl := at_lt hO.out.2.1
          have hOD := Lib.hid (hO.out.drew)
          have ma : (World.drew wr |>.alloc (.cells #[.int .i64 z.svc, .int .i64 z.host] 53)).cell? ⟨g, 1, none⟩ = some (.slice A l.length c) := cell_of (old_heap _ hOD.out.2.1) rfl
          clear f0 v0 v1 u0 u1 y0 y1
          go_wp2_with (fail)
          go_region_law (refine step_append_lies _ rfl (.tmp 81) (.tmp 87) 34 rfl (g + 1) 53 ir (.agg #[.int .i64 0, .int .i64 0]) 2 16 Tryz.underlying34 hir hr0 hr1 hr2 rfl (by decide) (.slice A l.length c) l.length (cellsV 2 repV l) (by simp [Act.eval, Act.put]) (hOD.out.2.2.alloc _) ⟨wr.heap.size, 0, none⟩ 1 1 [.int .i64 z.svc, .int .i64 z.host] (by simp [Act.eval, Act.put]) rfl (World.news_of_block (heap_alloc_new _ _)) (by intro u hu; simp at hu; rcases hu with rfl | rfl <;> rfl) (by omega) (by unfold maxLen; omega) (by omega) (by (try simp) <;> omega) _ rfl ?_; intro g4 cap4 Z hown hgrow _ _; have HP := Lib.hid (hOD.out.push z hown hgrow); have k6 := (hgrow.block g (by (try simp) <;> omega) (fun e => by have := (ownsRow_lt hOD.out.2.2 e.symm).1; omega)).trans (old_heap _ hOD.out.2.1); have d0 := cell_of k6 (o := 1) rfl; have d1 := frz k6 1; clear hown hgrow k6)
          all_goals go_wp2_with (fail)
          all_goals (refine ⟨⟨t + 1, by have := HKT.out; omega, by have := HKT.out; go_num, some ⟨g4, 0, none⟩, cap4, Lib.hid ?_⟩, by simp only [intOf]; omega⟩; rw [hO2.out]; exact HP.out)
        · obtain rfl : k = d.reps.length := by omega
          have hO2 := Lib.hid (show OutAt g w3 wr (.slice A1 d.hosts.length c1) A c (startL d.reps x) by
            have h1 := hO.out
            have h2 := HKT.out
            refine OutAt.eq h1 ?_
            unfold startL
            rw [HPD.out, List.take_of_length_le (i := t) (by rw [List.length_drop]; omega)])
          have m0 := cell_of hO2.out.2.1 (o := 0) rfl
          have m1 := cell_of hO2.out.2.1 (o := 1) rfl
          go_wp2_with (fail)
          refine ret2t (i := 4) (b := B + 1 + 1) (j := 5) rfl rfl rfl rfl (row_store2 (HV.out wr hK.out) _ _) ?_
          rw [HRR.out]
          have hq : startP d x = (⟨d.hosts, startL d.reps x⟩, 0) := by unfold startP; rw [Q1.out, Q2.out, HS.out, HT.out, if_pos (by rfl), if_neg (by simp), if_neg HL.out]
          rw [hq]
          have e1 := HLT.out
          have e2 := HW23.out
          have e3 := HWW2.out
          have e5 := HGE.out
          have e6 : World.ownsRow wr w2.heap.size 58 2 (.slice A1 d.hosts.length c1) d.hosts.length (cellsV 2 hstV d.hosts) := own_on O3.out hO2.out.1 (by omega)
          refine ⟨⟨A1, c1, A, c⟩, rfl, ⟨?_, ?_⟩, ?_⟩
          · exact own_mono (ownsRow_setCell_below (ownsRow_setCell_below e6 (a := ⟨B + 1 + 1, 0, none⟩) (by show B + 1 + 1 < _; omega) _) (a := ⟨B + 1 + 1, 1, none⟩) (by show B + 1 + 1 < _; omega) _) (by omega)
          · exact own_mono (ownsRow_setCell_below (ownsRow_setCell_below hO2.out.2.2 (a := ⟨B + 1 + 1, 0, none⟩) (by show B + 1 + 1 < _; omega) _) (a := ⟨B + 1 + 1, 1, none⟩) (by show B + 1 + 1 < _; omega) _) (by omega)
          · rw [hA]; exact ends2 (below_join HB.out hK.out hle) (by omega) _ _
end Go.Proofs.YtbbadnlaelgmlaaGreat
